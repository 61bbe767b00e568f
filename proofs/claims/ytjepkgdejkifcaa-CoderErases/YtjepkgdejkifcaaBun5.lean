/- Texts put together: RefMemC, RefSynA, RefSynB, RefSynC, RefLpc, RefGrow, RefDir, RefEra, LCdE. -/
import Derived.Test.YtjepkgdejkifcaaBun4
import Derived.Test.YtjepkgdejkifcaaBun2
import Derived.Test.YtjepkgdejkifcaaBun1
import Derived.BigQuiet
import Derived.Deep.QuietTactic
/- RefMemC -/
namespace Go.Proofs.Ytjepkgdejkifcaa
open Go.RowKit
set_option linter.unusedVariables false
set_option linter.unusedSimpArgs false
set_option maxHeartbeats 2000000
set_option maxRecDepth 100000 in
theorem refErased_no1 (l : List Int) (s : Bool) (half : Int) (hl : l.length = 101) (h64 : In64 l) (hg : goodM l = false) (w : World) : Calls Try.prog 13 #[memV l s, .int .i64 half] w (MemE w (erM l half) (erS l half s) (erL l half) (erE l half)) := by
  have M0 := hide (MmS.new w l s)
  have GD := hide (fun wr => refGoodM_any l s hl h64 wr)
  rw [hg] at GD
  have hno : ¬ erO l half := by unfold erO; rintro ⟨k, _⟩; rw [hg] at k; cases k
  have F := hide (show ∀ w', w.grownBy w' none → MemE w (erM l half) (erS l half s) (erL l half) (erE l half) (.returned (.tuple #[memV (zeros 101) false, .slice none 0 0, .int .i64 2])) w' from fun w' q => ⟨_, by rw [(er_no (s := s) hno).1, (er_no (s := s) hno).2.1, (er_no (s := s) hno).2.2.2], by rw [(er_no (s := s) hno).2.2.1]; exact Own_nil _ _, q⟩)
  have CL := hide (memC_len hl s)
  have AL := hide (BlkM.all s hl)
  have ZL := hide (memC_len (zeros_len 101) false)
  have ZO := hide (memC_one (zeros 101) false)
  have hz := zero_mem
  have ZB := hide (fun wr (h : MmS w l s wr) => h.fin (zeros 101) false (zeros_len 101))
  clear hg h64 hno
  generalize MemE w (erM l half) (erS l half s) (erL l half) (erE l half) = T at *
  unfold memV at hz F GD ⊢
  go_enter Try.func13, Try.ntmps13
  go_upto_region 1 with fail
  generalize (w.alloc (.cells (memC l s).toArray 25)).alloc (.cells (memC (zeros 101) false).toArray 25) = W0 at *
  go_wp2_with (refine wpList_load_v rfl 25 _ rfl w.heap.size 0 102 rfl 25 (memC l s) M0.out.1 _ Try.underlying25 rfl size102 (by rw [CL.out]; omega) _ AL.out ?_)
  refine (GD.out W0).mono ?_
  rintro e W1 ⟨rfl, g1⟩
  have M1 := hide (M0.out.keep g1)
  have PB := hide (ZB.out W1 M1.out)
  have FF := hide (F.out _ PB.out.2)
  clear M0 g1 GD ZB F
  go_wp2_with (first | refine wpList_store_v rfl 25 _ _ rfl (w.heap.size + 1) 0 25 (memC (zeros 101) false) (memC (zeros 101) false) rfl rfl M1.out.2.1 (by rw [ZL.out]; omega) (by rw [ZL.out]; exact size102) ZO.out ?_)
  have hlv := loadVar_v PB.out.1 _ Try.underlying25 rfl (by rw [ZL.out]; exact size102)
  refine bodyPost_ret (v := .tuple #[.agg (memC (zeros 101) false).toArray, .slice none 0 0, .int .i64 2]) ?_ rfl FF.out
  simp [results, Try.results13, asAddr, Act.put, hlv]
set_option maxRecDepth 100000 in
theorem refErased_no2 (l : List Int) (s : Bool) (half : Int) (hl : l.length = 101) (h64 : In64 l) (hg : goodM l = true) (hh : half < 0) (w : World) : Calls Try.prog 13 #[memV l s, .int .i64 half] w (MemE w (erM l half) (erS l half s) (erL l half) (erE l half)) := by
  have M0 := hide (MmS.new w l s)
  have GD := hide (fun wr => refGoodM_any l s hl h64 wr)
  rw [hg] at GD
  have hno : ¬ erO l half := by unfold erO; omega
  have F := hide (show ∀ w', w.grownBy w' none → MemE w (erM l half) (erS l half s) (erL l half) (erE l half) (.returned (.tuple #[memV (zeros 101) false, .slice none 0 0, .int .i64 2])) w' from fun w' q => ⟨_, by rw [(er_no (s := s) hno).1, (er_no (s := s) hno).2.1, (er_no (s := s) hno).2.2.2], by rw [(er_no (s := s) hno).2.2.1]; exact Own_nil _ _, q⟩)
  have CL := hide (memC_len hl s)
  have AL := hide (BlkM.all s hl)
  have ZL := hide (memC_len (zeros_len 101) false)
  have ZO := hide (memC_one (zeros 101) false)
  have hz := zero_mem
  have ZB := hide (fun wr (h : MmS w l s wr) => h.fin (zeros 101) false (zeros_len 101))
  clear hg h64 hno
  generalize MemE w (erM l half) (erS l half s) (erL l half) (erE l half) = T at *
  unfold memV at hz F GD ⊢
  go_enter Try.func13, Try.ntmps13
  go_upto_region 1 with fail
  generalize (w.alloc (.cells (memC l s).toArray 25)).alloc (.cells (memC (zeros 101) false).toArray 25) = W0 at *
  go_wp2_with (refine wpList_load_v rfl 25 _ rfl w.heap.size 0 102 rfl 25 (memC l s) M0.out.1 _ Try.underlying25 rfl size102 (by rw [CL.out]; omega) _ AL.out ?_)
  refine (GD.out W0).mono ?_
  rintro e W1 ⟨rfl, g1⟩
  have M1 := hide (M0.out.keep g1)
  have PB := hide (ZB.out W1 M1.out)
  have FF := hide (F.out _ PB.out.2)
  clear M0 g1 GD ZB F
  go_wp2_with (first | refine wpList_store_v rfl 25 _ _ rfl (w.heap.size + 1) 0 25 (memC (zeros 101) false) (memC (zeros 101) false) rfl rfl M1.out.2.1 (by rw [ZL.out]; omega) (by rw [ZL.out]; exact size102) ZO.out ?_)
  have hlv := loadVar_v PB.out.1 _ Try.underlying25 rfl (by rw [ZL.out]; exact size102)
  refine bodyPost_ret (v := .tuple #[.agg (memC (zeros 101) false).toArray, .slice none 0 0, .int .i64 2]) ?_ rfl FF.out
  simp [results, Try.results13, asAddr, Act.put, hlv]
set_option maxRecDepth 100000 in
theorem refErased_no3 (l : List Int) (s : Bool) (half : Int) (hl : l.length = 101) (h64 : In64 l) (hg : goodM l = true) (hh : 1 < half) (w : World) : Calls Try.prog 13 #[memV l s, .int .i64 half] w (MemE w (erM l half) (erS l half s) (erL l half) (erE l half)) := by
  have M0 := hide (MmS.new w l s)
  have GD := hide (fun wr => refGoodM_any l s hl h64 wr)
  rw [hg] at GD
  have hno : ¬ erO l half := by unfold erO; omega
  have F := hide (show ∀ w', w.grownBy w' none → MemE w (erM l half) (erS l half s) (erL l half) (erE l half) (.returned (.tuple #[memV (zeros 101) false, .slice none 0 0, .int .i64 2])) w' from fun w' q => ⟨_, by rw [(er_no (s := s) hno).1, (er_no (s := s) hno).2.1, (er_no (s := s) hno).2.2.2], by rw [(er_no (s := s) hno).2.2.1]; exact Own_nil _ _, q⟩)
  have CL := hide (memC_len hl s)
  have AL := hide (BlkM.all s hl)
  have ZL := hide (memC_len (zeros_len 101) false)
  have ZO := hide (memC_one (zeros 101) false)
  have hz := zero_mem
  have ZB := hide (fun wr (h : MmS w l s wr) => h.fin (zeros 101) false (zeros_len 101))
  clear hg h64 hno
  generalize MemE w (erM l half) (erS l half s) (erL l half) (erE l half) = T at *
  unfold memV at hz F GD ⊢
  go_enter Try.func13, Try.ntmps13
  go_upto_region 1 with fail
  generalize (w.alloc (.cells (memC l s).toArray 25)).alloc (.cells (memC (zeros 101) false).toArray 25) = W0 at *
  go_wp2_with (refine wpList_load_v rfl 25 _ rfl w.heap.size 0 102 rfl 25 (memC l s) M0.out.1 _ Try.underlying25 rfl size102 (by rw [CL.out]; omega) _ AL.out ?_)
  refine (GD.out W0).mono ?_
  rintro e W1 ⟨rfl, g1⟩
  have M1 := hide (M0.out.keep g1)
  have PB := hide (ZB.out W1 M1.out)
  have FF := hide (F.out _ PB.out.2)
  clear M0 g1 GD ZB F
  go_wp2_with (first | refine wpList_store_v rfl 25 _ _ rfl (w.heap.size + 1) 0 25 (memC (zeros 101) false) (memC (zeros 101) false) rfl rfl M1.out.2.1 (by rw [ZL.out]; omega) (by rw [ZL.out]; exact size102) ZO.out ?_)
  have hlv := loadVar_v PB.out.1 _ Try.underlying25 rfl (by rw [ZL.out]; exact size102)
  refine bodyPost_ret (v := .tuple #[.agg (memC (zeros 101) false).toArray, .slice none 0 0, .int .i64 2]) ?_ rfl FF.out
  simp [results, Try.results13, asAddr, Act.put, hlv]
set_option maxRecDepth 100000 in
theorem refErased_up (l : List Int) (s : Bool) (half : Int) (hl : l.length = 101) (h64 : In64 l) (hg : goodM l = true) (hh : half = 0) (h6 : nth l 99 < 6) (w : World) : Calls Try.prog 13 #[memV l s, .int .i64 half] w (MemE w (erM l half) (erS l half s) (erL l half) (erE l half)) := by
  have M0 := hide (MmS.new w l s)
  have GD := hide (fun wr => refGoodM_any l s hl h64 wr)
  have hk : erO l half := ⟨hg, by omega, by omega⟩
  have EB := erN_bd l half hg
  rw [hg] at GD
  have hx1 : ¬ half < 0 := by omega
  have hx2 : ¬ 1 < half := by omega
  have hx3 : (half == 0) = true := beq_iff_eq.2 hh
  have h60 : 0 ≤ nth l 99 := ((goodM_iff l).1 hg 99 (by omega)).1
  obtain ⟨er, her⟩ : ∃ er, erN l half = er := ⟨_, rfl⟩
  obtain ⟨f1, hf1⟩ : ∃ f1, fdV (nth l 96) er = f1 := ⟨_, rfl⟩
  obtain ⟨f2, hf2⟩ : ∃ f2, fdV (nth l 97) er = f2 := ⟨_, rfl⟩
  obtain ⟨sz, hsz⟩ : ∃ sz, f1 / 4 = sz := ⟨_, rfl⟩
  have NZ := hide (fun wr => refNoises_any 40 (nth l 100) sz wr (by omega) (h64 100))
  rw [show ((40 : Nat) : Int) = 40 from rfl] at NZ
  have EZ : nzL (nth l 100) sz 40 = erZ l half := by unfold erZ; rw [her, hf1, hsz]
  rw [EZ] at NZ
  have MO := er_mix l half hg
  rw [her, hf2] at MO
  have MX := hide (fun v wr (hv : Ints wr v (erZ l half)) => refMixE_any (prt l 16 80) (nth l 98) f2 v (erZ l half) wr (prt_len _ _ _) (fun i => by
    by_cases hi : i < 80
    · rw [prt_nth _ _ _ _ hi]; exact h64 _
    · rw [getD_out _ i (by rw [prt_len]; omega)]; omega) (right_64 (nzL_right _ _ _)) hv (by rw [erZ_len]; omega))
  rw [(mxL_yes (h := prt l 16 80) MO).1, (mxL_yes (h := prt l 16 80) MO).2] at MX
  have EX : mxA (pasL (prt l 16 80) (nth l 98)) f2 (erZ l half) = erX l half := by unfold erX; rw [her, hf2]
  rw [EX] at MX
  have KP := hide (fun v wr (hv : Ints wr v (erX l half)) => refKeep_any (prt l 16 80) v (erX l half) wr (prt_len _ _ _) (right_64 (mxA_right _ _ _)) hv (by rw [erX_len]; omega))
  rw [(kpL_yes (h := prt l 16 80) (erX_len l half)).1, (kpL_yes (h := prt l 16 80) (erX_len l half)).2] at KP
  have KL := hide (kpA_len (prt l 16 80) (erX l half))
  obtain ⟨l1, hl1⟩ : ∃ l1, l.set 99 (nth l 99 + 1) = l1 := ⟨_, rfl⟩
  have E1 : l1 = l.set 99 er := by rw [← hl1, ← her]; unfold erN; rw [if_pos ⟨hh, h6⟩]
  have F := hide (show ∀ v' w', Own w.heap.size w' v' (erX l half) → w.grownBy w' none → MemE w (erM l half) (erS l half s) (erL l half) (erE l half) (.returned (.tuple #[memV (ovr (l1.set 100 (sdN (nth l 100) 40)) 16 (kpA (prt l 16 80) (erX l half))) s, v', .int .i64 0])) w' from fun v' w' o q =>
    ⟨v', by rw [(er_yes (s := s) hk).1, (er_yes (s := s) hk).2.1, (er_yes (s := s) hk).2.2.2]; unfold memT; rw [her, E1], by rw [(er_yes (s := s) hk).2.2.1]; exact o, q⟩)
  have L1 := hide (show l1.length = 101 by rw [E1, List.length_set]; exact hl)
  have E96 := hide (show nth l1 96 = nth l 96 by rw [E1, setN _ _ _ (by omega), if_neg (by omega)])
  have E97 := hide (show nth l1 97 = nth l 97 by rw [E1, setN _ _ _ (by omega), if_neg (by omega)])
  have E98 := hide (show nth l1 98 = nth l 98 by rw [E1, setN _ _ _ (by omega), if_neg (by omega)])
  have E99 := hide (show nth l1 99 = er by rw [E1, setN _ _ _ (by omega), if_pos rfl])
  have E100 := hide (show nth l1 100 = nth l 100 by rw [E1, setN _ _ _ (by omega), if_neg (by omega)])
  have PS := hide (show prt l1 16 80 = prt l 16 80 by rw [E1]; exact prt_set l 99 _ 16 80 (by omega) (.inr (by omega)))
  have PS2 := hide (fun z => prt_set l1 100 z 16 80 (by rw [L1.out]; omega) (.inr (by omega)))
  have CL := hide (memC_len hl s)
  have AL := hide (BlkM.all s hl)
  have C1 := hide (memC_len L1.out s)
  have P1 := hide (BlkM.part (l := l1) s 16 80 (by rw [L1.out]; omega))
  rw [PS.out] at P1
  have ZL := hide (memC_len (zeros_len 101) false)
  have HL := hide hl
  have fb := fdV_bd (nth l 96) er
  rw [hf1] at fb
  have FD1 := hide hf1
  have FD2 := hide hf2
  have hsz1 : f1.tdiv 4 = sz := by rw [Int.tdiv_eq_ediv_of_nonneg fb.1]; exact hsz
  have hsz2 : f1 / 4 = sz := hsz
  have WSZ := wrapI sz (by omega) (by omega)
  have hz := zero_mem
  have HL1 := hide hl1
  have c99 := M0.out.1.cell 99 (by rw [hl]; omega)
  clear hg h64 hl her hf1 hf2 hsz EZ EX MO hk E1 hl1 fb c99 hh EB
  generalize MemE w (erM l half) (erS l half s) (erL l half) (erE l half) = T at *
  unfold memV at hz F GD ⊢
  generalize erX l half = X at *
  generalize erZ l half = N at *
  generalize sdN (nth l 100) 40 = sd at *
  generalize nth l 100 = sd0 at *
  generalize nth l 96 = g0 at *
  generalize nth l 97 = p0 at *
  generalize nth l 98 = lg at *
  go_enter Try.func13, Try.ntmps13
  go_upto_region 1 with fail
  generalize (w.alloc (.cells (memC l s).toArray 25)).alloc (.cells (memC (zeros 101) false).toArray 25) = W0 at *
  clear hz
  go_wp2_with (refine wpList_load_v rfl 25 _ rfl w.heap.size 0 102 rfl 25 (memC l s) M0.out.1 _ Try.underlying25 rfl size102 (by rw [CL.out]; omega) _ AL.out ?_)
  refine (GD.out W0).mono ?_
  rintro e W1 ⟨rfl, g1⟩
  have M1 := hide (M0.out.keep g1)
  have c99 := M1.out.1.cell 99 (by rw [HL.out]; omega)
  have f99 := M1.out.1.free 99
  clear M0 g1 GD
  have M2 := hide (show MmS w l1 s (W1.setCell ⟨w.heap.size, 99, none⟩ (.int .i64 (nth l 99 + 1))) from by rw [← HL1.out]; exact M1.out.set 99 (nth l 99 + 1) (by rw [HL.out]; omega))
  generalize hz9 : nth l 99 = z9 at *
  go_upto_region 5 with fail
  clear c99 f99 M1
  generalize W1.setCell ⟨w.heap.size, 99, none⟩ (.int .i64 (z9 + 1)) = W2 at *
  have B2 := hide (show w.heap.size + 1 < W2.heap.size from M2.out.2.1.lt)
  · refine wp_region_held_drew (S := GrownW W2) (by kernel_rfl) (gw_start _) (fun hHeld => ?_)
    refine wpAnyH_take (i := 0) (v := ?vea0) rfl (by kernel_rfl) (by kernel_rfl) (by kernel_rfl) (fun _ _ _ h => h) (Or.inl ⟨by rfl, ?yea0⟩) hHeld ?rea0
    case yea0 => (intro w' hSw; go_simp; (try with_reducible rfl))
    (try simp only [Act.put, sL])
    refine wpAnyH_take (i := 1) (v := .int .i64 sd0) rfl (by kernel_rfl) (by kernel_rfl) (by kernel_rfl) (fun _ _ _ h => h) (Or.inl ⟨by rfl, ?yea1⟩) hHeld ?rea1
    case yea1 => (intro w' hSw; have cc := (M2.out.1.keep hSw).cell 100 (by rw [L1.out]; omega); rw [E100.out] at cc; go_simp; (try with_reducible rfl))
    (try simp only [Act.put, sL])
    refine wpAnyH_take (i := 2) (v := ?vea2) rfl (by kernel_rfl) (by kernel_rfl) (by kernel_rfl) (fun _ _ _ h => h) (Or.inl ⟨by rfl, ?yea2⟩) hHeld ?rea2
    case yea2 => (intro w' hSw; go_simp; (try with_reducible rfl))
    (try simp only [Act.put, sL])
    refine wpAnyH_take (i := 3) (v := .int .i64 g0) rfl (by kernel_rfl) (by kernel_rfl) (by kernel_rfl) (fun _ _ _ h => h) (Or.inl ⟨by rfl, ?yea3⟩) hHeld ?rea3
    case yea3 => (intro w' hSw; have cc := (M2.out.1.keep hSw).cell 96 (by rw [L1.out]; omega); rw [E96.out] at cc; go_simp; (try with_reducible rfl))
    (try simp only [Act.put, sL])
    refine wpAnyH_take (i := 4) (v := ?vea4) rfl (by kernel_rfl) (by kernel_rfl) (by kernel_rfl) (fun _ _ _ h => h) (Or.inl ⟨by rfl, ?yea4⟩) hHeld ?rea4
    case yea4 => (intro w' hSw; go_simp; (try with_reducible rfl))
    (try simp only [Act.put, sL])
    refine wpAnyH_take (i := 5) (v := .int .i64 er) rfl (by kernel_rfl) (by kernel_rfl) (by kernel_rfl) (fun _ _ _ h => h) (Or.inl ⟨by rfl, ?yea5⟩) hHeld ?rea5
    case yea5 => (intro w' hSw; have cc := (M2.out.1.keep hSw).cell 99 (by rw [L1.out]; omega); rw [E99.out] at cc; go_simp; (try with_reducible rfl))
    (try simp only [Act.put, sL])
    refine wpAnyH_ready (rs := [6]) (by kernel_rfl) (by simp) (AllReadyH.cons rfl (fun K hK => ?_) AllReadyH.nil)
    (try simp only [Act.put, sL])
    go_simp
    refine (refFade_any g0 er _).mono ?_
    rintro e w1 ⟨rfl, q1⟩
    have Q1 := hide q1
    clear q1
    rw [FD1.out]
    go_wp2_with fail
    refine hK.out _ _ (gw_trans hHeld Q1.out) (fun hHeld => ?_)
    clear hK
    (try simp only [Act.put, sL])
    clear Q1
    refine wpAnyH_take (i := 7) (v := .int .i64 sz) rfl (by kernel_rfl) (by kernel_rfl) (by kernel_rfl) (fun _ _ _ h => h) (Or.inl ⟨by rfl, ?yea7⟩) hHeld ?rea7
    case yea7 => (intro w' hSw; go_simp; (try simp only [hsz1, hsz2, WSZ]))
    (try simp only [Act.put, sL])
    refine wpAnyH_ready (rs := [8]) (by kernel_rfl) (by simp) (AllReadyH.cons rfl (fun K hK => ?_) AllReadyH.nil)
    (try simp only [Act.put, sL])
    go_simp
    refine (NZ.out _).mono ?_
    rintro e w2 ⟨v2, rfl, o2, q2⟩
    have Q2 := hide q2
    have O2 := hide (o2.base hHeld.size)
    clear q2 o2
    go_wp2_with fail
    refine hK.out _ _ (gw_trans hHeld Q2.out) (fun hHeld => ?_)
    clear hK
    (try simp only [Act.put, sL])
    clear Q2
    refine wpAnyH_take (i := 9) (v := ?vea9) rfl (by kernel_rfl) (by kernel_rfl) (by kernel_rfl) (fun _ _ _ h => h) (Or.inl ⟨by rfl, ?yea9⟩) hHeld ?rea9
    case yea9 => (intro w' hSw; go_simp; (try with_reducible rfl))
    (try simp only [Act.put, sL])
    refine wpAnyH_take (i := 10) (v := ?vea10) rfl (by kernel_rfl) (by kernel_rfl) (by kernel_rfl) (fun _ _ _ h => h) (Or.inl ⟨by rfl, ?yea10⟩) hHeld ?rea10
    case yea10 => (intro w' hSw; go_simp; (try with_reducible rfl))
    (try simp only [Act.put, sL])
    refine wpAnyH_take (i := 11) (v := ?vea11) rfl (by kernel_rfl) (by kernel_rfl) (by kernel_rfl) (fun _ _ _ h => h) (Or.inl ⟨by rfl, ?yea11⟩) hHeld ?rea11
    case yea11 => (intro w' hSw; go_simp; (try with_reducible rfl))
    (try simp only [Act.put, sL])
    refine wpAnyH_take (i := 12) (v := ?vea12) rfl (by kernel_rfl) (by kernel_rfl) (by kernel_rfl) (fun _ _ _ h => h) (Or.inl ⟨by rfl, ?yea12⟩) hHeld ?rea12
    case yea12 => (intro w' hSw; go_simp; (try with_reducible rfl))
    (try simp only [Act.put, sL])
    refine wpAnyH_take (i := 13) (v := ?vea13) rfl (by kernel_rfl) (by kernel_rfl) (by kernel_rfl) (fun _ _ _ h => h) (Or.inl ⟨by rfl, ?yea13⟩) hHeld ?rea13
    case yea13 => (intro w' hSw; go_simp; (try with_reducible rfl))
    (try simp only [Act.put, sL])
    refine wpAnyH_done (by kernel_rfl) ?_ _
    have M3 := hide (M2.out.keep hHeld)
    have O3 := hide O2.out
    clear M2 O2 hHeld NZ
    go_upto_region 6 with fail
    refine wp_region_held_drew (S := GrownW w2) (by kernel_rfl) (gw_start _) (fun hHeld => ?_)
    refine wpAnyH_take (i := 0) (v := ?veb0) rfl (by kernel_rfl) (by kernel_rfl) (by kernel_rfl) (fun _ _ _ h => h) (Or.inl ⟨by rfl, ?yeb0⟩) hHeld ?reb0
    case yeb0 => (intro w' hSw; go_simp; (try with_reducible rfl))
    (try simp only [Act.put, sL])
    refine wpAnyH_take (i := 1) (v := .agg (intsV (prt l 16 80)).toArray) rfl (by kernel_rfl) (by kernel_rfl) (by kernel_rfl) (fun _ _ _ h => h) (Or.inl ⟨by rfl, ?yeb1⟩) hHeld ?reb1
    case yeb1 => (intro w' hSw; exact yields_load_v rfl rfl (M3.out.1.keep hSw) _ Try.underlying23 rfl size80c (by rw [C1.out]; omega) _ P1.out)
    (try simp only [Act.put, sL])
    refine wpAnyH_take (i := 2) (v := ?veb2) rfl (by kernel_rfl) (by kernel_rfl) (by kernel_rfl) (fun _ _ _ h => h) (Or.inl ⟨by rfl, ?yeb2⟩) hHeld ?reb2
    case yeb2 => (intro w' hSw; go_simp; (try with_reducible rfl))
    (try simp only [Act.put, sL])
    refine wpAnyH_take (i := 3) (v := .int .i64 lg) rfl (by kernel_rfl) (by kernel_rfl) (by kernel_rfl) (fun _ _ _ h => h) (Or.inl ⟨by rfl, ?yeb3⟩) hHeld ?reb3
    case yeb3 => (intro w' hSw; have cc := (M3.out.1.keep hSw).cell 98 (by rw [L1.out]; omega); rw [E98.out] at cc; go_simp; (try with_reducible rfl))
    (try simp only [Act.put, sL])
    refine wpAnyH_take (i := 4) (v := ?veb4) rfl (by kernel_rfl) (by kernel_rfl) (by kernel_rfl) (fun _ _ _ h => h) (Or.inl ⟨by rfl, ?yeb4⟩) hHeld ?reb4
    case yeb4 => (intro w' hSw; go_simp; (try with_reducible rfl))
    (try simp only [Act.put, sL])
    refine wpAnyH_take (i := 5) (v := .int .i64 p0) rfl (by kernel_rfl) (by kernel_rfl) (by kernel_rfl) (fun _ _ _ h => h) (Or.inl ⟨by rfl, ?yeb5⟩) hHeld ?reb5
    case yeb5 => (intro w' hSw; have cc := (M3.out.1.keep hSw).cell 97 (by rw [L1.out]; omega); rw [E97.out] at cc; go_simp; (try with_reducible rfl))
    (try simp only [Act.put, sL])
    refine wpAnyH_take (i := 6) (v := ?veb6) rfl (by kernel_rfl) (by kernel_rfl) (by kernel_rfl) (fun _ _ _ h => h) (Or.inl ⟨by rfl, ?yeb6⟩) hHeld ?reb6
    case yeb6 => (intro w' hSw; go_simp; (try with_reducible rfl))
    (try simp only [Act.put, sL])
    refine wpAnyH_take (i := 7) (v := .int .i64 er) rfl (by kernel_rfl) (by kernel_rfl) (by kernel_rfl) (fun _ _ _ h => h) (Or.inl ⟨by rfl, ?yeb7⟩) hHeld ?reb7
    case yeb7 => (intro w' hSw; have cc := (M3.out.1.keep hSw).cell 99 (by rw [L1.out]; omega); rw [E99.out] at cc; go_simp; (try with_reducible rfl))
    (try simp only [Act.put, sL])
    refine wpAnyH_take (i := 9) (v := ?veb9) rfl (by kernel_rfl) (by kernel_rfl) (by kernel_rfl) (fun _ _ _ h => h) (Or.inl ⟨by rfl, ?yeb9⟩) hHeld ?reb9
    case yeb9 => (intro w' hSw; go_simp; (try with_reducible rfl))
    (try simp only [Act.put, sL])
    refine wpAnyH_ready (rs := [8]) (by kernel_rfl) (by simp) (AllReadyH.cons rfl (fun K hK => ?_) AllReadyH.nil)
    (try simp only [Act.put, sL])
    go_simp
    refine (refFade_any p0 er _).mono ?_
    rintro e w3 ⟨rfl, q3⟩
    have Q3 := hide q3
    clear q3
    rw [FD2.out]
    go_wp2_with fail
    refine hK.out _ _ (gw_trans hHeld Q3.out) (fun hHeld => ?_)
    clear hK
    (try simp only [Act.put, sL])
    clear Q3
    refine wpAnyH_ready (rs := [10]) (by kernel_rfl) (by simp) (AllReadyH.cons rfl (fun K hK => ?_) AllReadyH.nil)
    (try simp only [Act.put, sL])
    go_simp
    refine (MX.out v2 _ (O3.out.keep hHeld).ints).mono ?_
    rintro e w4 ⟨v4, rfl, o4, q4⟩
    have Q4 := hide q4
    have O4 := hide (o4.base hHeld.size)
    clear q4 o4
    go_wp2_with fail
    refine hK.out _ _ (gw_trans hHeld Q4.out) (fun hHeld => ?_)
    clear hK
    (try simp only [Act.put, sL])
    clear Q4
    refine wpAnyH_take (i := 11) (v := ?veb11) rfl (by kernel_rfl) (by kernel_rfl) (by kernel_rfl) (fun _ _ _ h => h) (Or.inl ⟨by rfl, ?yeb11⟩) hHeld ?reb11
    case yeb11 => (intro w' hSw; go_simp; (try with_reducible rfl))
    (try simp only [Act.put, sL])
    refine wpAnyH_take (i := 12) (v := ?veb12) rfl (by kernel_rfl) (by kernel_rfl) (by kernel_rfl) (fun _ _ _ h => h) (Or.inl ⟨by rfl, ?yeb12⟩) hHeld ?reb12
    case yeb12 => (intro w' hSw; go_simp; (try with_reducible rfl))
    (try simp only [Act.put, sL])
    refine wpAnyH_take (i := 13) (v := ?veb13) rfl (by kernel_rfl) (by kernel_rfl) (by kernel_rfl) (fun _ _ _ h => h) (Or.inl ⟨by rfl, ?yeb13⟩) hHeld ?reb13
    case yeb13 => (intro w' hSw; go_simp; (try with_reducible rfl))
    (try simp only [Act.put, sL])
    refine wpAnyH_take (i := 14) (v := ?veb14) rfl (by kernel_rfl) (by kernel_rfl) (by kernel_rfl) (fun _ _ _ h => h) (Or.inl ⟨by rfl, ?yeb14⟩) hHeld ?reb14
    case yeb14 => (intro w' hSw; go_simp; (try with_reducible rfl))
    (try simp only [Act.put, sL])
    refine wpAnyH_take (i := 15) (v := ?veb15) rfl (by kernel_rfl) (by kernel_rfl) (by kernel_rfl) (fun _ _ _ h => h) (Or.inl ⟨by rfl, ?yeb15⟩) hHeld ?reb15
    case yeb15 => (intro w' hSw; go_simp; (try with_reducible rfl))
    (try simp only [Act.put, sL])
    refine wpAnyH_done (by kernel_rfl) ?_ _
    have M4' := hide (M3.out.keep hHeld)
    have O4' := hide O4.out
    have BL := hide (show w.heap.size + 1 < w2.heap.size from M3.out.2.1.lt)
    have B1 := hide (show w.heap.size ≤ w2.heap.size from M3.out.2.2.size)
    clear M3 O3 O4 hHeld MX
    have c100 := M4'.out.1.cell 100 (by rw [L1.out]; omega)
    have f100 := M4'.out.1.free 100
    have M3 := hide (M4'.out.set 100 sd (by rw [L1.out]; omega))
    have O3 := hide (O4'.out.keepLt (grown_setCell w4 ⟨w.heap.size, 100, none⟩ (.int .i64 sd)) (by have := BL.out; simp; omega))
    rw [E100.out] at c100
    clear M4' O4'
    go_upto_region 8 with fail
    clear c100 f100
    generalize w4.setCell ⟨w.heap.size, 100, none⟩ (.int .i64 sd) = W3 at *
    have L1' := hide (show (l1.set 100 sd).length = 101 by rw [List.length_set]; exact L1.out)
    have P3 := hide (BlkM.part (l := l1.set 100 sd) s 16 80 (by rw [L1'.out]; omega))
    rw [PS2.out, PS.out] at P3
    have C3 := hide (memC_len L1'.out s)
    have KK := hide (KP.out v4 W3 O3.out.ints)
    clear KP PS PS2
    go_wp2_with (first | refine wpList_load_v rfl 23 _ rfl w.heap.size 16 80 rfl 25 (memC (l1.set 100 sd) s) M3.out.1 _ Try.underlying23 rfl size80c (by rw [C3.out]; omega) _ P3.out ?_)
    refine KK.out.mono ?_
    rintro e W4 ⟨rfl, g4⟩
    have M4 := hide (M3.out.keep g4)
    have O4 := hide (O3.out.keep g4)
    clear KK M3 O3 g4 P3
    generalize kpA (prt l 16 80) X = R at *
    have M5 := hide (M4.out.put 16 R (by rw [KL.out, L1'.out]; omega))
    have O5 := hide (O4.out.keepLt (M4.out.1.put 16 R (by rw [KL.out, L1'.out]; omega)).2 (by have := BL.out; omega))
    have I_ := hide (intsV_one R)
    have IL := hide (show (intsV R).length = 80 by rw [intsV_len]; exact KL.out)
    clear O4
    go_upto_region 9 with (first | refine wpList_store_v rfl 23 _ _ rfl w.heap.size 16 25 (memC (l1.set 100 sd) s) (intsV R) rfl rfl M4.out.1 (by rw [IL.out, C3.out]; omega) (by rw [IL.out]; exact size80c) I_.out ?_)
    (try simp only [Act.put])
    clear M4 I_ IL C3
    generalize putV W4 w.heap.size 16 (intsV R) = W5 at *
    have L5 := hide (show (ovr (l1.set 100 sd) 16 R).length = 101 by rw [ovr_len]; exact L1'.out)
    generalize ovr (l1.set 100 sd) 16 R = m at *
    have A5 := hide (BlkM.all s L5.out)
    have C5 := hide (memC_len L5.out s)
    have ON := hide (memC_one m s)
    have PB := hide (M5.out.fin m s L5.out)
    have O6 := hide (O5.out.keepLt (M5.out.2.1.putAll (m := m) (t := s) (zeros_len 101) L5.out).2 BL.out)
    have FF := hide (F.out _ _ (O6.out.base B1.out) PB.out.2)
    clear F O5 O6
    go_wp2_with (first | refine wpList_load_v rfl 25 _ rfl w.heap.size 0 102 rfl 25 (memC m s) M5.out.1 _ Try.underlying25 rfl size102 (by rw [C5.out]; omega) _ A5.out ?_ | refine wpList_store_v rfl 25 _ _ rfl (w.heap.size + 1) 0 25 (memC (zeros 101) false) (memC m s) rfl rfl M5.out.2.1 (by rw [ZL.out, C5.out]; omega) (by rw [C5.out]; exact size102) ON.out ?_)
    have hlv := loadVar_v PB.out.1 _ Try.underlying25 rfl (by rw [C5.out]; exact size102)
    refine bodyPost_ret (v := .tuple #[.agg (memC m s).toArray, _, .int .i64 0]) ?_ rfl FF.out
    simp [results, Try.results13, asAddr, Act.put, hlv]
set_option maxRecDepth 100000 in
theorem refErased_top (l : List Int) (s : Bool) (half : Int) (hl : l.length = 101) (h64 : In64 l) (hg : goodM l = true) (hh : half = 0) (h6 : ¬ nth l 99 < 6) (w : World) : Calls Try.prog 13 #[memV l s, .int .i64 half] w (MemE w (erM l half) (erS l half s) (erL l half) (erE l half)) := by
  have M0 := hide (MmS.new w l s)
  have GD := hide (fun wr => refGoodM_any l s hl h64 wr)
  have hk : erO l half := ⟨hg, by omega, by omega⟩
  have EB := erN_bd l half hg
  rw [hg] at GD
  have hx1 : ¬ half < 0 := by omega
  have hx2 : ¬ 1 < half := by omega
  have hx3 : (half == 0) = true := beq_iff_eq.2 hh
  obtain ⟨er, her⟩ : ∃ er, erN l half = er := ⟨_, rfl⟩
  obtain ⟨f1, hf1⟩ : ∃ f1, fdV (nth l 96) er = f1 := ⟨_, rfl⟩
  obtain ⟨f2, hf2⟩ : ∃ f2, fdV (nth l 97) er = f2 := ⟨_, rfl⟩
  obtain ⟨sz, hsz⟩ : ∃ sz, f1 / 4 = sz := ⟨_, rfl⟩
  have NZ := hide (fun wr => refNoises_any 40 (nth l 100) sz wr (by omega) (h64 100))
  rw [show ((40 : Nat) : Int) = 40 from rfl] at NZ
  have EZ : nzL (nth l 100) sz 40 = erZ l half := by unfold erZ; rw [her, hf1, hsz]
  rw [EZ] at NZ
  have MO := er_mix l half hg
  rw [her, hf2] at MO
  have MX := hide (fun v wr (hv : Ints wr v (erZ l half)) => refMixE_any (prt l 16 80) (nth l 98) f2 v (erZ l half) wr (prt_len _ _ _) (fun i => by
    by_cases hi : i < 80
    · rw [prt_nth _ _ _ _ hi]; exact h64 _
    · rw [getD_out _ i (by rw [prt_len]; omega)]; omega) (right_64 (nzL_right _ _ _)) hv (by rw [erZ_len]; omega))
  rw [(mxL_yes (h := prt l 16 80) MO).1, (mxL_yes (h := prt l 16 80) MO).2] at MX
  have EX : mxA (pasL (prt l 16 80) (nth l 98)) f2 (erZ l half) = erX l half := by unfold erX; rw [her, hf2]
  rw [EX] at MX
  have KP := hide (fun v wr (hv : Ints wr v (erX l half)) => refKeep_any (prt l 16 80) v (erX l half) wr (prt_len _ _ _) (right_64 (mxA_right _ _ _)) hv (by rw [erX_len]; omega))
  rw [(kpL_yes (h := prt l 16 80) (erX_len l half)).1, (kpL_yes (h := prt l 16 80) (erX_len l half)).2] at KP
  have KL := hide (kpA_len (prt l 16 80) (erX l half))
  obtain ⟨l1, hl1⟩ : ∃ l1, l = l1 := ⟨_, rfl⟩
  have E1 : l1 = l.set 99 er := by rw [← hl1, ← her]; unfold erN; rw [if_neg (fun k => h6 k.2), set_self l 99 (by omega)]
  have F := hide (show ∀ v' w', Own w.heap.size w' v' (erX l half) → w.grownBy w' none → MemE w (erM l half) (erS l half s) (erL l half) (erE l half) (.returned (.tuple #[memV (ovr (l1.set 100 (sdN (nth l 100) 40)) 16 (kpA (prt l 16 80) (erX l half))) s, v', .int .i64 0])) w' from fun v' w' o q =>
    ⟨v', by rw [(er_yes (s := s) hk).1, (er_yes (s := s) hk).2.1, (er_yes (s := s) hk).2.2.2]; unfold memT; rw [her, E1], by rw [(er_yes (s := s) hk).2.2.1]; exact o, q⟩)
  have L1 := hide (show l1.length = 101 by rw [E1, List.length_set]; exact hl)
  have E96 := hide (show nth l1 96 = nth l 96 by rw [E1, setN _ _ _ (by omega), if_neg (by omega)])
  have E97 := hide (show nth l1 97 = nth l 97 by rw [E1, setN _ _ _ (by omega), if_neg (by omega)])
  have E98 := hide (show nth l1 98 = nth l 98 by rw [E1, setN _ _ _ (by omega), if_neg (by omega)])
  have E99 := hide (show nth l1 99 = er by rw [E1, setN _ _ _ (by omega), if_pos rfl])
  have E100 := hide (show nth l1 100 = nth l 100 by rw [E1, setN _ _ _ (by omega), if_neg (by omega)])
  have PS := hide (show prt l1 16 80 = prt l 16 80 by rw [E1]; exact prt_set l 99 _ 16 80 (by omega) (.inr (by omega)))
  have PS2 := hide (fun z => prt_set l1 100 z 16 80 (by rw [L1.out]; omega) (.inr (by omega)))
  have CL := hide (memC_len hl s)
  have AL := hide (BlkM.all s hl)
  have C1 := hide (memC_len L1.out s)
  have P1 := hide (BlkM.part (l := l1) s 16 80 (by rw [L1.out]; omega))
  rw [PS.out] at P1
  have ZL := hide (memC_len (zeros_len 101) false)
  have HL := hide hl
  have fb := fdV_bd (nth l 96) er
  rw [hf1] at fb
  have FD1 := hide hf1
  have FD2 := hide hf2
  have hsz1 : f1.tdiv 4 = sz := by rw [Int.tdiv_eq_ediv_of_nonneg fb.1]; exact hsz
  have hsz2 : f1 / 4 = sz := hsz
  have WSZ := wrapI sz (by omega) (by omega)
  have hz := zero_mem
  have HL1 := hide hl1
  have c99 := M0.out.1.cell 99 (by rw [hl]; omega)
  clear hg h64 hl her hf1 hf2 hsz EZ EX MO hk E1 hl1 fb c99 hh EB
  generalize MemE w (erM l half) (erS l half s) (erL l half) (erE l half) = T at *
  unfold memV at hz F GD ⊢
  generalize erX l half = X at *
  generalize erZ l half = N at *
  generalize sdN (nth l 100) 40 = sd at *
  generalize nth l 100 = sd0 at *
  generalize nth l 96 = g0 at *
  generalize nth l 97 = p0 at *
  generalize nth l 98 = lg at *
  go_enter Try.func13, Try.ntmps13
  go_upto_region 1 with fail
  generalize (w.alloc (.cells (memC l s).toArray 25)).alloc (.cells (memC (zeros 101) false).toArray 25) = W0 at *
  clear hz
  go_wp2_with (refine wpList_load_v rfl 25 _ rfl w.heap.size 0 102 rfl 25 (memC l s) M0.out.1 _ Try.underlying25 rfl size102 (by rw [CL.out]; omega) _ AL.out ?_)
  refine (GD.out W0).mono ?_
  rintro e W1 ⟨rfl, g1⟩
  have M1 := hide (M0.out.keep g1)
  have c99 := M1.out.1.cell 99 (by rw [HL.out]; omega)
  have f99 := M1.out.1.free 99
  clear M0 g1 GD
  go_upto_region 5 with fail
  clear c99 f99
  have M2 := hide (show MmS w l1 s W1 from by rw [← HL1.out]; exact M1.out)
  clear M1
  generalize hW2 : W1 = W2 at *
  clear hW2
  have B2 := hide (show w.heap.size + 1 < W2.heap.size from M2.out.2.1.lt)
  · refine wp_region_held_drew (S := GrownW W2) (by kernel_rfl) (gw_start _) (fun hHeld => ?_)
    refine wpAnyH_take (i := 0) (v := ?vea0) rfl (by kernel_rfl) (by kernel_rfl) (by kernel_rfl) (fun _ _ _ h => h) (Or.inl ⟨by rfl, ?yea0⟩) hHeld ?rea0
    case yea0 => (intro w' hSw; go_simp; (try with_reducible rfl))
    (try simp only [Act.put, sL])
    refine wpAnyH_take (i := 1) (v := .int .i64 sd0) rfl (by kernel_rfl) (by kernel_rfl) (by kernel_rfl) (fun _ _ _ h => h) (Or.inl ⟨by rfl, ?yea1⟩) hHeld ?rea1
    case yea1 => (intro w' hSw; have cc := (M2.out.1.keep hSw).cell 100 (by rw [L1.out]; omega); rw [E100.out] at cc; go_simp; (try with_reducible rfl))
    (try simp only [Act.put, sL])
    refine wpAnyH_take (i := 2) (v := ?vea2) rfl (by kernel_rfl) (by kernel_rfl) (by kernel_rfl) (fun _ _ _ h => h) (Or.inl ⟨by rfl, ?yea2⟩) hHeld ?rea2
    case yea2 => (intro w' hSw; go_simp; (try with_reducible rfl))
    (try simp only [Act.put, sL])
    refine wpAnyH_take (i := 3) (v := .int .i64 g0) rfl (by kernel_rfl) (by kernel_rfl) (by kernel_rfl) (fun _ _ _ h => h) (Or.inl ⟨by rfl, ?yea3⟩) hHeld ?rea3
    case yea3 => (intro w' hSw; have cc := (M2.out.1.keep hSw).cell 96 (by rw [L1.out]; omega); rw [E96.out] at cc; go_simp; (try with_reducible rfl))
    (try simp only [Act.put, sL])
    refine wpAnyH_take (i := 4) (v := ?vea4) rfl (by kernel_rfl) (by kernel_rfl) (by kernel_rfl) (fun _ _ _ h => h) (Or.inl ⟨by rfl, ?yea4⟩) hHeld ?rea4
    case yea4 => (intro w' hSw; go_simp; (try with_reducible rfl))
    (try simp only [Act.put, sL])
    refine wpAnyH_take (i := 5) (v := .int .i64 er) rfl (by kernel_rfl) (by kernel_rfl) (by kernel_rfl) (fun _ _ _ h => h) (Or.inl ⟨by rfl, ?yea5⟩) hHeld ?rea5
    case yea5 => (intro w' hSw; have cc := (M2.out.1.keep hSw).cell 99 (by rw [L1.out]; omega); rw [E99.out] at cc; go_simp; (try with_reducible rfl))
    (try simp only [Act.put, sL])
    refine wpAnyH_ready (rs := [6]) (by kernel_rfl) (by simp) (AllReadyH.cons rfl (fun K hK => ?_) AllReadyH.nil)
    (try simp only [Act.put, sL])
    go_simp
    refine (refFade_any g0 er _).mono ?_
    rintro e w1 ⟨rfl, q1⟩
    have Q1 := hide q1
    clear q1
    rw [FD1.out]
    go_wp2_with fail
    refine hK.out _ _ (gw_trans hHeld Q1.out) (fun hHeld => ?_)
    clear hK
    (try simp only [Act.put, sL])
    clear Q1
    refine wpAnyH_take (i := 7) (v := .int .i64 sz) rfl (by kernel_rfl) (by kernel_rfl) (by kernel_rfl) (fun _ _ _ h => h) (Or.inl ⟨by rfl, ?yea7⟩) hHeld ?rea7
    case yea7 => (intro w' hSw; go_simp; (try simp only [hsz1, hsz2, WSZ]))
    (try simp only [Act.put, sL])
    refine wpAnyH_ready (rs := [8]) (by kernel_rfl) (by simp) (AllReadyH.cons rfl (fun K hK => ?_) AllReadyH.nil)
    (try simp only [Act.put, sL])
    go_simp
    refine (NZ.out _).mono ?_
    rintro e w2 ⟨v2, rfl, o2, q2⟩
    have Q2 := hide q2
    have O2 := hide (o2.base hHeld.size)
    clear q2 o2
    go_wp2_with fail
    refine hK.out _ _ (gw_trans hHeld Q2.out) (fun hHeld => ?_)
    clear hK
    (try simp only [Act.put, sL])
    clear Q2
    refine wpAnyH_take (i := 9) (v := ?vea9) rfl (by kernel_rfl) (by kernel_rfl) (by kernel_rfl) (fun _ _ _ h => h) (Or.inl ⟨by rfl, ?yea9⟩) hHeld ?rea9
    case yea9 => (intro w' hSw; go_simp; (try with_reducible rfl))
    (try simp only [Act.put, sL])
    refine wpAnyH_take (i := 10) (v := ?vea10) rfl (by kernel_rfl) (by kernel_rfl) (by kernel_rfl) (fun _ _ _ h => h) (Or.inl ⟨by rfl, ?yea10⟩) hHeld ?rea10
    case yea10 => (intro w' hSw; go_simp; (try with_reducible rfl))
    (try simp only [Act.put, sL])
    refine wpAnyH_take (i := 11) (v := ?vea11) rfl (by kernel_rfl) (by kernel_rfl) (by kernel_rfl) (fun _ _ _ h => h) (Or.inl ⟨by rfl, ?yea11⟩) hHeld ?rea11
    case yea11 => (intro w' hSw; go_simp; (try with_reducible rfl))
    (try simp only [Act.put, sL])
    refine wpAnyH_take (i := 12) (v := ?vea12) rfl (by kernel_rfl) (by kernel_rfl) (by kernel_rfl) (fun _ _ _ h => h) (Or.inl ⟨by rfl, ?yea12⟩) hHeld ?rea12
    case yea12 => (intro w' hSw; go_simp; (try with_reducible rfl))
    (try simp only [Act.put, sL])
    refine wpAnyH_take (i := 13) (v := ?vea13) rfl (by kernel_rfl) (by kernel_rfl) (by kernel_rfl) (fun _ _ _ h => h) (Or.inl ⟨by rfl, ?yea13⟩) hHeld ?rea13
    case yea13 => (intro w' hSw; go_simp; (try with_reducible rfl))
    (try simp only [Act.put, sL])
    refine wpAnyH_done (by kernel_rfl) ?_ _
    have M3 := hide (M2.out.keep hHeld)
    have O3 := hide O2.out
    clear M2 O2 hHeld NZ
    go_upto_region 6 with fail
    refine wp_region_held_drew (S := GrownW w2) (by kernel_rfl) (gw_start _) (fun hHeld => ?_)
    refine wpAnyH_take (i := 0) (v := ?veb0) rfl (by kernel_rfl) (by kernel_rfl) (by kernel_rfl) (fun _ _ _ h => h) (Or.inl ⟨by rfl, ?yeb0⟩) hHeld ?reb0
    case yeb0 => (intro w' hSw; go_simp; (try with_reducible rfl))
    (try simp only [Act.put, sL])
    refine wpAnyH_take (i := 1) (v := .agg (intsV (prt l 16 80)).toArray) rfl (by kernel_rfl) (by kernel_rfl) (by kernel_rfl) (fun _ _ _ h => h) (Or.inl ⟨by rfl, ?yeb1⟩) hHeld ?reb1
    case yeb1 => (intro w' hSw; exact yields_load_v rfl rfl (M3.out.1.keep hSw) _ Try.underlying23 rfl size80c (by rw [C1.out]; omega) _ P1.out)
    (try simp only [Act.put, sL])
    refine wpAnyH_take (i := 2) (v := ?veb2) rfl (by kernel_rfl) (by kernel_rfl) (by kernel_rfl) (fun _ _ _ h => h) (Or.inl ⟨by rfl, ?yeb2⟩) hHeld ?reb2
    case yeb2 => (intro w' hSw; go_simp; (try with_reducible rfl))
    (try simp only [Act.put, sL])
    refine wpAnyH_take (i := 3) (v := .int .i64 lg) rfl (by kernel_rfl) (by kernel_rfl) (by kernel_rfl) (fun _ _ _ h => h) (Or.inl ⟨by rfl, ?yeb3⟩) hHeld ?reb3
    case yeb3 => (intro w' hSw; have cc := (M3.out.1.keep hSw).cell 98 (by rw [L1.out]; omega); rw [E98.out] at cc; go_simp; (try with_reducible rfl))
    (try simp only [Act.put, sL])
    refine wpAnyH_take (i := 4) (v := ?veb4) rfl (by kernel_rfl) (by kernel_rfl) (by kernel_rfl) (fun _ _ _ h => h) (Or.inl ⟨by rfl, ?yeb4⟩) hHeld ?reb4
    case yeb4 => (intro w' hSw; go_simp; (try with_reducible rfl))
    (try simp only [Act.put, sL])
    refine wpAnyH_take (i := 5) (v := .int .i64 p0) rfl (by kernel_rfl) (by kernel_rfl) (by kernel_rfl) (fun _ _ _ h => h) (Or.inl ⟨by rfl, ?yeb5⟩) hHeld ?reb5
    case yeb5 => (intro w' hSw; have cc := (M3.out.1.keep hSw).cell 97 (by rw [L1.out]; omega); rw [E97.out] at cc; go_simp; (try with_reducible rfl))
    (try simp only [Act.put, sL])
    refine wpAnyH_take (i := 6) (v := ?veb6) rfl (by kernel_rfl) (by kernel_rfl) (by kernel_rfl) (fun _ _ _ h => h) (Or.inl ⟨by rfl, ?yeb6⟩) hHeld ?reb6
    case yeb6 => (intro w' hSw; go_simp; (try with_reducible rfl))
    (try simp only [Act.put, sL])
    refine wpAnyH_take (i := 7) (v := .int .i64 er) rfl (by kernel_rfl) (by kernel_rfl) (by kernel_rfl) (fun _ _ _ h => h) (Or.inl ⟨by rfl, ?yeb7⟩) hHeld ?reb7
    case yeb7 => (intro w' hSw; have cc := (M3.out.1.keep hSw).cell 99 (by rw [L1.out]; omega); rw [E99.out] at cc; go_simp; (try with_reducible rfl))
    (try simp only [Act.put, sL])
    refine wpAnyH_take (i := 9) (v := ?veb9) rfl (by kernel_rfl) (by kernel_rfl) (by kernel_rfl) (fun _ _ _ h => h) (Or.inl ⟨by rfl, ?yeb9⟩) hHeld ?reb9
    case yeb9 => (intro w' hSw; go_simp; (try with_reducible rfl))
    (try simp only [Act.put, sL])
    refine wpAnyH_ready (rs := [8]) (by kernel_rfl) (by simp) (AllReadyH.cons rfl (fun K hK => ?_) AllReadyH.nil)
    (try simp only [Act.put, sL])
    go_simp
    refine (refFade_any p0 er _).mono ?_
    rintro e w3 ⟨rfl, q3⟩
    have Q3 := hide q3
    clear q3
    rw [FD2.out]
    go_wp2_with fail
    refine hK.out _ _ (gw_trans hHeld Q3.out) (fun hHeld => ?_)
    clear hK
    (try simp only [Act.put, sL])
    clear Q3
    refine wpAnyH_ready (rs := [10]) (by kernel_rfl) (by simp) (AllReadyH.cons rfl (fun K hK => ?_) AllReadyH.nil)
    (try simp only [Act.put, sL])
    go_simp
    refine (MX.out v2 _ (O3.out.keep hHeld).ints).mono ?_
    rintro e w4 ⟨v4, rfl, o4, q4⟩
    have Q4 := hide q4
    have O4 := hide (o4.base hHeld.size)
    clear q4 o4
    go_wp2_with fail
    refine hK.out _ _ (gw_trans hHeld Q4.out) (fun hHeld => ?_)
    clear hK
    (try simp only [Act.put, sL])
    clear Q4
    refine wpAnyH_take (i := 11) (v := ?veb11) rfl (by kernel_rfl) (by kernel_rfl) (by kernel_rfl) (fun _ _ _ h => h) (Or.inl ⟨by rfl, ?yeb11⟩) hHeld ?reb11
    case yeb11 => (intro w' hSw; go_simp; (try with_reducible rfl))
    (try simp only [Act.put, sL])
    refine wpAnyH_take (i := 12) (v := ?veb12) rfl (by kernel_rfl) (by kernel_rfl) (by kernel_rfl) (fun _ _ _ h => h) (Or.inl ⟨by rfl, ?yeb12⟩) hHeld ?reb12
    case yeb12 => (intro w' hSw; go_simp; (try with_reducible rfl))
    (try simp only [Act.put, sL])
    refine wpAnyH_take (i := 13) (v := ?veb13) rfl (by kernel_rfl) (by kernel_rfl) (by kernel_rfl) (fun _ _ _ h => h) (Or.inl ⟨by rfl, ?yeb13⟩) hHeld ?reb13
    case yeb13 => (intro w' hSw; go_simp; (try with_reducible rfl))
    (try simp only [Act.put, sL])
    refine wpAnyH_take (i := 14) (v := ?veb14) rfl (by kernel_rfl) (by kernel_rfl) (by kernel_rfl) (fun _ _ _ h => h) (Or.inl ⟨by rfl, ?yeb14⟩) hHeld ?reb14
    case yeb14 => (intro w' hSw; go_simp; (try with_reducible rfl))
    (try simp only [Act.put, sL])
    refine wpAnyH_take (i := 15) (v := ?veb15) rfl (by kernel_rfl) (by kernel_rfl) (by kernel_rfl) (fun _ _ _ h => h) (Or.inl ⟨by rfl, ?yeb15⟩) hHeld ?reb15
    case yeb15 => (intro w' hSw; go_simp; (try with_reducible rfl))
    (try simp only [Act.put, sL])
    refine wpAnyH_done (by kernel_rfl) ?_ _
    have M4' := hide (M3.out.keep hHeld)
    have O4' := hide O4.out
    have BL := hide (show w.heap.size + 1 < w2.heap.size from M3.out.2.1.lt)
    have B1 := hide (show w.heap.size ≤ w2.heap.size from M3.out.2.2.size)
    clear M3 O3 O4 hHeld MX
    have c100 := M4'.out.1.cell 100 (by rw [L1.out]; omega)
    have f100 := M4'.out.1.free 100
    have M3 := hide (M4'.out.set 100 sd (by rw [L1.out]; omega))
    have O3 := hide (O4'.out.keepLt (grown_setCell w4 ⟨w.heap.size, 100, none⟩ (.int .i64 sd)) (by have := BL.out; simp; omega))
    rw [E100.out] at c100
    clear M4' O4'
    go_upto_region 8 with fail
    clear c100 f100
    generalize w4.setCell ⟨w.heap.size, 100, none⟩ (.int .i64 sd) = W3 at *
    have L1' := hide (show (l1.set 100 sd).length = 101 by rw [List.length_set]; exact L1.out)
    have P3 := hide (BlkM.part (l := l1.set 100 sd) s 16 80 (by rw [L1'.out]; omega))
    rw [PS2.out, PS.out] at P3
    have C3 := hide (memC_len L1'.out s)
    have KK := hide (KP.out v4 W3 O3.out.ints)
    clear KP PS PS2
    go_wp2_with (first | refine wpList_load_v rfl 23 _ rfl w.heap.size 16 80 rfl 25 (memC (l1.set 100 sd) s) M3.out.1 _ Try.underlying23 rfl size80c (by rw [C3.out]; omega) _ P3.out ?_)
    refine KK.out.mono ?_
    rintro e W4 ⟨rfl, g4⟩
    have M4 := hide (M3.out.keep g4)
    have O4 := hide (O3.out.keep g4)
    clear KK M3 O3 g4 P3
    generalize kpA (prt l 16 80) X = R at *
    have M5 := hide (M4.out.put 16 R (by rw [KL.out, L1'.out]; omega))
    have O5 := hide (O4.out.keepLt (M4.out.1.put 16 R (by rw [KL.out, L1'.out]; omega)).2 (by have := BL.out; omega))
    have I_ := hide (intsV_one R)
    have IL := hide (show (intsV R).length = 80 by rw [intsV_len]; exact KL.out)
    clear O4
    go_upto_region 9 with (first | refine wpList_store_v rfl 23 _ _ rfl w.heap.size 16 25 (memC (l1.set 100 sd) s) (intsV R) rfl rfl M4.out.1 (by rw [IL.out, C3.out]; omega) (by rw [IL.out]; exact size80c) I_.out ?_)
    (try simp only [Act.put])
    clear M4 I_ IL C3
    generalize putV W4 w.heap.size 16 (intsV R) = W5 at *
    have L5 := hide (show (ovr (l1.set 100 sd) 16 R).length = 101 by rw [ovr_len]; exact L1'.out)
    generalize ovr (l1.set 100 sd) 16 R = m at *
    have A5 := hide (BlkM.all s L5.out)
    have C5 := hide (memC_len L5.out s)
    have ON := hide (memC_one m s)
    have PB := hide (M5.out.fin m s L5.out)
    have O6 := hide (O5.out.keepLt (M5.out.2.1.putAll (m := m) (t := s) (zeros_len 101) L5.out).2 BL.out)
    have FF := hide (F.out _ _ (O6.out.base B1.out) PB.out.2)
    clear F O5 O6
    go_wp2_with (first | refine wpList_load_v rfl 25 _ rfl w.heap.size 0 102 rfl 25 (memC m s) M5.out.1 _ Try.underlying25 rfl size102 (by rw [C5.out]; omega) _ A5.out ?_ | refine wpList_store_v rfl 25 _ _ rfl (w.heap.size + 1) 0 25 (memC (zeros 101) false) (memC m s) rfl rfl M5.out.2.1 (by rw [ZL.out, C5.out]; omega) (by rw [C5.out]; exact size102) ON.out ?_)
    have hlv := loadVar_v PB.out.1 _ Try.underlying25 rfl (by rw [C5.out]; exact size102)
    refine bodyPost_ret (v := .tuple #[.agg (memC m s).toArray, _, .int .i64 0]) ?_ rfl FF.out
    simp [results, Try.results13, asAddr, Act.put, hlv]
set_option maxRecDepth 100000 in
theorem refErased_two (l : List Int) (s : Bool) (half : Int) (hl : l.length = 101) (h64 : In64 l) (hg : goodM l = true) (hh : half = 1) (w : World) : Calls Try.prog 13 #[memV l s, .int .i64 half] w (MemE w (erM l half) (erS l half s) (erL l half) (erE l half)) := by
  have M0 := hide (MmS.new w l s)
  have GD := hide (fun wr => refGoodM_any l s hl h64 wr)
  have hk : erO l half := ⟨hg, by omega, by omega⟩
  have EB := erN_bd l half hg
  rw [hg] at GD
  have hx1 : ¬ half < 0 := by omega
  have hx2 : ¬ 1 < half := by omega
  have hx3 : (half == 0) = false := beq_eq_false_iff_ne.2 (by omega)
  obtain ⟨er, her⟩ : ∃ er, erN l half = er := ⟨_, rfl⟩
  obtain ⟨f1, hf1⟩ : ∃ f1, fdV (nth l 96) er = f1 := ⟨_, rfl⟩
  obtain ⟨f2, hf2⟩ : ∃ f2, fdV (nth l 97) er = f2 := ⟨_, rfl⟩
  obtain ⟨sz, hsz⟩ : ∃ sz, f1 / 4 = sz := ⟨_, rfl⟩
  have NZ := hide (fun wr => refNoises_any 40 (nth l 100) sz wr (by omega) (h64 100))
  rw [show ((40 : Nat) : Int) = 40 from rfl] at NZ
  have EZ : nzL (nth l 100) sz 40 = erZ l half := by unfold erZ; rw [her, hf1, hsz]
  rw [EZ] at NZ
  have MO := er_mix l half hg
  rw [her, hf2] at MO
  have MX := hide (fun v wr (hv : Ints wr v (erZ l half)) => refMixE_any (prt l 16 80) (nth l 98) f2 v (erZ l half) wr (prt_len _ _ _) (fun i => by
    by_cases hi : i < 80
    · rw [prt_nth _ _ _ _ hi]; exact h64 _
    · rw [getD_out _ i (by rw [prt_len]; omega)]; omega) (right_64 (nzL_right _ _ _)) hv (by rw [erZ_len]; omega))
  rw [(mxL_yes (h := prt l 16 80) MO).1, (mxL_yes (h := prt l 16 80) MO).2] at MX
  have EX : mxA (pasL (prt l 16 80) (nth l 98)) f2 (erZ l half) = erX l half := by unfold erX; rw [her, hf2]
  rw [EX] at MX
  have KP := hide (fun v wr (hv : Ints wr v (erX l half)) => refKeep_any (prt l 16 80) v (erX l half) wr (prt_len _ _ _) (right_64 (mxA_right _ _ _)) hv (by rw [erX_len]; omega))
  rw [(kpL_yes (h := prt l 16 80) (erX_len l half)).1, (kpL_yes (h := prt l 16 80) (erX_len l half)).2] at KP
  have KL := hide (kpA_len (prt l 16 80) (erX l half))
  obtain ⟨l1, hl1⟩ : ∃ l1, l = l1 := ⟨_, rfl⟩
  have E1 : l1 = l.set 99 er := by rw [← hl1, ← her]; unfold erN; rw [if_neg (fun k => by omega), set_self l 99 (by omega)]
  have F := hide (show ∀ v' w', Own w.heap.size w' v' (erX l half) → w.grownBy w' none → MemE w (erM l half) (erS l half s) (erL l half) (erE l half) (.returned (.tuple #[memV (ovr (l1.set 100 (sdN (nth l 100) 40)) 16 (kpA (prt l 16 80) (erX l half))) s, v', .int .i64 0])) w' from fun v' w' o q =>
    ⟨v', by rw [(er_yes (s := s) hk).1, (er_yes (s := s) hk).2.1, (er_yes (s := s) hk).2.2.2]; unfold memT; rw [her, E1], by rw [(er_yes (s := s) hk).2.2.1]; exact o, q⟩)
  have L1 := hide (show l1.length = 101 by rw [E1, List.length_set]; exact hl)
  have E96 := hide (show nth l1 96 = nth l 96 by rw [E1, setN _ _ _ (by omega), if_neg (by omega)])
  have E97 := hide (show nth l1 97 = nth l 97 by rw [E1, setN _ _ _ (by omega), if_neg (by omega)])
  have E98 := hide (show nth l1 98 = nth l 98 by rw [E1, setN _ _ _ (by omega), if_neg (by omega)])
  have E99 := hide (show nth l1 99 = er by rw [E1, setN _ _ _ (by omega), if_pos rfl])
  have E100 := hide (show nth l1 100 = nth l 100 by rw [E1, setN _ _ _ (by omega), if_neg (by omega)])
  have PS := hide (show prt l1 16 80 = prt l 16 80 by rw [E1]; exact prt_set l 99 _ 16 80 (by omega) (.inr (by omega)))
  have PS2 := hide (fun z => prt_set l1 100 z 16 80 (by rw [L1.out]; omega) (.inr (by omega)))
  have CL := hide (memC_len hl s)
  have AL := hide (BlkM.all s hl)
  have C1 := hide (memC_len L1.out s)
  have P1 := hide (BlkM.part (l := l1) s 16 80 (by rw [L1.out]; omega))
  rw [PS.out] at P1
  have ZL := hide (memC_len (zeros_len 101) false)
  have HL := hide hl
  have fb := fdV_bd (nth l 96) er
  rw [hf1] at fb
  have FD1 := hide hf1
  have FD2 := hide hf2
  have hsz1 : f1.tdiv 4 = sz := by rw [Int.tdiv_eq_ediv_of_nonneg fb.1]; exact hsz
  have hsz2 : f1 / 4 = sz := hsz
  have WSZ := wrapI sz (by omega) (by omega)
  have hz := zero_mem
  have HL1 := hide hl1
  have c99 := M0.out.1.cell 99 (by rw [hl]; omega)
  clear hg h64 hl her hf1 hf2 hsz EZ EX MO hk E1 hl1 fb c99 hh EB
  generalize MemE w (erM l half) (erS l half s) (erL l half) (erE l half) = T at *
  unfold memV at hz F GD ⊢
  generalize erX l half = X at *
  generalize erZ l half = N at *
  generalize sdN (nth l 100) 40 = sd at *
  generalize nth l 100 = sd0 at *
  generalize nth l 96 = g0 at *
  generalize nth l 97 = p0 at *
  generalize nth l 98 = lg at *
  go_enter Try.func13, Try.ntmps13
  go_upto_region 1 with fail
  generalize (w.alloc (.cells (memC l s).toArray 25)).alloc (.cells (memC (zeros 101) false).toArray 25) = W0 at *
  clear hz
  go_wp2_with (refine wpList_load_v rfl 25 _ rfl w.heap.size 0 102 rfl 25 (memC l s) M0.out.1 _ Try.underlying25 rfl size102 (by rw [CL.out]; omega) _ AL.out ?_)
  refine (GD.out W0).mono ?_
  rintro e W1 ⟨rfl, g1⟩
  have M1 := hide (M0.out.keep g1)
  have c99 := M1.out.1.cell 99 (by rw [HL.out]; omega)
  have f99 := M1.out.1.free 99
  clear M0 g1 GD
  go_upto_region 5 with fail
  clear c99 f99
  have M2 := hide (show MmS w l1 s W1 from by rw [← HL1.out]; exact M1.out)
  clear M1
  generalize hW2 : W1 = W2 at *
  clear hW2
  have B2 := hide (show w.heap.size + 1 < W2.heap.size from M2.out.2.1.lt)
  · refine wp_region_held_drew (S := GrownW W2) (by kernel_rfl) (gw_start _) (fun hHeld => ?_)
    refine wpAnyH_take (i := 0) (v := ?vea0) rfl (by kernel_rfl) (by kernel_rfl) (by kernel_rfl) (fun _ _ _ h => h) (Or.inl ⟨by rfl, ?yea0⟩) hHeld ?rea0
    case yea0 => (intro w' hSw; go_simp; (try with_reducible rfl))
    (try simp only [Act.put, sL])
    refine wpAnyH_take (i := 1) (v := .int .i64 sd0) rfl (by kernel_rfl) (by kernel_rfl) (by kernel_rfl) (fun _ _ _ h => h) (Or.inl ⟨by rfl, ?yea1⟩) hHeld ?rea1
    case yea1 => (intro w' hSw; have cc := (M2.out.1.keep hSw).cell 100 (by rw [L1.out]; omega); rw [E100.out] at cc; go_simp; (try with_reducible rfl))
    (try simp only [Act.put, sL])
    refine wpAnyH_take (i := 2) (v := ?vea2) rfl (by kernel_rfl) (by kernel_rfl) (by kernel_rfl) (fun _ _ _ h => h) (Or.inl ⟨by rfl, ?yea2⟩) hHeld ?rea2
    case yea2 => (intro w' hSw; go_simp; (try with_reducible rfl))
    (try simp only [Act.put, sL])
    refine wpAnyH_take (i := 3) (v := .int .i64 g0) rfl (by kernel_rfl) (by kernel_rfl) (by kernel_rfl) (fun _ _ _ h => h) (Or.inl ⟨by rfl, ?yea3⟩) hHeld ?rea3
    case yea3 => (intro w' hSw; have cc := (M2.out.1.keep hSw).cell 96 (by rw [L1.out]; omega); rw [E96.out] at cc; go_simp; (try with_reducible rfl))
    (try simp only [Act.put, sL])
    refine wpAnyH_take (i := 4) (v := ?vea4) rfl (by kernel_rfl) (by kernel_rfl) (by kernel_rfl) (fun _ _ _ h => h) (Or.inl ⟨by rfl, ?yea4⟩) hHeld ?rea4
    case yea4 => (intro w' hSw; go_simp; (try with_reducible rfl))
    (try simp only [Act.put, sL])
    refine wpAnyH_take (i := 5) (v := .int .i64 er) rfl (by kernel_rfl) (by kernel_rfl) (by kernel_rfl) (fun _ _ _ h => h) (Or.inl ⟨by rfl, ?yea5⟩) hHeld ?rea5
    case yea5 => (intro w' hSw; have cc := (M2.out.1.keep hSw).cell 99 (by rw [L1.out]; omega); rw [E99.out] at cc; go_simp; (try with_reducible rfl))
    (try simp only [Act.put, sL])
    refine wpAnyH_ready (rs := [6]) (by kernel_rfl) (by simp) (AllReadyH.cons rfl (fun K hK => ?_) AllReadyH.nil)
    (try simp only [Act.put, sL])
    go_simp
    refine (refFade_any g0 er _).mono ?_
    rintro e w1 ⟨rfl, q1⟩
    have Q1 := hide q1
    clear q1
    rw [FD1.out]
    go_wp2_with fail
    refine hK.out _ _ (gw_trans hHeld Q1.out) (fun hHeld => ?_)
    clear hK
    (try simp only [Act.put, sL])
    clear Q1
    refine wpAnyH_take (i := 7) (v := .int .i64 sz) rfl (by kernel_rfl) (by kernel_rfl) (by kernel_rfl) (fun _ _ _ h => h) (Or.inl ⟨by rfl, ?yea7⟩) hHeld ?rea7
    case yea7 => (intro w' hSw; go_simp; (try simp only [hsz1, hsz2, WSZ]))
    (try simp only [Act.put, sL])
    refine wpAnyH_ready (rs := [8]) (by kernel_rfl) (by simp) (AllReadyH.cons rfl (fun K hK => ?_) AllReadyH.nil)
    (try simp only [Act.put, sL])
    go_simp
    refine (NZ.out _).mono ?_
    rintro e w2 ⟨v2, rfl, o2, q2⟩
    have Q2 := hide q2
    have O2 := hide (o2.base hHeld.size)
    clear q2 o2
    go_wp2_with fail
    refine hK.out _ _ (gw_trans hHeld Q2.out) (fun hHeld => ?_)
    clear hK
    (try simp only [Act.put, sL])
    clear Q2
    refine wpAnyH_take (i := 9) (v := ?vea9) rfl (by kernel_rfl) (by kernel_rfl) (by kernel_rfl) (fun _ _ _ h => h) (Or.inl ⟨by rfl, ?yea9⟩) hHeld ?rea9
    case yea9 => (intro w' hSw; go_simp; (try with_reducible rfl))
    (try simp only [Act.put, sL])
    refine wpAnyH_take (i := 10) (v := ?vea10) rfl (by kernel_rfl) (by kernel_rfl) (by kernel_rfl) (fun _ _ _ h => h) (Or.inl ⟨by rfl, ?yea10⟩) hHeld ?rea10
    case yea10 => (intro w' hSw; go_simp; (try with_reducible rfl))
    (try simp only [Act.put, sL])
    refine wpAnyH_take (i := 11) (v := ?vea11) rfl (by kernel_rfl) (by kernel_rfl) (by kernel_rfl) (fun _ _ _ h => h) (Or.inl ⟨by rfl, ?yea11⟩) hHeld ?rea11
    case yea11 => (intro w' hSw; go_simp; (try with_reducible rfl))
    (try simp only [Act.put, sL])
    refine wpAnyH_take (i := 12) (v := ?vea12) rfl (by kernel_rfl) (by kernel_rfl) (by kernel_rfl) (fun _ _ _ h => h) (Or.inl ⟨by rfl, ?yea12⟩) hHeld ?rea12
    case yea12 => (intro w' hSw; go_simp; (try with_reducible rfl))
    (try simp only [Act.put, sL])
    refine wpAnyH_take (i := 13) (v := ?vea13) rfl (by kernel_rfl) (by kernel_rfl) (by kernel_rfl) (fun _ _ _ h => h) (Or.inl ⟨by rfl, ?yea13⟩) hHeld ?rea13
    case yea13 => (intro w' hSw; go_simp; (try with_reducible rfl))
    (try simp only [Act.put, sL])
    refine wpAnyH_done (by kernel_rfl) ?_ _
    have M3 := hide (M2.out.keep hHeld)
    have O3 := hide O2.out
    clear M2 O2 hHeld NZ
    go_upto_region 6 with fail
    refine wp_region_held_drew (S := GrownW w2) (by kernel_rfl) (gw_start _) (fun hHeld => ?_)
    refine wpAnyH_take (i := 0) (v := ?veb0) rfl (by kernel_rfl) (by kernel_rfl) (by kernel_rfl) (fun _ _ _ h => h) (Or.inl ⟨by rfl, ?yeb0⟩) hHeld ?reb0
    case yeb0 => (intro w' hSw; go_simp; (try with_reducible rfl))
    (try simp only [Act.put, sL])
    refine wpAnyH_take (i := 1) (v := .agg (intsV (prt l 16 80)).toArray) rfl (by kernel_rfl) (by kernel_rfl) (by kernel_rfl) (fun _ _ _ h => h) (Or.inl ⟨by rfl, ?yeb1⟩) hHeld ?reb1
    case yeb1 => (intro w' hSw; exact yields_load_v rfl rfl (M3.out.1.keep hSw) _ Try.underlying23 rfl size80c (by rw [C1.out]; omega) _ P1.out)
    (try simp only [Act.put, sL])
    refine wpAnyH_take (i := 2) (v := ?veb2) rfl (by kernel_rfl) (by kernel_rfl) (by kernel_rfl) (fun _ _ _ h => h) (Or.inl ⟨by rfl, ?yeb2⟩) hHeld ?reb2
    case yeb2 => (intro w' hSw; go_simp; (try with_reducible rfl))
    (try simp only [Act.put, sL])
    refine wpAnyH_take (i := 3) (v := .int .i64 lg) rfl (by kernel_rfl) (by kernel_rfl) (by kernel_rfl) (fun _ _ _ h => h) (Or.inl ⟨by rfl, ?yeb3⟩) hHeld ?reb3
    case yeb3 => (intro w' hSw; have cc := (M3.out.1.keep hSw).cell 98 (by rw [L1.out]; omega); rw [E98.out] at cc; go_simp; (try with_reducible rfl))
    (try simp only [Act.put, sL])
    refine wpAnyH_take (i := 4) (v := ?veb4) rfl (by kernel_rfl) (by kernel_rfl) (by kernel_rfl) (fun _ _ _ h => h) (Or.inl ⟨by rfl, ?yeb4⟩) hHeld ?reb4
    case yeb4 => (intro w' hSw; go_simp; (try with_reducible rfl))
    (try simp only [Act.put, sL])
    refine wpAnyH_take (i := 5) (v := .int .i64 p0) rfl (by kernel_rfl) (by kernel_rfl) (by kernel_rfl) (fun _ _ _ h => h) (Or.inl ⟨by rfl, ?yeb5⟩) hHeld ?reb5
    case yeb5 => (intro w' hSw; have cc := (M3.out.1.keep hSw).cell 97 (by rw [L1.out]; omega); rw [E97.out] at cc; go_simp; (try with_reducible rfl))
    (try simp only [Act.put, sL])
    refine wpAnyH_take (i := 6) (v := ?veb6) rfl (by kernel_rfl) (by kernel_rfl) (by kernel_rfl) (fun _ _ _ h => h) (Or.inl ⟨by rfl, ?yeb6⟩) hHeld ?reb6
    case yeb6 => (intro w' hSw; go_simp; (try with_reducible rfl))
    (try simp only [Act.put, sL])
    refine wpAnyH_take (i := 7) (v := .int .i64 er) rfl (by kernel_rfl) (by kernel_rfl) (by kernel_rfl) (fun _ _ _ h => h) (Or.inl ⟨by rfl, ?yeb7⟩) hHeld ?reb7
    case yeb7 => (intro w' hSw; have cc := (M3.out.1.keep hSw).cell 99 (by rw [L1.out]; omega); rw [E99.out] at cc; go_simp; (try with_reducible rfl))
    (try simp only [Act.put, sL])
    refine wpAnyH_take (i := 9) (v := ?veb9) rfl (by kernel_rfl) (by kernel_rfl) (by kernel_rfl) (fun _ _ _ h => h) (Or.inl ⟨by rfl, ?yeb9⟩) hHeld ?reb9
    case yeb9 => (intro w' hSw; go_simp; (try with_reducible rfl))
    (try simp only [Act.put, sL])
    refine wpAnyH_ready (rs := [8]) (by kernel_rfl) (by simp) (AllReadyH.cons rfl (fun K hK => ?_) AllReadyH.nil)
    (try simp only [Act.put, sL])
    go_simp
    refine (refFade_any p0 er _).mono ?_
    rintro e w3 ⟨rfl, q3⟩
    have Q3 := hide q3
    clear q3
    rw [FD2.out]
    go_wp2_with fail
    refine hK.out _ _ (gw_trans hHeld Q3.out) (fun hHeld => ?_)
    clear hK
    (try simp only [Act.put, sL])
    clear Q3
    refine wpAnyH_ready (rs := [10]) (by kernel_rfl) (by simp) (AllReadyH.cons rfl (fun K hK => ?_) AllReadyH.nil)
    (try simp only [Act.put, sL])
    go_simp
    refine (MX.out v2 _ (O3.out.keep hHeld).ints).mono ?_
    rintro e w4 ⟨v4, rfl, o4, q4⟩
    have Q4 := hide q4
    have O4 := hide (o4.base hHeld.size)
    clear q4 o4
    go_wp2_with fail
    refine hK.out _ _ (gw_trans hHeld Q4.out) (fun hHeld => ?_)
    clear hK
    (try simp only [Act.put, sL])
    clear Q4
    refine wpAnyH_take (i := 11) (v := ?veb11) rfl (by kernel_rfl) (by kernel_rfl) (by kernel_rfl) (fun _ _ _ h => h) (Or.inl ⟨by rfl, ?yeb11⟩) hHeld ?reb11
    case yeb11 => (intro w' hSw; go_simp; (try with_reducible rfl))
    (try simp only [Act.put, sL])
    refine wpAnyH_take (i := 12) (v := ?veb12) rfl (by kernel_rfl) (by kernel_rfl) (by kernel_rfl) (fun _ _ _ h => h) (Or.inl ⟨by rfl, ?yeb12⟩) hHeld ?reb12
    case yeb12 => (intro w' hSw; go_simp; (try with_reducible rfl))
    (try simp only [Act.put, sL])
    refine wpAnyH_take (i := 13) (v := ?veb13) rfl (by kernel_rfl) (by kernel_rfl) (by kernel_rfl) (fun _ _ _ h => h) (Or.inl ⟨by rfl, ?yeb13⟩) hHeld ?reb13
    case yeb13 => (intro w' hSw; go_simp; (try with_reducible rfl))
    (try simp only [Act.put, sL])
    refine wpAnyH_take (i := 14) (v := ?veb14) rfl (by kernel_rfl) (by kernel_rfl) (by kernel_rfl) (fun _ _ _ h => h) (Or.inl ⟨by rfl, ?yeb14⟩) hHeld ?reb14
    case yeb14 => (intro w' hSw; go_simp; (try with_reducible rfl))
    (try simp only [Act.put, sL])
    refine wpAnyH_take (i := 15) (v := ?veb15) rfl (by kernel_rfl) (by kernel_rfl) (by kernel_rfl) (fun _ _ _ h => h) (Or.inl ⟨by rfl, ?yeb15⟩) hHeld ?reb15
    case yeb15 => (intro w' hSw; go_simp; (try with_reducible rfl))
    (try simp only [Act.put, sL])
    refine wpAnyH_done (by kernel_rfl) ?_ _
    have M4' := hide (M3.out.keep hHeld)
    have O4' := hide O4.out
    have BL := hide (show w.heap.size + 1 < w2.heap.size from M3.out.2.1.lt)
    have B1 := hide (show w.heap.size ≤ w2.heap.size from M3.out.2.2.size)
    clear M3 O3 O4 hHeld MX
    have c100 := M4'.out.1.cell 100 (by rw [L1.out]; omega)
    have f100 := M4'.out.1.free 100
    have M3 := hide (M4'.out.set 100 sd (by rw [L1.out]; omega))
    have O3 := hide (O4'.out.keepLt (grown_setCell w4 ⟨w.heap.size, 100, none⟩ (.int .i64 sd)) (by have := BL.out; simp; omega))
    rw [E100.out] at c100
    clear M4' O4'
    go_upto_region 8 with fail
    clear c100 f100
    generalize w4.setCell ⟨w.heap.size, 100, none⟩ (.int .i64 sd) = W3 at *
    have L1' := hide (show (l1.set 100 sd).length = 101 by rw [List.length_set]; exact L1.out)
    have P3 := hide (BlkM.part (l := l1.set 100 sd) s 16 80 (by rw [L1'.out]; omega))
    rw [PS2.out, PS.out] at P3
    have C3 := hide (memC_len L1'.out s)
    have KK := hide (KP.out v4 W3 O3.out.ints)
    clear KP PS PS2
    go_wp2_with (first | refine wpList_load_v rfl 23 _ rfl w.heap.size 16 80 rfl 25 (memC (l1.set 100 sd) s) M3.out.1 _ Try.underlying23 rfl size80c (by rw [C3.out]; omega) _ P3.out ?_)
    refine KK.out.mono ?_
    rintro e W4 ⟨rfl, g4⟩
    have M4 := hide (M3.out.keep g4)
    have O4 := hide (O3.out.keep g4)
    clear KK M3 O3 g4 P3
    generalize kpA (prt l 16 80) X = R at *
    have M5 := hide (M4.out.put 16 R (by rw [KL.out, L1'.out]; omega))
    have O5 := hide (O4.out.keepLt (M4.out.1.put 16 R (by rw [KL.out, L1'.out]; omega)).2 (by have := BL.out; omega))
    have I_ := hide (intsV_one R)
    have IL := hide (show (intsV R).length = 80 by rw [intsV_len]; exact KL.out)
    clear O4
    go_upto_region 9 with (first | refine wpList_store_v rfl 23 _ _ rfl w.heap.size 16 25 (memC (l1.set 100 sd) s) (intsV R) rfl rfl M4.out.1 (by rw [IL.out, C3.out]; omega) (by rw [IL.out]; exact size80c) I_.out ?_)
    (try simp only [Act.put])
    clear M4 I_ IL C3
    generalize putV W4 w.heap.size 16 (intsV R) = W5 at *
    have L5 := hide (show (ovr (l1.set 100 sd) 16 R).length = 101 by rw [ovr_len]; exact L1'.out)
    generalize ovr (l1.set 100 sd) 16 R = m at *
    have A5 := hide (BlkM.all s L5.out)
    have C5 := hide (memC_len L5.out s)
    have ON := hide (memC_one m s)
    have PB := hide (M5.out.fin m s L5.out)
    have O6 := hide (O5.out.keepLt (M5.out.2.1.putAll (m := m) (t := s) (zeros_len 101) L5.out).2 BL.out)
    have FF := hide (F.out _ _ (O6.out.base B1.out) PB.out.2)
    clear F O5 O6
    go_wp2_with (first | refine wpList_load_v rfl 25 _ rfl w.heap.size 0 102 rfl 25 (memC m s) M5.out.1 _ Try.underlying25 rfl size102 (by rw [C5.out]; omega) _ A5.out ?_ | refine wpList_store_v rfl 25 _ _ rfl (w.heap.size + 1) 0 25 (memC (zeros 101) false) (memC m s) rfl rfl M5.out.2.1 (by rw [ZL.out, C5.out]; omega) (by rw [C5.out]; exact size102) ON.out ?_)
    have hlv := loadVar_v PB.out.1 _ Try.underlying25 rfl (by rw [C5.out]; exact size102)
    refine bodyPost_ret (v := .tuple #[.agg (memC m s).toArray, _, .int .i64 0]) ?_ rfl FF.out
    simp [results, Try.results13, asAddr, Act.put, hlv]
theorem refErased_any (l : List Int) (s : Bool) (half : Int) (hl : l.length = 101) (h64 : In64 l) (w : World) : Calls Try.prog 13 #[memV l s, .int .i64 half] w (MemE w (erM l half) (erS l half s) (erL l half) (erE l half)) := by
  rcases hg : goodM l with _ | _
  · exact refErased_no1 l s half hl h64 hg w
  · by_cases h1 : half < 0
    · exact refErased_no2 l s half hl h64 hg h1 w
    · by_cases h2 : 1 < half
      · exact refErased_no3 l s half hl h64 hg h2 w
      · by_cases h3 : half = 0
        · by_cases h6 : nth l 99 < 6
          · exact refErased_up l s half hl h64 hg h3 h6 w
          · exact refErased_top l s half hl h64 hg h3 h6 w
        · exact refErased_two l s half hl h64 hg (by omega) w
end Go.Proofs.Ytjepkgdejkifcaa

/- RefSynA -/
namespace Go.Proofs.Ytjepkgdejkifcaa
open Go.RowKit
set_option linter.unusedVariables false
set_option linter.unusedSimpArgs false
set_option maxHeartbeats 1000000
set_option maxRecDepth 100000 in
theorem newest_any (p : List Int) (hp : p.length = 8) (v : Value) (l : List Int) (w : World) (h : Ints w v l) (hl : l.length ≤ 1000000000000000000) :
    Calls Try.prog 34 #[.agg (arrI p), v] w (Tells w (.agg (arrI (newL p l)))) := by
  obtain ⟨ad, c, rfl, hc, hcell⟩ := h
  have L0 := hide (laid3 w 22 22 22 p (zeros 8) (zeros 8))
  rw [z8'] at L0
  have HC := hide hcell
  clear hcell
  go_enter Try.func34, Try.ntmps34
  go_wp2_with fail
  have M0 := hide (show Mem3 w _ 22 22 22 p (zeros 8) (zeros 8) from L0.out)
  clear L0
  generalize ((w.alloc (.cells (arrI p) 22)).alloc _).alloc _ = W0 at *
  go_loopw [7] (fun i wr => ∃ (m : Nat) (rs : List Int), i = .int .i64 m ∧ m ≤ 8 ∧ Hid (FillN 8 (fun i => nth (hist p l) i) m rs) ∧ Hid (Mem3 w wr 22 22 22 p (zeros 8) rs)) (fun i _ => 8 - (intOf i).toNat)
  case atStart => exact ⟨0, zeros 8, rfl, Nat.zero_le _, ⟨zeros_len 8, fun j hj => by omega⟩, M0.out⟩
  case round =>
    obtain ⟨m, rs, rfl, hm, hF, hM⟩ := hrel
    clear M0
    by_cases hm8 : m < 8
    · have hlen : rs.length = 8 := hF.out.1
      have NF := hide (fillN_step hF.out hm8)
      have cd := hM.out.2.2.1.cell m (by omega)
      have fd := hM.out.2.2.1.free m
      have NM := hide (hM.out.set3 m (nth (hist p l) m))
      by_cases hml : m < l.length
      · obtain ⟨a, rfl, hv⟩ := HC.out (by omega)
        have hx := grown_keep hM.out.2.2.2 (hv (l.length - 1 - m) (by omega))
        rw [← hist_lt p l m hml] at hx
        have hJ : (l.length : Int) - 1 - (m : Int) = ((l.length - 1 - m : Nat) : Int) := by omega
        clear hF hM hv HC
        generalize nth (hist p l) m = x at *
        generalize nth rs m = y' at *
        have j1 : l.length - 1 - m < l.length := by omega
        generalize l.length - 1 - m = J at *
        have i1 : (m : Int) < 8 := by omega
        have i2 : (m : Int) < l.length := by omega
        go_wp2_with fail
        go_roundw
        case rel => exact ⟨m + 1, _, by go_num, by omega, NF.out, NM.out⟩
        case measure => simp [intOf]; omega
      · have hx := hM.out.1.cell (m - l.length) (by omega)
        rw [← hist_ge p l m (by omega)] at hx
        have hJ : (m : Int) - (l.length : Int) = ((m - l.length : Nat) : Int) := by omega
        clear hF hM HC
        generalize nth (hist p l) m = x at *
        generalize nth rs m = y' at *
        have j1 : m - l.length < 8 := by omega
        have i1 : (m : Int) < 8 := by omega
        have i2 : ¬ (m : Int) < l.length := by omega
        generalize m - l.length = J at *
        go_wp2_with fail
        go_roundw
        case rel => exact ⟨m + 1, _, by go_num, by omega, NF.out, NM.out⟩
        case measure => simp [intOf]; omega
    · obtain rfl : m = 8 := by omega
      have hlen : rs.length = 8 := hF.out.1
      have EL := hide (show newL p l = rs from (fillN_all hF.out).symm)
      have BA := hide hM.out.2.2.1
      have BB := hide hM.out.2.1
      have GM := hide hM.out.2.2.2
      clear hF hM HC
      go_wp2_with (first | refine wpList_load_arr rfl 22 _ rfl _ rfl _ BA.out _ Try.underlying22 rfl (by rw [hlen]; exact size8') ?_ | refine wpList_store_arr rfl 22 _ _ rfl _ (zeros 8) rs rfl rfl BB.out (by rw [hlen, zeros_len]) (by rw [zeros_len]; exact size8') ?_)
      have PU := put_arr (rs' := rs) BB.out (by rw [hlen, zeros_len])
      have hlv := loadVar_arr PU.1 _ Try.underlying22 rfl (by rw [hlen]; exact size8')
      have GF := hide (grown_own GM.out PU.2 (by omega))
      refine bodyPost_ret (v := .agg (arrI rs)) ?_ rfl ?_
      · simp [results, Try.results34, asAddr, Act.put, hlv]
      · rw [EL.out]; exact ⟨rfl, GF.out⟩
set_option maxRecDepth 100000 in
theorem rightFilter_any (a p : List Int) (ha : a.length = 9) (hp : p.length = 8) (v : Value) (l : List Int) (w : World) (h : Ints w v l) (hl : l.length ≤ 1000000000000000000) :
    Calls Try.prog 31 #[.agg (arrI a), .agg (arrI p), v] w (Tells w (.bool (okF a p l))) := by
  have L0 := hide (laid2 w 35 22 a p)
  have RL := hide (fun wr (g : w.grownBy wr none) => refRight_any v l wr (Ints_keep h g) hl)
  have IX := hide (fun j hj => index_arr a Try.underlying35 j hj ha)
  clear h
  go_enter Try.func31, Try.ntmps31
  go_wp2_with (refine wpList_load_arr rfl 35 _ rfl _ rfl _ L0.out.1 _ Try.underlying35 rfl (by rw [ha]; exact size9') ?_)
  have M0 := hide (show Mem2 w _ 35 22 a p from L0.out)
  clear L0
  generalize (w.alloc (.cells (arrI a) 35)).alloc _ = W0 at *
  go_loop [10] (fun i => ∃ m : Nat, i = .int .i64 m ∧ m ≤ 9 ∧ Hid (∀ j, j < m → -1048576 ≤ nth a j ∧ nth a j ≤ 1048576)) (fun i => 9 - (intOf i).toNat)
  case atStart => exact ⟨0, rfl, Nat.zero_le _, fun j hj => by omega⟩
  case round =>
    obtain ⟨m, rfl, hm, hF⟩ := hrel
    by_cases hm9 : m < 9
    · have ix := IX.out m (by omega)
      have i1 : (m : Int) < 9 := by omega
      by_cases hx : -1048576 ≤ nth a m ∧ nth a m ≤ 1048576
      · have NF := hide (show ∀ j, j < m + 1 → -1048576 ≤ nth a j ∧ nth a j ≤ 1048576 from fun j hj => by
          by_cases h : j = m
          · subst h; exact hx
          · exact hF.out j (by omega))
        obtain ⟨x1, x2⟩ := hx
        clear hF IX RL
        generalize nth a m = x at *
        go_wp2_with fail
        go_round
        case rel => exact ⟨m + 1, by go_num, by omega, NF.out⟩
        case measure => simp [intOf]; omega
      · have OK := hide (show okF a p l = false from by
          have : wide20 a = false := by
            rcases hb : wide20 a with _ | _
            · rfl
            · exact absurd ((wide20_iff a).1 hb m (by omega)) hx
          unfold okF; rw [this]; rfl)
        clear hF IX RL
        generalize nth a m = x at *
        have GF := hide M0.out.2.2
        clear M0
        by_cases hx1 : x < -1048576
        · go_wp2_with fail
          go_ret
          exact ⟨by rw [OK.out]; rfl, GF.out⟩
        · have hx2 : 1048576 < x := by omega
          go_wp2_with fail
          go_ret
          exact ⟨by rw [OK.out]; rfl, GF.out⟩
    · obtain rfl : m = 9 := by omega
      have W20 := hide (show wide20 a = true from (wide20_iff a).2 (fun i hi => hF.out i (by omega)))
      have c0 := M0.out.1.cell 0 (by omega)
      have RP := hide (refRight_any (.slice (some ⟨w.heap.size + 1, 0, none⟩) 8 8) p W0 (by
        refine ⟨some ⟨w.heap.size + 1, 0, none⟩, 8, by rw [hp], by omega, fun _ => ⟨_, rfl, fun i hi => ?_⟩⟩
        rw [Addr.add_mid, Nat.zero_add]
        exact M0.out.2.1.cell i hi) (by omega))
      have R1 := hide (RL.out W0 M0.out.2.2)
      have GF := hide M0.out.2.2
      have OK := hide (show okF a p l = (decide (nth a 0 = 4096) && rightB p && rightB l) from by unfold okF; rw [W20.out]; rfl)
      clear hF IX RL M0 W20
      generalize nth a 0 = x at *
      by_cases hx : x = 4096
      · subst hx
        rcases hr : rightB p with _ | _
        · rw [hr] at RP
          have HR := hide hr
          clear R1 hr
          go_wp2_with fail
          refine RP.out.mono ?_
          rintro e w1 ⟨rfl, rfl⟩
          go_wp2_with fail
          go_ret
          exact ⟨by rw [OK.out, HR.out]; rfl, GF.out⟩
        · rw [hr] at RP
          have HR := hide hr
          clear hr
          rcases hs : rightB l with _ | _
          all_goals
            rw [hs] at R1
            have HS := hide hs
            clear hs
            go_wp2_with fail
            refine RP.out.mono ?_
            rintro e w1 ⟨rfl, rfl⟩
            go_wp2_with fail
            refine R1.out.mono ?_
            rintro e w1 ⟨rfl, rfl⟩
            go_wp2_with fail
            go_ret
            exact ⟨by rw [OK.out, HR.out, HS.out]; rfl, GF.out⟩
      · have HX := hide (decide_eq_false hx)
        clear RP R1
        go_wp2_with fail
        go_ret
        exact ⟨by rw [OK.out, HX.out]; rfl, GF.out⟩
end Go.Proofs.Ytjepkgdejkifcaa

/- RefSynB -/
namespace Go.Proofs.Ytjepkgdejkifcaa
open Go.RowKit
set_option linter.unusedVariables false
set_option linter.unusedSimpArgs false
set_option maxHeartbeats 1000000
def ArrR (W0 : World) (L : List Int) (v : Value) (wx : World) : Prop := ∃ b, v = .pointer (some ⟨b, 0, none⟩) ∧ Blk wx b 22 L ∧ W0.heap.size ≤ b ∧ W0.grownBy wx none
def GueM (w wr : World) (a : List Int) (b : Nat) (q : List Int) : Prop := Blk wr w.heap.size 35 a ∧ Blk wr b 22 q ∧ w.grownBy wr none
set_option maxRecDepth 100000 in
theorem guess_any (a p : List Int) (ha : a.length = 9) (hp : p.length = 8) (v : Value) (l : List Int) (n : Nat) (hn : n ≤ l.length) (w : World) (h : Ints w v l) (hsh : Shp v l) (hl : l.length ≤ 1000000000000000000)
    (wa : wide20 a = true) (rp : rightB p = true) (rl : rightB l = true) :
    Calls Try.prog 33 #[.agg (arrI a), .agg (arrI p), v, .int .i64 n] w (Tells w (.int .i64 (gs a (hist p (l.take n))))) := by
  obtain ⟨vA, hA, iA, sA⟩ := slice_h h hsh n hn
  have NW := hide (fun wr (g : w.grownBy wr none) => newest_any p hp vA (l.take n) wr (Ints_keep iA g) (by rw [List.length_take]; omega))
  have hq := newL_len p (l.take n)
  have QR := hide (hist_right p (l.take n) rp (right_take l n rl))
  have AB := hide (nth_in a (-1048576) 1048576 (by omega) (by omega) ((wide20_iff a).1 wa))
  have SB := hide (gsum_bd a (hist p (l.take n)) AB.out QR.out)
  have QN := hide (fun i (hi : i < 8) => newL_nth p (l.take n) i hi)
  have HG := hide (show gs a (hist p (l.take n)) = gsum a (hist p (l.take n)) 8 / 4096 from rfl)
  have HS := hide (fun i => show gsum a (hist p (l.take n)) (i + 1) = gsum a (hist p (l.take n)) i + nth a (i + 1) * nth (hist p (l.take n)) i from rfl)
  have L0 := hide (laid2 w 35 22 a p)
  clear h hsh hl wa rp rl iA sA hn
  generalize newL p (l.take n) = q at *
  generalize hist p (l.take n) = H at *
  generalize gs a H = G at *
  go_enter Try.func33, Try.ntmps33
  go_wp2_with fail
  have BA := hide L0.out.1
  have BP := hide L0.out.2.1
  have G0 := hide L0.out.2.2
  clear L0
  generalize (w.alloc (.cells (arrI a) 35)).alloc _ = W0 at *
  go_cut [9] from 12 (fun s9 wx => ArrR W0 q s9 wx)
  case first =>
    refine wp_region_held_drew (S := GrownW W0) (by kernel_rfl) (gw_start _) (fun hHeld => ?_)
    refine wpAnyH_take (i := 0) (v := .agg (arrI p)) rfl (by kernel_rfl) (by kernel_rfl) (by kernel_rfl) (fun _ _ _ h => h) (Or.inl ⟨by rfl, ?yqa1⟩) hHeld ?rqa1
    case yqa1 => (intro w' hSw; exact yields_load_arr rfl rfl (BP.out.keep hSw) _ Try.underlying22 rfl (by rw [hp]; exact size8'))
    (try simp only [Act.put, sL])
    refine wpAnyH_take (i := 1) (v := ?vqa2) rfl (by kernel_rfl) (by kernel_rfl) (by kernel_rfl) (fun _ _ _ h => h) (Or.inl ⟨by rfl, ?yqa2⟩) hHeld ?rqa2
    case yqa2 => (intro w' hSw; go_simp; (try with_reducible rfl))
    (try simp only [Act.put, sL])
    refine wpAnyH_take (i := 2) (v := ?vqa3) rfl (by kernel_rfl) (by kernel_rfl) (by kernel_rfl) (fun _ _ _ h => h) (Or.inl ⟨by rfl, ?yqa3⟩) hHeld ?rqa3
    case yqa3 => (intro w' hSw; go_simp; (try with_reducible rfl))
    (try simp only [Act.put, sL])
    refine wpAnyH_take (i := 3) (v := vA) rfl (by kernel_rfl) (by kernel_rfl) (by kernel_rfl) (fun _ _ _ h => h) (Or.inl ⟨by rfl, ?yqa4⟩) hHeld ?rqa4
    case yqa4 => (intro w' hSw; go_simp; (try with_reducible rfl))
    (try simp only [Act.put, sL])
    refine wpAnyH_ready (rs := [4, 5]) (by kernel_rfl) (by simp) (AllReadyH.cons rfl (fun K hK => ?gqa5) (AllReadyH.cons rfl (fun K hK => ?gqa6) AllReadyH.nil))
    case gqa5 =>
      (try simp only [Act.put, sL])
      go_simp
      refine (NW.out _ (grown_none G0.out hHeld)).mono ?_
      rintro e wqa7 ⟨rfl, gqa7⟩
      have Gqa7 := hide gqa7
      clear gqa7
      go_wp2_with fail
      refine hK.out _ _ (gw_trans hHeld Gqa7.out) (fun hHeld => ?_)
      clear hK
      (try simp only [Act.put, sL])
      refine wpAnyH_ready (rs := [5]) (by kernel_rfl) (by simp) (AllReadyH.cons rfl (fun K hK => ?_) AllReadyH.nil)
      (try simp only [Act.put, sL])
      go_simp
      go_wp2_with fail
      have HB := hide (show W0.heap.size ≤ wqa7.heap.size from by first | exact Nat.le_refl _ | exact World.grownBy.size hHeld)
      refine hK.out _ _ (gw_alloc hHeld (.cells #[.int .i64 0, .int .i64 0, .int .i64 0, .int .i64 0, .int .i64 0, .int .i64 0, .int .i64 0, .int .i64 0] 22)) (fun hHeld => ?_)
      clear hK
      have HZ := hide (show Blk (wqa7.alloc (.cells #[.int .i64 0, .int .i64 0, .int .i64 0, .int .i64 0, .int .i64 0, .int .i64 0, .int .i64 0, .int .i64 0] 22)) wqa7.heap.size 22 (zeros 8) from Blk.new wqa7 22 (zeros 8))
      (try simp only [Act.put, sL])
      refine wpAnyH_ready (rs := [6]) (by kernel_rfl) (by simp) (AllReadyH.cons rfl (fun K hK => ?_) AllReadyH.nil)
      (try simp only [Act.put, sL])
      refine step_store_arr rfl 22 _ _ rfl (wqa7.heap.size) (zeros 8) q rfl rfl HZ.out (by rw [hq, zeros_len]) (by rw [zeros_len]; exact size8') ?_
      have PU := put_arr (rs' := q) HZ.out (by rw [hq, zeros_len])
      refine hK.out _ _ (gw_own hHeld PU.2 HB.out) (fun hHeld => ?_)
      clear hK
      (try simp only [Act.put, sL])
      refine wpAnyH_done (by kernel_rfl) ?_ _
      go_wp2_with fail
      go_meet
      exact ⟨wqa7.heap.size, rfl, PU.1, HB.out, hHeld⟩
    case gqa6 =>
      (try simp only [Act.put, sL])
      go_simp
      go_wp2_with fail
      have HB := hide (show W0.heap.size ≤ W0.heap.size from by first | exact Nat.le_refl _ | exact World.grownBy.size hHeld)
      refine hK.out _ _ (gw_alloc hHeld (.cells #[.int .i64 0, .int .i64 0, .int .i64 0, .int .i64 0, .int .i64 0, .int .i64 0, .int .i64 0, .int .i64 0] 22)) (fun hHeld => ?_)
      clear hK
      have HZ := hide (show Blk (W0.drew.alloc (.cells #[.int .i64 0, .int .i64 0, .int .i64 0, .int .i64 0, .int .i64 0, .int .i64 0, .int .i64 0, .int .i64 0] 22)) W0.heap.size 22 (zeros 8) from Blk.new W0.drew 22 (zeros 8))
      (try simp only [Act.put, sL])
      refine wpAnyH_ready (rs := [4]) (by kernel_rfl) (by simp) (AllReadyH.cons rfl (fun K hK => ?_) AllReadyH.nil)
      (try simp only [Act.put, sL])
      go_simp
      refine (NW.out _ (grown_none G0.out hHeld)).mono ?_
      rintro e wqa11 ⟨rfl, gqa11⟩
      have Gqa11 := hide gqa11
      clear gqa11
      go_wp2_with fail
      refine hK.out _ _ (gw_trans hHeld Gqa11.out) (fun hHeld => ?_)
      clear hK
      have HZ := hide (HZ.out.keep Gqa11.out)
      (try simp only [Act.put, sL])
      refine wpAnyH_ready (rs := [6]) (by kernel_rfl) (by simp) (AllReadyH.cons rfl (fun K hK => ?_) AllReadyH.nil)
      (try simp only [Act.put, sL])
      refine step_store_arr rfl 22 _ _ rfl (W0.heap.size) (zeros 8) q rfl rfl HZ.out (by rw [hq, zeros_len]) (by rw [zeros_len]; exact size8') ?_
      have PU := put_arr (rs' := q) HZ.out (by rw [hq, zeros_len])
      refine hK.out _ _ (gw_own hHeld PU.2 HB.out) (fun hHeld => ?_)
      clear hK
      (try simp only [Act.put, sL])
      refine wpAnyH_done (by kernel_rfl) ?_ _
      go_wp2_with fail
      go_meet
      exact ⟨W0.heap.size, rfl, PU.1, HB.out, hHeld⟩
  case rest =>
  obtain ⟨b, rfl, bq, hb, g1⟩ := hcut
  have M0 := hide (show GueM w _ a b q from ⟨BA.out.keep g1, bq, grown_none G0.out g1⟩)
  clear bq g1 BA BP G0 NW hA hb
  go_wp2_with fail
  go_loopw [10, 11] (fun s i wr => ∃ m : Nat, i = .int .i64 ((m : Int) + 1) ∧ s = .int .i64 (gsum a H m) ∧ m ≤ 8 ∧ Hid (GueM w wr a b q)) (fun _ i _ => 9 - (intOf i).toNat)
  case atStart => exact ⟨0, rfl, rfl, Nat.zero_le _, M0.out⟩
  case round =>
    obtain ⟨m, rfl, rfl, hm, hM⟩ := hrel
    clear M0
    obtain ⟨s1, s2⟩ := SB.out m
    by_cases hm8 : m < 8
    · have ca := hM.out.1.cell (m + 1) (by omega)
      have cq := hM.out.2.1.cell m (by omega)
      rw [QN.out m hm8] at cq
      obtain ⟨a1, a2⟩ := AB.out (m + 1)
      obtain ⟨q1, q2⟩ := QR.out m
      obtain ⟨p1, p2⟩ := prd20_bd _ _ a1 a2 q1 q2
      have ES := hide (HS.out m)
      clear AB QR QN HS SB HG
      generalize gsum a H m = S at *
      generalize nth a (m + 1) = x at *
      generalize nth H m = y at *
      have i1 : (m : Int) + 1 ≤ 8 := by omega
      have i0 : (m : Int) < 8 := by omega
      go_wp2_with fail
      go_quiet (fail)
      go_wp2_with fail
      have NM := hide (show GueM w (wr.drewN nq) a b q from ⟨hM.out.1.keep (grown_drewN' wr nq none), hM.out.2.1.keep (grown_drewN' wr nq none), grown_none hM.out.2.2 (grown_drewN' wr nq none)⟩)
      go_roundw
      case rel => exact ⟨m + 1, by go_num, by rw [ES.out], by omega, NM.out⟩
      case measure => simp [intOf]; omega
    · obtain rfl : m = 8 := by omega
      rw [show ((8 : Nat) : Int) = 8 from rfl]
      have DN := hide (fun w' => down_any (gsum a H 8) 12 (by omega) (by omega) (by omega) w')
      rw [show ((12 : Nat) : Int) = 12 from rfl, show (2 : Int) ^ 12 = 4096 by decide, ← HG.out] at DN
      have GF := hide hM.out.2.2
      clear AB QR QN HS SB hM
      generalize gsum a H 8 = S at *
      go_wp2_with fail
      refine (DN.out _).mono ?_
      rintro e w2 ⟨rfl, g2⟩
      have G2 := hide (grown_none GF.out g2)
      clear g2
      go_wp2_with fail
      go_ret
      exact ⟨rfl, G2.out⟩
end Go.Proofs.Ytjepkgdejkifcaa

/- RefSynC -/
namespace Go.Proofs.Ytjepkgdejkifcaa
open Go.RowKit
set_option linter.unusedVariables false
set_option linter.unusedSimpArgs false
set_option maxHeartbeats 1000000
set_option maxRecDepth 100000 in
theorem refMake_no (a p : List Int) (ha : a.length = 9) (hp : p.length = 8) (v : Value) (l : List Int) (w : World) (h : Ints w v l) (hl : l.length * 8 ≤ 140737488351232) (hk : okF a p l = false) :
    Calls Try.prog 14 #[.agg (arrI a), .agg (arrI p), v] w (Filt w [] (zeros 8) 2) := by
  have L0 := hide (laid3 w 35 22 22 a p (zeros 8))
  rw [z8'] at L0
  have hbd := build8
  have RF := hide (fun wr (g : w.grownBy wr none) => rightFilter_any a p ha hp v l wr (Ints_keep h g) (by omega))
  rw [hk] at RF
  clear h hk
  go_enter Try.func14, Try.ntmps14
  go_wp2_with (first | refine wpList_load_arr rfl 35 _ rfl _ rfl _ L0.out.1 _ Try.underlying35 rfl (by rw [ha]; exact size9') ?_ | refine wpList_load_arr rfl 22 _ rfl _ rfl _ L0.out.2.1 _ Try.underlying22 rfl (by rw [hp]; exact size8') ?_)
  refine (RF.out _ L0.out.2.2.2).mono ?_
  rintro e w1 ⟨rfl, g1⟩
  have BB := hide (L0.out.2.2.1.keep g1)
  have GM := hide (grown_none L0.out.2.2.2 g1)
  clear L0 RF g1
  go_wp2_with (first | refine wpList_store_arr rfl 22 _ _ rfl _ (zeros 8) (zeros 8) rfl rfl BB.out rfl (by rw [zeros_len]; exact size8') ?_)
  have PU := put_arr (rs' := zeros 8) BB.out rfl
  have hlv := loadVar_arr PU.1 _ Try.underlying22 rfl (by rw [zeros_len]; exact size8')
  have GF := hide (grown_own GM.out PU.2 (by omega))
  refine bodyPost_ret (v := .tuple #[.slice none 0 0, .agg (arrI (zeros 8)), .int .i64 2]) ?_ rfl ⟨_, rfl, Own_nil _ _, GF.out⟩
  simp [results, Try.results14, asAddr, Act.put, hlv]
set_option maxRecDepth 100000 in
theorem refMake_yes (a p : List Int) (ha : a.length = 9) (hp : p.length = 8) (v : Value) (l : List Int) (w : World) (h : Ints w v l) (hsh : Shp v l) (hl : l.length * 8 ≤ 140737488351232) (hk : okF a p l = true) :
    Calls Try.prog 14 #[.agg (arrI a), .agg (arrI p), v] w (Filt w (mkN a p l l.length) (newL p (mkN a p l l.length)) 0) := by
  have L0 := hide (laid3 w 35 22 22 a p (zeros 8))
  rw [z8'] at L0
  have RF := hide (fun wr (g : w.grownBy wr none) => rightFilter_any a p ha hp v l wr (Ints_keep h g) (by omega))
  rw [hk] at RF
  unfold okF at hk
  simp only [Bool.and_eq_true] at hk
  obtain ⟨⟨⟨wa, _⟩, rp⟩, rl⟩ := hk
  have HI := hide h
  have SV := hide hsh
  have RL := hide ((rightB_iff l).1 rl)
  have AB := hide (nth_in a (-1048576) 1048576 (by omega) (by omega) ((wide20_iff a).1 wa))
  have RP := hide rp
  have GUE := hide (fun (k : Nat) vo (L : List Int) wr (hL : L.length = k) (hk : k ≤ l.length) (hR : rightB L = true) (o : Ints wr vo L) (s : Shp vo L) => guess_any a p ha hp vo L k (by omega) wr o s (by omega) wa rp hR)
  obtain ⟨ad, c, rfl, hc, hcell⟩ := h
  have HC := hide hcell
  clear hcell hsh
  go_enter Try.func14, Try.ntmps14
  go_wp2_with (first | refine wpList_load_arr rfl 35 _ rfl _ rfl _ L0.out.1 _ Try.underlying35 rfl (by rw [ha]; exact size9') ?_ | refine wpList_load_arr rfl 22 _ rfl _ rfl _ L0.out.2.1 _ Try.underlying22 rfl (by rw [hp]; exact size8') ?_)
  refine (RF.out _ L0.out.2.2.2).mono ?_
  rintro e w1 ⟨rfl, g1⟩
  have M1 := hide (show Mem3 w w1 35 22 22 a p (zeros 8) from Mem3.keep L0.out g1)
  have N1 := hide (show w.heap.size + 1 + 1 + 1 ≤ w1.heap.size from M1.out.2.2.1.lt)
  clear L0 RF g1 wa rp rl
  go_wp2_with fail
  go_loopw [9, 20] (fun vo i wr => ∃ k : Nat, i = .int .i64 k ∧ k ≤ l.length ∧ Hid (Own (w.heap.size + 1 + 1 + 1) wr vo (mkN a p l k)) ∧ Hid (Mem3 w wr 35 22 22 a p (zeros 8)) ∧ Hid (w.heap.size + 1 + 1 + 1 ≤ wr.heap.size)) (fun _ i _ => l.length - (intOf i).toNat)
  case atStart => exact ⟨0, rfl, Nat.zero_le _, Own_nil _ _, M1.out, N1.out⟩
  case round =>
    rename_i vo' _
    obtain ⟨k, rfl, hk, hO, hM, hN⟩ := hrel
    clear M1 N1
    by_cases hkl : k < l.length
    · obtain ⟨ax, rfl, hv⟩ := HC.out (by omega)
      have cx := grown_keep hM.out.2.2.2 (hv k hkl)
      obtain ⟨x1, x2⟩ := RL.out k hkl
      have BA := hide hM.out.1
      have BP := hide hM.out.2.1
      have HR := hide (hist_right p (mkN a p l k) RP.out (mkN_right a p l k))
      have GU := hide (GUE.out k _ (mkN a p l k) wr (mkN_len a p l k) (by omega) (mkN_right a p l k) hO.out.ints hO.out.shp)
      rw [List.take_of_length_le (show (mkN a p l k).length ≤ k by rw [mkN_len]; exact Nat.le_refl _)] at GU
      clear GUE RP HI SV
      obtain ⟨b1, b2⟩ := gs_bd a (hist p (mkN a p l k)) AB.out HR.out
      have EN := hide (show mkN a p l (k + 1) = mkN a p l k ++ [c16 (nth l k - gs a (hist p (mkN a p l k)))] from rfl)
      clear HR HC AB RL
      generalize gs a (hist p (mkN a p l k)) = G at *
      generalize nth l k = x at *
      have SS := hide (fun w' => refS_any (x - G) w' (by omega) (by omega))
      generalize c16 (x - G) = z at *
      have kl1 : (k : Int) < l.length := by omega
      go_wp2_with (first | refine wpList_load_arr rfl 35 _ rfl _ rfl _ BA.out _ Try.underlying35 rfl (by rw [ha]; exact size9') ?_ | refine wpList_load_arr rfl 22 _ rfl _ rfl _ BP.out _ Try.underlying22 rfl (by rw [hp]; exact size8') ?_)
      refine GU.out.mono ?_
      rintro e w3 ⟨rfl, g3⟩
      have O3 := hide (hO.out.keep g3)
      have M3 := hide (hM.out.keep g3)
      have N3 := hide (Nat.le_trans hN.out g3.size)
      clear g3 hO hM hN GU BA BP cx hv
      go_wp2_with fail
      refine (SS.out _).mono ?_
      rintro e w4 ⟨rfl, g4⟩
      have O4 := hide (O3.out.keep g4)
      have M4 := hide (M3.out.keep g4)
      have N4 := hide (Nat.le_trans N3.out g4.size)
      have LN := hide (mkN_len a p l k)
      clear g4 O3 M3 N3 SS
      go_wp2_with (at_builtin; refine wpList_append_both (by rfl) _ _ rfl (w.heap.size + 1 + 1 + 1) _ (.slice (some ⟨w4.heap.size, 0, none⟩) 1 1) (mkN a p l k) [z] rfl rfl (O4.out.keep (grown_alloc _ _ none)) (ints_lit w4 z) (.inr ⟨_, _, rfl⟩) (by rw [LN.out]; simp; omega) (by have := N4.out; simp; omega) ?_)
      intro v5 w5 h5 g5
      rw [← EN.out] at h5
      have O5 := hide h5
      have MG := hide (mem3_own (M4.out.keep (grown_alloc w4 (.cells #[.int .i64 z] 3) none)) g5 (fun b hb => (O4.out.lt b hb).1))
      have N5 := hide (Nat.le_trans (Nat.le_trans N4.out (by simp)) g5.size)
      clear h5 g5 O4 M4 N4 EN LN
      go_wp2_with fail
      go_roundw
      case rel => exact ⟨k + 1, by go_num, by omega, O5.out, MG.out, N5.out⟩
      case measure => simp [intOf]; omega
    · obtain rfl : k = l.length := by omega
      have BP := hide hM.out.2.1
      have LN := hide (mkN_len a p l l.length)
      have NW := hide (newest_any p hp _ (mkN a p l l.length) wr hO.out.ints (by rw [LN.out]; omega))
      clear GUE RP HI SV
      have O1 := hO
      have M1 := hM
      have hq := newL_len p (mkN a p l l.length)
      clear HC AB RL hO hM hN LN
      generalize newL p (mkN a p l l.length) = q at *
      generalize mkN a p l l.length = L at *
      go_wp2_with (first | refine wpList_load_arr rfl 22 _ rfl _ rfl _ BP.out _ Try.underlying22 rfl (by rw [hp]; exact size8') ?_)
      refine NW.out.mono ?_
      rintro e w3 ⟨rfl, g3⟩
      have O3 := hide (O1.out.keep g3)
      have BB := hide (M1.out.2.2.1.keep g3)
      have GM := hide (grown_none M1.out.2.2.2 g3)
      clear g3 O1 M1 NW BP
      go_wp2_with (first | refine wpList_store_arr rfl 22 _ _ rfl _ (zeros 8) q rfl rfl BB.out (by rw [hq, zeros_len]) (by rw [zeros_len]; exact size8') ?_)
      have PU := put_arr (rs' := q) BB.out (by rw [hq, zeros_len])
      have hlv := loadVar_arr PU.1 _ Try.underlying22 rfl (by rw [hq]; exact size8')
      have GF := hide (grown_own GM.out PU.2 (by omega))
      have OF := hide ((O3.out.keepLt PU.2 (by omega)).base (b' := w.heap.size) (by omega))
      refine bodyPost_ret (v := .tuple #[_, .agg (arrI q), .int .i64 0]) ?_ rfl ⟨_, rfl, OF.out, GF.out⟩
      simp [results, Try.results14, asAddr, Act.put, hlv]
theorem refMake_any (a p : List Int) (ha : a.length = 9) (hp : p.length = 8) (v : Value) (l : List Int) (w : World) (h : Ints w v l) (hsh : Shp v l) (hl : l.length * 8 ≤ 140737488351232) :
    Calls Try.prog 14 #[.agg (arrI a), .agg (arrI p), v] w (Filt w (mkL a p l) (mkP a p l) (fiE a p l)) := by
  rcases hk : okF a p l with _ | _
  · rw [show mkL a p l = [] by unfold mkL; rw [hk]; rfl, show mkP a p l = zeros 8 by unfold mkP; rw [hk]; rfl, show fiE a p l = 2 by unfold fiE; rw [hk]; rfl]
    exact refMake_no a p ha hp v l w h hl hk
  · rw [show mkL a p l = mkN a p l l.length from if_pos hk, show mkP a p l = newL p (mkN a p l l.length) from if_pos hk, show fiE a p l = 0 from if_pos hk]
    exact refMake_yes a p ha hp v l w h hsh hl hk
end Go.Proofs.Ytjepkgdejkifcaa

/- RefLpc -/
namespace Go.Proofs.Ytjepkgdejkifcaa
open Go.RowKit
set_option linter.unusedVariables false
set_option linter.unusedSimpArgs false
set_option maxHeartbeats 1000000
theorem refSteady_any (k : List Int) (hk : k.length = 8) (w : World) : Calls Try.prog 24 #[.agg (arrI k)] w (Tells w (.bool (steadyB k))) := by
  have Y := hide (fun (hh : ∀ i, i < 8 → -32768 < nth k i ∧ nth k i < 32768) => (steadyB_iff k).2 (fun i hi => hh i (by omega)))
  have N := hide (fun i (hi : i < 8) hh => steadyB_no (k := k) i (by omega) hh)
  have B0 := hide (Blk.new w 22 k)
  have G0 := hide (grown_alloc w (.cells (arrI k) 22) none)
  have IX := hide (fun j hj => index_arr k Try.underlying22 j hj hk)
  have FT := hide (show ∀ b, steadyB k = b → ∀ u, w.grownBy u none → Tells w (.bool (steadyB k)) (.returned (.bool b)) u from fun b hb u hu => ⟨by rw [hb], hu⟩)
  generalize Tells w (.bool (steadyB k)) = T at *
  go_enter Try.func24, Try.ntmps24
  go_wp2_with (refine wpList_load_arr rfl 22 _ rfl _ rfl _ B0.out _ Try.underlying22 rfl (by rw [hk]; exact size8') ?_)
  generalize w.alloc (.cells (arrI k) 22) = W0 at *
  go_loop [6] (fun i => ∃ m : Nat, i = .int .i64 m ∧ m ≤ 8 ∧ Hid (∀ i, i < m → -32768 < nth k i ∧ nth k i < 32768)) (fun i => 8 - (intOf i).toNat)
  case atStart => exact ⟨0, rfl, Nat.zero_le _, fun i hi => by omega⟩
  case round =>
    obtain ⟨m, rfl, hm, hG⟩ := hrel
    by_cases hml : m < 8
    · have ix := IX.out m (by omega)
      have GK := hide (fun (hh : -32768 < nth k m ∧ nth k m < 32768) => (show ∀ i, i < m + 1 → -32768 < nth k i ∧ nth k i < 32768 from fun i hi => by
        rcases Nat.lt_or_ge i m with g | g
        · exact hG.out i g
        · obtain rfl : i = m := by omega
          exact hh))
      have NK := hide (N.out m hml)
      clear hG N Y
      generalize nth k m = z at *
      by_cases b1 : z ≤ -32768
      · have F := hide (FT.out false (NK.out (by omega)) _ G0.out)
        clear NK GK
        go_wp2_with fail
        exact F.out
      · by_cases b2 : 32768 ≤ z
        · have F := hide (FT.out false (NK.out (by omega)) _ G0.out)
          clear NK GK
          go_wp2_with fail
          exact F.out
        · have F := hide (GK.out (by omega))
          clear NK GK
          go_wp2_with fail
          go_round
          case rel => exact ⟨m + 1, by go_num, by omega, F.out⟩
          case measure => simp [intOf]; omega
    · obtain rfl : m = 8 := by omega
      have F := hide (FT.out true (Y.out hG.out) _ G0.out)
      clear hG N Y
      go_wp2_with fail
      exact F.out
def MemX (w wr : World) (T : TypeId) (n : Nat) (a rs : List Int) : Prop :=
  Blk wr w.heap.size T a ∧ Blk wr (w.heap.size + 1) T (zeros n) ∧ Blk wr (w.heap.size + 1 + 1) T rs ∧ w.grownBy wr none
theorem memX_start (w : World) (T : TypeId) (n : Nat) (a : List Int) : MemX w (((w.alloc (.cells (arrI a) T)).alloc (.cells (arrI (zeros n)) T)).alloc (.cells (arrI (zeros n)) T)) T n a (zeros n) := by
  have g2 := grown_alloc ((w.alloc (.cells (arrI a) T)).alloc (.cells (arrI (zeros n)) T)) (.cells (arrI (zeros n)) T) none
  refine ⟨((Blk.new w T a).keep (grown_alloc _ _ none)).keep g2, (Blk.new1 w _ T (zeros n)).keep g2, ?_, grown_none (grown_none (grown_alloc _ _ none) (grown_alloc _ _ none)) g2⟩
  simpa using Blk.new ((w.alloc (.cells (arrI a) T)).alloc (.cells (arrI (zeros n)) T)) T (zeros n)
theorem memX_keep {w wr wr' : World} {T : TypeId} {n : Nat} {a rs : List Int} (h : MemX w wr T n a rs) (g : wr.grownBy wr' none) : MemX w wr' T n a rs :=
  ⟨h.1.keep g, h.2.1.keep g, h.2.2.1.keep g, grown_none h.2.2.2 g⟩
theorem memX_set {w wr : World} {T : TypeId} {n : Nat} {a rs : List Int} (h : MemX w wr T n a rs) (k : Nat) (z : Int) : MemX w (wr.setCell ⟨w.heap.size + 1 + 1, k, none⟩ (.int .i64 z)) T n a (rs.set k z) :=
  ⟨h.1.keepBut (grown_setCell _ ⟨w.heap.size + 1 + 1, k, none⟩ _) (by simp; omega), h.2.1.keepBut (grown_setCell _ ⟨w.heap.size + 1 + 1, k, none⟩ _) (by simp), h.2.2.1.set k z, grown_own h.2.2.2 (grown_setCell _ ⟨w.heap.size + 1 + 1, k, none⟩ _) (by simp; omega)⟩
set_option maxRecDepth 100000 in
theorem refExpand_any (a : List Int) (ha : a.length = 9) (g : Int) (w : World) : Calls Try.prog 12 #[.agg (arrI a), .int .i64 g] w (ArrE w (expL a g) (expE a g)) := by
  by_cases hg : 0 ≤ g ∧ g ≤ 32768
  · obtain ⟨g0, g1⟩ := hg
    have B0 := hide (Blk.new w 35 a)
    have IX := hide (fun j hj => index_arr a Try.underlying35 j hj ha)
    have FB := hide (fac_bd g g0 g1)
    have NO := hide (fun i (hi : i < 9) hh => (show okX a g = false from by unfold okX; rw [wideB_no (k := a) i (by omega) hh]; simp))
    have YES := hide (fun (hh : ∀ i, i < 9 → -1073741824 ≤ nth a i ∧ nth a i ≤ 1073741824) => (show okX a g = true from by unfold okX; rw [(wideB_iff a).2 (fun i hi => hh i (by omega))]; simp [g0, g1]))
    have M0 := hide (memX_start w 35 9 a)
    rw [z9'] at M0
    go_enter Try.func12, Try.ntmps12
    go_wp2_with (refine wpList_load_arr rfl 35 _ rfl _ rfl _ M0.out.1 _ Try.underlying35 rfl (by rw [ha]; exact size9') ?_)
    generalize ((w.alloc (.cells (arrI a) 35)).alloc _).alloc _ = W0 at *
    clear B0
    go_loopw [7, 18] (fun f i wr => ∃ (m : Nat) (rs : List Int), f = .int .i64 (fac g m) ∧ i = .int .i64 m ∧ m ≤ 9 ∧ Hid (FillN 9 (expN a g) m rs) ∧ Hid (MemX w wr 35 9 a rs) ∧ Hid (∀ i, i < m → -1073741824 ≤ nth a i ∧ nth a i ≤ 1073741824)) (fun _ i _ => 9 - (intOf i).toNat)
    case atStart => exact ⟨0, zeros 9, rfl, rfl, Nat.zero_le _, fillN_start 9 _, M0.out, fun i hi => by omega⟩
    case round =>
      obtain ⟨m, rs, rfl, rfl, hm, hF, hM, hG⟩ := hrel
      clear M0
      by_cases hm9 : m < 9
      · have ix := IX.out m (by omega)
        by_cases hb : -1073741824 ≤ nth a m ∧ nth a m ≤ 1073741824
        · obtain ⟨b1, b2⟩ := hb
          obtain ⟨f1, f2⟩ := FB.out m
          obtain ⟨p1, p2⟩ := facmul_bd _ _ b1 b2 f1 f2
          obtain ⟨p3, p4⟩ := facmul_bd g (fac g m) (by omega) (by omega) f1 f2
          rw [Int.mul_comm] at p3 p4
          have D1 := hide (fun u => down_any (nth a m * fac g m + 16384) 15 (by omega) (by omega) (by omega) u)
          have D2 := hide (fun u => down_any (fac g m * g + 16384) 15 (by omega) (by omega) (by omega) u)
          rw [show ((15 : Nat) : Int) = 15 from rfl, show (2 : Int) ^ 15 = 32768 by decide] at D1 D2
          have E1 := hide (show (nth a m * fac g m + 16384) / 32768 = expN a g m from rfl)
          have E2 := hide (show (fac g m * g + 16384) / 32768 = fac g (m + 1) from rfl)
          rw [E1.out] at D1
          rw [E2.out] at D2
          have NF := hide (fillN_step hF.out hm9)
          have NG := hide (show ∀ i, i < m + 1 → -1073741824 ≤ nth a i ∧ nth a i ≤ 1073741824 from fun i hi => by
            rcases Nat.lt_or_ge i m with q | q
            · exact hG.out i q
            · obtain rfl : i = m := by omega
              exact ⟨b1, b2⟩)
          have hlen : rs.length = 9 := hF.out.1
          clear hF hG E1 E2 NO YES
          generalize expN a g m = z at *
          generalize nth a m = c at *
          generalize fac g m = f at *
          go_wp2_with fail
          refine (D1.out _).mono ?_
          rintro e w1 ⟨rfl, g1⟩
          have M1 := memX_keep hM.out g1
          have cd := M1.2.2.1.cell m (by omega)
          have fd := M1.2.2.1.free m
          have M2 := hide (memX_set M1 m z)
          clear g1 M1 hM D1
          go_wp2_with fail
          refine (D2.out _).mono ?_
          rintro e w2 ⟨rfl, g2⟩
          have M3 := hide (memX_keep M2.out g2)
          clear g2 M2 D2 cd fd
          go_wp2_with fail
          go_roundw
          case rel => exact ⟨m + 1, _, rfl, by go_num, by omega, NF.out, M3.out, NG.out⟩
          case measure => simp [intOf]; omega
        · have hno := NO.out m hm9 hb
          have EL := hide (show expL a g = zeros 9 by simp [expL, hno])
          have EE := hide (show expE a g = 2 by simp [expE, hno])
          have HB := hide hb
          clear hno hb
          have HLV := hide (show True from trivial)
          have BB := hide hM.out.2.1
          have GM := hide hM.out.2.2.2
          clear hF hM hG NO YES FB HLV
          generalize nth a m = c at *
          generalize fac g m = f at *
          have hbd := build9
          rcases (show c < -1073741824 ∨ 1073741824 < c by have := HB.out; omega) with hc | hc
          all_goals
            go_wp2_with (refine wpList_store_arr rfl 35 _ _ rfl _ (zeros 9) (zeros 9) rfl rfl BB.out rfl (by rw [zeros_len]; exact size9') ?_)
            have PU := put_arr (rs' := zeros 9) BB.out rfl
            have hlv := loadVar_arr PU.1 _ Try.underlying35 rfl (by rw [zeros_len]; exact size9')
            have GF := hide (grown_own GM.out PU.2 (by omega))
            refine bodyPost_ret (v := .tuple #[.agg (arrI (zeros 9)), .int .i64 2]) ?_ rfl ?_
            · simp [results, Try.results12, asAddr, Act.put, hlv]
            · rw [EL.out, EE.out]; exact ⟨rfl, GF.out⟩
      · obtain rfl : m = 9 := by omega
        have hyes := YES.out hG.out
        have EL := hide (show expL a g = rs by rw [fillN_all hF.out]; simp [expL, hyes])
        have EE := hide (show expE a g = 0 by simp [expE, hyes])
        clear hyes
        have hlen : rs.length = 9 := hF.out.1
        have BA := hide hM.out.2.2.1
        have BB := hide hM.out.2.1
        have GM := hide hM.out.2.2.2
        clear hF hM hG NO YES FB
        generalize fac g 9 = f at *
        go_wp2_with (first | refine wpList_load_arr rfl 35 _ rfl _ rfl _ BA.out _ Try.underlying35 rfl (by rw [hlen]; exact size9') ?_ | refine wpList_store_arr rfl 35 _ _ rfl _ (zeros 9) rs rfl rfl BB.out (by rw [hlen, zeros_len]) (by rw [zeros_len]; exact size9') ?_)
        have PU := put_arr (rs' := rs) BB.out (by rw [hlen, zeros_len])
        have hlv := loadVar_arr PU.1 _ Try.underlying35 rfl (by rw [hlen]; exact size9')
        have GF := hide (grown_own GM.out PU.2 (by omega))
        refine bodyPost_ret (v := .tuple #[.agg (arrI rs), .int .i64 0]) ?_ rfl ?_
        · simp [results, Try.results12, asAddr, Act.put, hlv]
        · rw [EL.out, EE.out]; exact ⟨rfl, GF.out⟩
  · have hno : okX a g = false := by
      unfold okX
      by_cases h0 : 0 ≤ g
      · have : ¬ g ≤ 32768 := fun h => hg ⟨h0, h⟩
        simp [this]
      · simp [h0]
    have EL : expL a g = zeros 9 := by simp [expL, hno]
    have EE : expE a g = 2 := by simp [expE, hno]
    have BB := hide (Blk.new1 w (.cells (arrI a) 35) 35 (zeros 9))
    have GM := hide (grown_none (grown_alloc w (.cells (arrI a) 35) none) (grown_alloc _ (.cells (arrI (zeros 9)) 35) none))
    rw [EL, EE]
    clear EL EE hno
    rw [z9'] at BB GM
    have HG := hide hg
    have hbd := build9
    clear hg
    rcases (show g < 0 ∨ 32768 < g by have := HG.out; omega) with hc | hc
    all_goals
      go_enter Try.func12, Try.ntmps12
      go_wp2_with (refine wpList_store_arr rfl 35 _ _ rfl _ (zeros 9) (zeros 9) rfl rfl BB.out rfl (by rw [zeros_len]; exact size9') ?_)
      have PU := put_arr (rs' := zeros 9) BB.out rfl
      have hlv := loadVar_arr PU.1 _ Try.underlying35 rfl (by rw [zeros_len]; exact size9')
      have GF := hide (grown_own GM.out PU.2 (by omega))
      refine bodyPost_ret (v := .tuple #[.agg (arrI (zeros 9)), .int .i64 2]) ?_ rfl ⟨rfl, GF.out⟩
      simp [results, Try.results12, asAddr, Act.put, hlv]
end Go.Proofs.Ytjepkgdejkifcaa

/- RefGrow -/
namespace Go.Proofs.Ytjepkgdejkifcaa
open Go.RowKit
set_option linter.unusedVariables false
set_option linter.unusedSimpArgs false
set_option maxHeartbeats 1000000
theorem refAt_any (v : Value) (l : List Int) (j : Nat) (hj : j < l.length) (hl : l.length ≤ 1000000000000000000) (w : World) (h : Ints w v l) :
    Calls Try.prog 45 #[v, .int .i64 j] w (Says w (.int .i64 (nth l j))) := by
  obtain ⟨ad, c, rfl, hc, hcell⟩ := h
  obtain ⟨a, rfl, hv⟩ := hcell (by omega)
  have hck := hv j hj
  have F := hide (show Says w (.int .i64 (nth l j)) (.returned (.int .i64 (nth l j))) w from ⟨rfl, rfl⟩)
  generalize Says w (.int .i64 (nth l j)) = T at *
  generalize nth l j = z at *
  clear hcell hv
  have j1 : (j : Int) < l.length := by omega
  go_enter Try.func45, Try.ntmps45
  go_wp2_with fail
  exact F.out
def PartR (l : List Int) (q : Int) (k : Nat) (rs : List Int) : Prop := rs.length = l.length + 1 ∧ ∀ j, nth rs j = if j < k then gr (nth l) l.length q j else nth l j
theorem partR_step {l : List Int} {q : Int} {k : Nat} {rs : List Int} (h : PartR l q k rs) (h1 : 1 ≤ k) (h2 : k ≤ l.length) : PartR l q (k + 1) (rs.set k (nth l k + q * nth l (l.length - k) / 32768)) := by
  refine ⟨by simpa using h.1, fun j => ?_⟩
  by_cases e : j = k
  · subst e
    have hl := h.1
    rw [if_pos (by omega)]
    unfold gr
    rw [if_pos ⟨h1, h2⟩]
    simp [nth, List.getD, show j < rs.length by omega]
  · have e1 : nth (rs.set k (nth l k + q * nth l (l.length - k) / 32768)) j = nth rs j := by simp [nth, List.getD, List.getElem?_set, Ne.symm e]
    rw [e1, h.2 j]
    by_cases c : j < k
    · rw [if_pos c, if_pos (by omega)]
    · rw [if_neg c, if_neg (by omega)]
theorem partR_start (l : List Int) (q : Int) : PartR l q 1 (l ++ [0]) := ⟨by simp, fun j => by
  rw [nth_snoc0]
  by_cases c : j < 1
  · rw [if_pos c]; unfold gr; rw [if_neg (by omega)]
  · rw [if_neg c]⟩
theorem partR_end {l : List Int} {q : Int} {rs : List Int} (h : PartR l q (l.length + 1) rs) : rs = tab (l.length + 1) (gr (nth l) l.length q) := tab_ext h.1 (fun i hi => by rw [h.2 i, if_pos hi])
set_option maxRecDepth 100000 in
theorem refGrown_any (v : Value) (l : List Int) (hn1 : 1 ≤ l.length) (hn8 : l.length ≤ 8) (q : Int) (q1 : -32768 ≤ q) (q2 : q ≤ 32768) (hW : Wi (nth l) 4294967296) (w : World) (h : Ints w v l) (hsh : Shp v l) :
    Calls Try.prog 25 #[v, .int .i64 q] w fun e w' => ∃ v', e = .returned v' ∧ Own w.heap.size w' v' (tab (l.length + 1) (gr (nth l) l.length q)) ∧ w.grownBy w' none := by
  have HI := hide h
  have HS := hide hsh
  have HW := hide hW
  have hbl := fun u : World => own_lit u
  clear h hsh hW
  go_enter Try.func25, Try.ntmps25
  go_wp2_with (first
    | (refine wpList_append_both (by rfl) _ _ rfl w.heap.size (.slice none 0 0) v [] l rfl rfl (Own_nil _ _) HI.out HS.out (by simp; omega) (Nat.le_refl _) ?_
       intro v1 w1 o1 g1
       have O1 := hide (show Own w.heap.size w1 v1 l from o1)
       have G1 := hide (show w.grownBy w1 none from g1)
       clear o1 g1)
    | (refine wpList_append_both (by rfl) _ _ rfl w.heap.size v1 (.slice (some ⟨w1.heap.size, 0, none⟩) 1 1) l [0] rfl rfl (O1.out.keep (grown_alloc _ _ none)) (ints_lit w1 0) (.inr ⟨_, _, rfl⟩) (by simp; omega) (by have := G1.out.size; simp; omega) ?_
       intro v2 w2 o2 g2
       have O2 := hide o2
       have G2 := hide (show w.grownBy w2 none from grown_own' (grown_none G1.out (grown_alloc _ _ none)) g2 (fun b hb => (O1.out.lt b hb).1))
       clear o2 g2))
  clear O1 G1 hbl
  obtain ⟨g, cap, hv2, hg1, hg2, hcap⟩ := O2.out.form (by simp)
  subst hv2
  rw [show (l ++ [(0 : Int)]).length = l.length + 1 by simp] at O2 hcap ⊢
  go_loopw [6] (fun i wr => ∃ (k : Nat) (rs : List Int), i = .int .i64 k ∧ 1 ≤ k ∧ k ≤ l.length + 1 ∧ Hid (PartR l q k rs) ∧ Hid (Own w.heap.size wr (.slice (some ⟨g, 0, none⟩) (l.length + 1) cap) rs) ∧ Hid (w.grownBy wr none)) (fun i _ => l.length + 1 - (intOf i).toNat)
  case atStart => exact ⟨1, l ++ [0], rfl, by omega, by omega, partR_start l q, O2.out, G2.out⟩
  case round =>
    obtain ⟨k, rs, rfl, hk1, hk2, hF, hO, hG⟩ := hrel
    clear O2 G2
    have hl1 : rs.length = l.length + 1 := hF.out.1
    by_cases hkm : k ≤ l.length
    · have cz := hO.out.cell hl1.symm k (by omega)
      rw [hF.out.2 k, if_neg (by omega)] at cz
      have OW := hide hO.out
      have G2 := hide hG.out
      have NF := hide (partR_step hF.out hk1 hkm)
      obtain ⟨z1, z2⟩ := HW.out k
      obtain ⟨x1, x2⟩ := HW.out (l.length - k)
      obtain ⟨p1, p2⟩ := qmul_bd q _ _ q1 q2 x1 x2
      have AT := hide (refAt_any v l (l.length - k) (by omega) (by omega))
      have DN := hide (fun u => down_any (q * nth l (l.length - k)) 15 (by omega) (by omega) (by omega) u)
      rw [show ((15 : Nat) : Int) = 15 from rfl, show (2 : Int) ^ 15 = 32768 by decide] at DN
      have EM := hide (wrapI (q * nth l (l.length - k)) (by omega) (by omega))
      have EZ := hide (wrapI (nth l k + q * nth l (l.length - k) / 32768) (by omega) (by omega))
      have hgr : wr.heap.size ≤ wr.heap.size := Nat.le_refl _
      clear hF hO hG hgr
      generalize hx : nth l (l.length - k) = x at *
      generalize hz : nth l k = z at *
      clear hx hz
      generalize hn : l.length = n at *
      have E8 := hide (wrapI (n : Int) (by omega) (by omega))
      have EJ := hide (show IntKind.i64.wrap ((n : Int) - (k : Int)) = ((n - k : Nat) : Int) by rw [wrapI _ (by omega) (by omega)]; omega)
      generalize n - k = j at *
      have k0 : (0 : Int) ≤ k := by omega
      have km : (k : Int) < ((n + 1 : Nat) : Int) := by omega
      have hS := gw_start wr
      go_wp2_with fail
      refine wp_region_G 16 (GrownW wr) 17 (by rfl) #[false, false, false, false, false, false, false, false, false, false, false, false, false, false, false, false, false] (by rfl) (by kernel_rfl) (fun hcl => ?_)
      refine wpAnyG_take (i := 0) (v := ?v0) rfl (by kernel_rfl) hcl (fun _ _ _ h => h) (Or.inl ⟨by rfl, ?y0⟩) hS (fun hcl => ?r0)
      case y0 => (intro w' hSw; (try dsimp only at hSw); go_simp; try with_reducible rfl)
      (try simp only [Act.put, sL])
      refine wpAnyG_take (i := 1) (v := ?v1) rfl (by kernel_rfl) hcl (fun _ _ _ h => h) (Or.inl ⟨by rfl, ?y1⟩) hS (fun hcl => ?r1)
      case y1 => (intro w' hSw; (try dsimp only at hSw); go_simp; try with_reducible rfl)
      (try simp only [Act.put, sL])
      refine wpAnyG_take (i := 2) (v := ?v2) rfl (by kernel_rfl) hcl (fun _ _ _ h => h) (Or.inl ⟨by rfl, ?y2⟩) hS (fun hcl => ?r2)
      case y2 => (intro w' hSw; (try dsimp only at hSw); go_simp; try with_reducible rfl)
      (try simp only [Act.put, sL])
      refine wpAnyG_take (i := 3) (v := ?v3) rfl (by kernel_rfl) hcl (fun _ _ _ h => h) (Or.inl ⟨by rfl, ?y3⟩) hS (fun hcl => ?r3)
      case y3 => (intro w' hSw; have s1 := grown_keep hSw cz; go_simp; try with_reducible rfl)
      (try simp only [Act.put, sL])
      refine wpAnyG_take (i := 4) (v := ?v4) rfl (by kernel_rfl) hcl (fun _ _ _ h => h) (Or.inl ⟨by rfl, ?y4⟩) hS (fun hcl => ?r4)
      case y4 => (intro w' hSw; (try dsimp only at hSw); go_simp; try with_reducible rfl)
      (try simp only [Act.put, sL])
      refine wpAnyG_take (i := 5) (v := ?v5) rfl (by kernel_rfl) hcl (fun _ _ _ h => h) (Or.inl ⟨by rfl, ?y5⟩) hS (fun hcl => ?r5)
      case y5 => (intro w' hSw; (try dsimp only at hSw); go_simp; try with_reducible rfl)
      (try simp only [Act.put, sL])
      refine wpAnyG_take (i := 6) (v := ?v6) rfl (by kernel_rfl) hcl (fun _ _ _ h => h) (Or.inl ⟨by rfl, ?y6⟩) hS (fun hcl => ?r6)
      case y6 => (intro w' hSw; (try dsimp only at hSw); go_simp; try with_reducible rfl)
      (try simp only [Act.put, sL])
      refine wpAnyG_take (i := 7) (v := ?v7) rfl (by kernel_rfl) hcl (fun _ _ _ h => h) (Or.inl ⟨by rfl, ?y7⟩) hS (fun hcl => ?r7)
      case y7 => (intro w' hSw; (try dsimp only at hSw); go_simp; try with_reducible rfl)
      (try simp only [Act.put, sL])
      refine wpAnyG_take (i := 8) (v := .int .i64 (n : Int)) rfl (by kernel_rfl) hcl (fun _ _ _ h => h) (Or.inl ⟨by rfl, ?y8⟩) hS (fun hcl => ?r8)
      case y8 => (intro w' hSw; (try dsimp only at hSw); go_simp; (first | exact E8.out | rw [E8.out] | trace_state))
      (try simp only [Act.put, sL])
      refine wpAnyG_take (i := 9) (v := ?v9) rfl (by kernel_rfl) hcl (fun _ _ _ h => h) (Or.inl ⟨by rfl, ?y9⟩) hS (fun hcl => ?r9)
      case y9 => (intro w' hSw; (try dsimp only at hSw); go_simp; try with_reducible rfl)
      (try simp only [Act.put, sL])
      refine wpAnyG_take (i := 10) (v := .int .i64 (j : Int)) rfl (by kernel_rfl) hcl (fun _ _ _ h => h) (Or.inl ⟨by rfl, ?y10⟩) hS (fun hcl => ?r10)
      case y10 => (intro w' hSw; (try dsimp only at hSw); go_simp; (first | exact EJ.out | rw [EJ.out] | trace_state))
      (try simp only [Act.put, sL])
      refine wpAnyG_exec (i := 11) rfl (by kernel_rfl) hcl (fun K hK => ?_)
      (try simp only [Act.put, sL])
      go_simp
      refine (AT.out _ (Ints_keep HI.out (grown_none G2.out hS))).mono ?_
      rintro e w3 ⟨rfl, rfl⟩
      go_wp2_with fail
      refine hK.out _ _ (fun _ => hS) (fun hcl => ?_)
      clear hK
      (try simp only [Act.put, sL])
      refine wpAnyG_take (i := 12) (v := .int .i64 (q * x)) rfl (by kernel_rfl) hcl (fun _ _ _ h => h) (Or.inl ⟨by rfl, ?y12⟩) hS (fun hcl => ?r12)
      case y12 => (intro w' hSw; (try dsimp only at hSw); go_simp; (first | exact EM.out | rw [EM.out] | (simp; omega)))
      (try simp only [Act.put, sL])
      refine wpAnyG_exec (i := 13) rfl (by kernel_rfl) hcl (fun K hK => ?_)
      (try simp only [Act.put, sL])
      go_simp
      refine (DN.out _).mono ?_
      rintro e w4 ⟨rfl, g4⟩
      have S4 := hide (gw_trans hS g4)
      clear g4
      go_wp2_with fail
      refine hK.out _ _ (fun _ => S4.out) (fun hcl => ?_)
      clear hK
      (try simp only [Act.put, sL])
      refine wpAnyG_take (i := 14) (v := .int .i64 (z + q * x / 32768)) rfl (by kernel_rfl) hcl (fun _ _ _ h => h) (Or.inl ⟨by rfl, ?y14⟩) S4.out (fun hcl => ?r14)
      case y14 => (intro w' hSw; (try dsimp only at hSw); go_simp; (first | exact EZ.out | rw [EZ.out] | (simp; omega)))
      (try simp only [Act.put, sL])
      refine wpAnyG_take (i := 15) (v := ?v15) rfl (by kernel_rfl) hcl (fun _ _ _ h => h) (Or.inl ⟨by rfl, ?y15⟩) S4.out (fun hcl => ?r15)
      case y15 => (intro w' hSw; (try dsimp only at hSw); go_simp; try with_reducible rfl)
      (try simp only [Act.put, sL])
      have cz4 := grown_keep S4.out cz
      have fz4 := (OW.out.keep S4.out).free hl1.symm k
      refine wpAnyG_exec (i := 16) rfl (by kernel_rfl) hcl (fun K hK => ?_)
      (try simp only [Act.put, sL])
      go_simp
      go_wp2_with fail
      refine hK.out _ _ (fun h => by cases h) (fun hcl => ?_)
      clear hK
      (try simp only [Act.put, sL])
      refine wpAnyG_of_any _ _ _ _ (by rfl) ?_
      refine wpAny_done (by kernel_rfl) ?_ _
      go_wp2_with fail
      have OE := (OW.out.keep S4.out).set hl1.symm k (z + q * x / 32768)
      have GE := grown_own (grown_none G2.out S4.out) OE.2 hg1
      go_roundw
      case rel => exact ⟨k + 1, _, by go_num, by omega, by omega, NF.out, OE.1, GE⟩
      case measure => simp [intOf]; omega
    · obtain rfl : k = l.length + 1 := by omega
      have ER := hide (partR_end hF.out)
      have km : ¬ ((l.length + 1 : Nat) : Int) < ((l.length + 1 : Nat) : Int) := by omega
      have F := hide (show ∃ v', Ending.returned (.slice (some ⟨g, 0, none⟩) (l.length + 1) cap) = .returned v' ∧ Own w.heap.size wr v' (tab (l.length + 1) (gr (nth l) l.length q)) ∧ w.grownBy wr none from ⟨_, rfl, by rw [← ER.out]; exact hO.out, hG.out⟩)
      clear hF hO hG HW ER HI HS
      go_wp2_with fail
      go_ret
      exact F.out
end Go.Proofs.Ytjepkgdejkifcaa

/- RefDir -/
namespace Go.Proofs.Ytjepkgdejkifcaa
open Go.RowKit
set_option linter.unusedVariables false
set_option linter.unusedSimpArgs false
set_option maxHeartbeats 1000000
theorem tab_grL (p : Nat → Int) (n : Nat) (hp : ∀ i, n ≤ i → p i = 0) (q : Int) : tab (n + 1) (gr (nth (tab n p)) n q) = tab (n + 1) (gr p n q) := by
  apply tab_ext (tab_len _ _)
  intro i hi
  rw [tab_nth _ _ _ hi]
  have e : ∀ j, nth (tab n p) j = p j := fun j => by
    by_cases hj : j < n
    · exact tab_nth _ _ _ hj
    · rw [getD_out _ j (by rw [tab_len]; omega), hp j (by omega)]
  unfold gr
  rw [e, e]
theorem tab_wiL {p : Nat → Int} {B : Int} (h : Wi p B) (hB : 0 ≤ B) (n : Nat) : Wi (nth (tab n p)) B := fun i => by
  by_cases hi : i < n
  · rw [tab_nth _ _ _ hi]; exact h i
  · rw [getD_out _ i (by rw [tab_len]; omega)]; omega
theorem one_tab (k : Nat → Int) : [16777216] = tab 1 (prd k 0) := by
  apply tab_ext rfl
  intro i hi
  match i, hi with
  | 0, _ => rfl
theorem mem3_set3 {w wr : World} {T1 T2 T3 : TypeId} {a b c : List Int} (h : Mem3 w wr T1 T2 T3 a b c) (k : Nat) (z : Int) : Mem3 w (wr.setCell ⟨w.heap.size + 1 + 1, k, none⟩ (.int .i64 z)) T1 T2 T3 a b (c.set k z) :=
  ⟨h.1.keepBut (grown_setCell _ ⟨w.heap.size + 1 + 1, k, none⟩ _) (by simp; omega), h.2.1.keepBut (grown_setCell _ ⟨w.heap.size + 1 + 1, k, none⟩ _) (by simp), h.2.2.1.set k z, grown_own h.2.2.2 (grown_setCell _ ⟨w.heap.size + 1 + 1, k, none⟩ _) (by simp; omega)⟩
set_option maxRecDepth 100000 in
theorem refDirect_no (k : List Int) (hk : k.length = 8) (sk : steadyB k = false) (w : World) : Calls Try.prog 11 #[.agg (arrI k)] w (ArrE w (zeros 9) 2) := by
  have L0 := hide (laid3 w 22 35 35 k (zeros 9) (zeros 9))
  rw [z9'] at L0
  have SA := hide (refSteady_any k hk)
  rw [sk] at SA
  go_enter Try.func11, Try.ntmps11
  go_wp2_with (refine wpList_load_arr rfl 22 _ rfl _ rfl _ L0.out.1 _ Try.underlying22 rfl (by rw [hk]; exact size8') ?_)
  refine (SA.out _).mono ?_
  rintro e w1 ⟨rfl, g1⟩
  have BB := hide (L0.out.2.1.keep g1)
  have BO := hide (L0.out.2.2.1.keep g1)
  have GM := hide (grown_none L0.out.2.2.2 g1)
  clear L0 g1 SA
  go_wp2_with (first | refine wpList_load_arr rfl 35 _ rfl _ rfl _ BO.out _ Try.underlying35 rfl (by rw [zeros_len]; exact size9') ?_ | refine wpList_store_arr rfl 35 _ _ rfl _ (zeros 9) (zeros 9) rfl rfl BB.out rfl (by rw [zeros_len]; exact size9') ?_)
  have PU := put_arr (rs' := zeros 9) BB.out rfl
  have hlv := loadVar_arr PU.1 _ Try.underlying35 rfl (by rw [zeros_len]; exact size9')
  have GF := hide (grown_own GM.out PU.2 (by omega))
  refine bodyPost_ret (v := .tuple #[.agg (arrI (zeros 9)), .int .i64 2]) ?_ rfl ⟨rfl, GF.out⟩
  simp [results, Try.results11, asAddr, Act.put, hlv]
set_option maxRecDepth 100000 in
theorem refDirect_yes (k : List Int) (hk : k.length = 8) (sk : steadyB k = true) (w : World) : Calls Try.prog 11 #[.agg (arrI k)] w (ArrE w (dirL k) (dirE k)) := by
  have L0 := hide (laid3 w 22 35 35 k (zeros 9) (zeros 9))
  rw [z9'] at L0
  have SA := hide (refSteady_any k hk)
  rw [sk] at SA
  have SK := hide (steady_le hk sk)
  have EL := hide (show dirL k = tab 9 (dirN (nth k)) by simp [dirL, sk])
  have EE := hide (show dirE k = 0 by simp [dirE, sk])
  have IX := hide (fun j hj => index_arr k Try.underlying22 j hj hk)
  clear sk
  go_enter Try.func11, Try.ntmps11
  go_wp2_with (refine wpList_load_arr rfl 22 _ rfl _ rfl _ L0.out.1 _ Try.underlying22 rfl (by rw [hk]; exact size8') ?_)
  refine (SA.out _).mono ?_
  rintro e w1 ⟨rfl, g1⟩
  have M1 := hide (show Mem3 w w1 22 35 35 k (zeros 9) (zeros 9) from Mem3.keep L0.out g1)
  have hs1 : w.heap.size + 1 + 1 + 1 ≤ w1.heap.size := M1.out.2.2.1.lt
  have M2 := hide (M1.out.keep (grown_alloc w1 (.cells #[.int .i64 16777216] 3) none))
  have O2 := hide (own_lit w1 (w.heap.size + 1 + 1 + 1) hs1 16777216)
  rw [one_tab (nth k)] at O2
  clear L0 g1 SA M1
  go_wp2_with (refine wpList_load_arr rfl 22 _ rfl _ rfl _ M2.out.1 _ Try.underlying22 rfl (by rw [hk]; exact size8') ?_)
  generalize w1.alloc _ = W0 at *
  go_loopw [5, 16] (fun va i wr => ∃ m : Nat, i = .int .i64 m ∧ m ≤ 8 ∧ Hid (Own (w.heap.size + 1 + 1 + 1) wr va (tab (m + 1) (prd (nth k) m))) ∧ Hid (Mem3 w wr 22 35 35 k (zeros 9) (zeros 9))) (fun _ i _ => 8 - (intOf i).toNat)
  case atStart => exact ⟨0, rfl, Nat.zero_le _, O2.out, M2.out⟩
  case round =>
    obtain ⟨m, rfl, hm, hO, hM⟩ := hrel
    clear M2 O2
    by_cases hm8 : m < 8
    · have ix := IX.out m (by omega)
      obtain ⟨q1, q2⟩ := SK.out m hm8
      have hlen := tab_len (m + 1) (prd (nth k) m)
      have GR := hide (refGrown_any _ _ (by omega) (by omega) (nth k m) q1 q2 (tab_wiL ((prd_bd32 (nth k) SK.out m (by omega)).le (by decide)) (by decide) (m + 1)) wr hO.out.ints hO.out.shp)
      rw [hlen, tab_grL _ _ (fun i hi => prd_out _ _ _ hi)] at GR
      rw [show tab (m + 1 + 1) (gr (prd (nth k) m) (m + 1) (nth k m)) = tab (m + 1 + 1) (prd (nth k) (m + 1)) from rfl] at GR
      have hsz : w.heap.size + 1 + 1 + 1 ≤ wr.heap.size := hM.out.2.2.1.lt
      clear IX EL EE SK hO
      generalize nth k m = q at *
      go_wp2_with fail
      refine GR.out.mono ?_
      rintro e w2 ⟨v2, rfl, o2, g2⟩
      have O3 := hide (Own.base o2 hsz)
      have M3 := hide (hM.out.keep g2)
      clear o2 g2 GR hM
      go_wp2_with fail
      go_roundw
      case rel => exact ⟨m + 1, by go_num, by omega, O3.out, M3.out⟩
      case measure => simp [intOf]; omega
    · obtain rfl : m = 8 := by omega
      rw [show ((8 : Nat) : Int) = 8 from rfl]
      have hlen := tab_len 9 (prd (nth k) 8)
      have NA := hide (fun i hi => tab_nth 9 (prd (nth k) 8) i hi)
      have PB := hide (prd_bd32 (nth k) SK.out 8 (by omega))
      have DN := hide (show ∀ i, dirN (nth k) i = (prd (nth k) 8 i + 2048) / 4096 from fun i => rfl)
      generalize dirN (nth k) = dn at *
      generalize prd (nth k) 8 = pk at *
      obtain ⟨g, cap, hv, _, _, hcap⟩ := hO.out.form (by rw [hlen]; omega)
      subst hv
      rw [hlen] at hO hcap
      rw [hlen]
      clear IX SK
      generalize hA : tab 9 pk = A at *
      clear hA
      go_wp2_with fail
      go_loopw [25] (fun i wr => ∃ (m : Nat) (rs : List Int), i = .int .i64 m ∧ m ≤ 9 ∧ Hid (FillN 9 dn m rs) ∧ Hid (Own (w.heap.size + 1 + 1 + 1) wr (.slice (some ⟨g, 0, none⟩) 9 cap) A) ∧ Hid (Mem3 w wr 22 35 35 k (zeros 9) rs)) (fun i _ => 9 - (intOf i).toNat)
      case atStart => exact ⟨0, zeros 9, rfl, Nat.zero_le _, fillN_start 9 _, hO.out, hM.out⟩
      case round =>
        obtain ⟨m, rs, rfl, hm', hF, hO', hM'⟩ := hrel
        clear hM hO
        by_cases hm9 : m < 9
        · have ca := hO'.out.cell hlen.symm m (by omega)
          rw [NA.out m hm9] at ca
          obtain ⟨b1, b2⟩ := PB.out m
          have D := hide (fun u => down_any (pk m + 2048) 12 (by omega) (by omega) (by omega) u)
          rw [show ((12 : Nat) : Int) = 12 from rfl, show (2 : Int) ^ 12 = 4096 by decide, ← DN.out m] at D
          have hlr : rs.length = 9 := hF.out.1
          have NF := hide (fillN_step hF.out hm9)
          clear hF NA PB DN EL EE
          generalize dn m = z at *
          generalize pk m = x at *
          have i1 : (m : Int) < 9 := by omega
          go_wp2_with fail
          refine (D.out _).mono ?_
          rintro e w3 ⟨rfl, g3⟩
          have M3 := hide (hM'.out.keep g3)
          have cd := M3.out.2.2.1.cell m (by omega)
          have fd := M3.out.2.2.1.free m
          have O4 := hide ((hO'.out.keep g3).keepLt (grown_setCell w3 ⟨w.heap.size + 1 + 1, m, none⟩ (.int .i64 z)) (by simp))
          have NM := hide (mem3_set3 M3.out m z)
          clear D g3 hM' hO' M3 ca
          generalize nth rs m = y' at *
          go_wp2_with fail
          go_roundw
          case rel => exact ⟨m + 1, _, by go_num, by omega, NF.out, O4.out, NM.out⟩
          case measure => simp [intOf]; omega
        · obtain rfl : m = 9 := by omega
          have hlr : rs.length = 9 := hF.out.1
          have ER := hide (show rs = tab 9 dn from fillN_all hF.out)
          have BA := hide hM'.out.2.2.1
          have BB := hide hM'.out.2.1
          have GM := hide hM'.out.2.2.2
          clear hF hM' hO' NA PB DN
          go_wp2_with (first | refine wpList_load_arr rfl 35 _ rfl _ rfl _ BA.out _ Try.underlying35 rfl (by rw [hlr]; exact size9') ?_ | refine wpList_store_arr rfl 35 _ _ rfl _ (zeros 9) rs rfl rfl BB.out (by rw [hlr, zeros_len]) (by rw [zeros_len]; exact size9') ?_)
          have PU := put_arr (rs' := rs) BB.out (by rw [hlr, zeros_len])
          have hlv := loadVar_arr PU.1 _ Try.underlying35 rfl (by rw [hlr]; exact size9')
          have GF := hide (grown_own GM.out PU.2 (by omega))
          refine bodyPost_ret (v := .tuple #[.agg (arrI rs), .int .i64 0]) ?_ rfl ?_
          · simp [results, Try.results11, asAddr, Act.put, hlv]
          · rw [EL.out, EE.out, ← ER.out]; exact ⟨rfl, GF.out⟩
theorem refDirect_any (k : List Int) (hk : k.length = 8) (w : World) : Calls Try.prog 11 #[.agg (arrI k)] w (ArrE w (dirL k) (dirE k)) := by
  rcases sk : steadyB k with _ | _
  · rw [show dirL k = zeros 9 by simp [dirL, sk], show dirE k = 2 by simp [dirE, sk]]
    exact refDirect_no k hk sk w
  · exact refDirect_yes k hk sk w
end Go.Proofs.Ytjepkgdejkifcaa

/- RefEra -/
namespace Go.Proofs.Ytjepkgdejkifcaa
open Go.RowKit
set_option linter.unusedVariables false
set_option linter.unusedSimpArgs false
set_option maxHeartbeats 2000000
theorem MmS.own {w : World} {l : List Int} {s : Bool} {wr wr' : World} {r : Option Nat} (h : MmS w l s wr) (g : wr.grownBy wr' r) (hr : ∀ x, r = some x → w.heap.size + 1 + 1 ≤ x) : MmS w l s wr' := by
  rcases r with _ | x
  · exact h.keep g
  · have := hr x rfl
    exact ⟨h.1.keepBut g (by omega), h.2.1.keepBut g (by omega), grown_own h.2.2 g (by omega)⟩
theorem MmS.all {w : World} {l m : List Int} {s t : Bool} {wr : World} (h : MmS w l s wr) (hl : l.length = 101) (hm : m.length = 101) : MmS w m t (putV wr w.heap.size 0 (memC m t)) ∧ wr.grownBy (putV wr w.heap.size 0 (memC m t)) (some w.heap.size) := by
  have := h.1.putAll (m := m) (t := t) hl hm
  exact ⟨⟨this.1, h.2.1.keepBut this.2 (by omega), grown_own h.2.2 this.2 (Nat.le_refl _)⟩, this.2⟩
theorem blk_own {wr wr' : World} {b : Nat} {T : TypeId} {a : List Int} {r : Option Nat} (h : Blk wr b T a) (g : wr.grownBy wr' r) (hr : ∀ x, r = some x → b ≠ x) : Blk wr' b T a := by
  rcases r with _ | x
  · exact h.keep g
  · exact h.keepBut g (hr x rfl)
set_option maxRecDepth 100000 in
theorem refErase_no (l : List Int) (s : Bool) (hl : l.length = 101) (h64 : In64 l) (hg : goodM l = false) (w : World) : Calls Try.prog 5 #[memV l s] w (MemE w (ersM l) (ersS l s) (ersL l) (ersE l)) := by
  have M0 := hide (MmS.new w l s)
  have GD := hide (fun wr => refGoodM_any l s hl h64 wr)
  rw [hg] at GD
  have F := hide (show ∀ w', w.grownBy w' none → MemE w (ersM l) (ersS l s) (ersL l) (ersE l) (.returned (.tuple #[memV (zeros 101) false, .slice none 0 0, .int .i64 2])) w' from fun w' q => ⟨_, by rw [(ers_no (s := s) hg).1, (ers_no (s := s) hg).2.1, (ers_no (s := s) hg).2.2.2], by rw [(ers_no (s := s) hg).2.2.1]; exact Own_nil _ _, q⟩)
  have CL := hide (memC_len hl s)
  have AL := hide (BlkM.all s hl)
  have ZL := hide (memC_len (zeros_len 101) false)
  have ZO := hide (memC_one (zeros 101) false)
  have hz := zero_mem
  have ZB := hide (fun wr (h : MmS w l s wr) => h.fin (zeros 101) false (zeros_len 101))
  clear hg h64
  generalize MemE w (ersM l) (ersS l s) (ersL l) (ersE l) = T at *
  unfold memV at hz F GD ⊢
  go_enter Try.func5, Try.ntmps5
  go_upto_region 1 with fail
  generalize (w.alloc (.cells (memC l s).toArray 25)).alloc (.cells (memC (zeros 101) false).toArray 25) = W0 at *
  go_wp2_with (refine wpList_load_v rfl 25 _ rfl w.heap.size 0 102 rfl 25 (memC l s) M0.out.1 _ Try.underlying25 rfl size102 (by rw [CL.out]; omega) _ AL.out ?_)
  refine (GD.out W0).mono ?_
  rintro e W1 ⟨rfl, g1⟩
  have M1 := hide (M0.out.keep g1)
  have PB := hide (ZB.out W1 M1.out)
  have FF := hide (F.out _ PB.out.2)
  clear M0 g1 GD ZB F
  go_wp2_with (first | refine wpList_store_v rfl 25 _ _ rfl (w.heap.size + 1) 0 25 (memC (zeros 101) false) (memC (zeros 101) false) rfl rfl M1.out.2.1 (by rw [ZL.out]; omega) (by rw [ZL.out]; exact size102) ZO.out ?_)
  have hlv := loadVar_v PB.out.1 _ Try.underlying25 rfl (by rw [ZL.out]; exact size102)
  refine bodyPost_ret (v := .tuple #[.agg (memC (zeros 101) false).toArray, .slice none 0 0, .int .i64 2]) ?_ rfl FF.out
  simp [results, Try.results5, asAddr, Act.put, hlv]
set_option maxRecDepth 100000 in
theorem refErase_yes (l : List Int) (s : Bool) (hl : l.length = 101) (h64 : In64 l) (hg : goodM l = true) (w : World) : Calls Try.prog 5 #[memV l s] w (MemE w (ersM l) (ersS l s) (ersL l) (ersE l)) := by
  have M0 := hide (MmS.new w l s)
  have GD := hide (fun wr => refGoodM_any l s hl h64 wr)
  rw [hg] at GD
  have DI := hide (fun wr => refDirect_any (prt l 0 8) (prt_len _ _ _) wr)
  have EX := hide (fun wr => refExpand_any (dirL (prt l 0 8)) (dirL_len _) 32440 wr)
  rw [show expL (dirL (prt l 0 8)) 32440 = eaA l from rfl] at EX
  have ER := hide (show ∀ (k : Nat), k < 2 → ∀ wr, Calls Try.prog 13 #[memV (eaM (eaA l) l k) s, .int .i64 (k : Int)] wr (MemE wr (erM (eaM (eaA l) l k) k) s (erL (eaM (eaA l) l k) k) 0) from fun k hk wr => by
    have g := eaM_good (eaA l) l hl (eaA_wide hg) hg k (by omega)
    have n := eaM_len (eaA l) l hl k
    have o : erO (eaM (eaA l) l k) (k : Int) := ⟨g, by omega, by omega⟩
    have c := refErased_any (eaM (eaA l) l k) s (k : Int) n (good_64 n g) wr
    rw [(er_yes (s := s) o).2.1, (er_yes (s := s) o).2.2.2] at c
    exact c)
  have EN := hide (fun (k : Nat) (hk : k < 2) => show (erL (eaM (eaA l) l k) k).length = 40 by
    have g := eaM_good (eaA l) l hl (eaA_wide hg) hg k (by omega)
    rw [(er_yes (s := true) (l := eaM (eaA l) l k) (half := (k : Int)) ⟨g, by omega, by omega⟩).2.2.1, erX_len])
  have ON := hide (fun (k : Nat) (hk : k ≤ 2) => (eaO_right (eaA l) l hl (eaA_wide hg) hg k hk).1)
  have SN := hide (fun (k : Nat) (hk : k < 2) => show (souL (eaA l) (erM (eaM (eaA l) l k) k) (erL (eaM (eaA l) l k) k)).length ≤ 40 by
    have := mkL_le (eaA l) (prt (erM (eaM (eaA l) l k) k) 8 8) (erL (eaM (eaA l) l k) k)
    rw [EN.out k hk] at this
    exact this)
  have LM := hide (fun (k : Nat) => eaM_len (eaA l) l hl k)
  have LE := hide (fun (k : Nat) => erM_lenE (eaM (eaA l) l k) (eaM_len (eaA l) l hl k) (k : Int))
  have F := hide (show ∀ v' w', Own w.heap.size w' v' (eaO (eaA l) l 2) → w.grownBy w' none → MemE w (ersM l) (ersS l s) (ersL l) (ersE l) (.returned (.tuple #[memV (eaM (eaA l) l 2) s, v', .int .i64 0])) w' from fun v' w' o q =>
    ⟨v', by rw [(ers_yes (s := s) hg).1, (ers_yes (s := s) hg).2.1, (ers_yes (s := s) hg).2.2.2], by rw [(ers_yes (s := s) hg).2.2.1]; exact o, q⟩)
  have AN := hide (show (eaA l).length = 9 from expL_len _ _)
  have DN := hide (dirL_len (prt l 0 8))
  have MK := hide (fun (k : Nat) (hk : k < 2) v wr (h : Ints wr v (erL (eaM (eaA l) l k) k)) (sh : Shp v (erL (eaM (eaA l) l k) k)) => refMake_any (eaA l) (prt (erM (eaM (eaA l) l k) k) 8 8) AN.out (prt_len _ _ _) v (erL (eaM (eaA l) l k) k) wr h sh (by rw [EN.out k hk]; omega))
  have S1 := hide (fun (k : Nat) => show ovr (erM (eaM (eaA l) l k) k) 8 (mkP (eaA l) (prt (erM (eaM (eaA l) l k) k) 8 8) (erL (eaM (eaA l) l k) k)) = eaM (eaA l) l (k + 1) from rfl)
  have S2 := hide (fun (k : Nat) => show eaO (eaA l) l k ++ mkL (eaA l) (prt (erM (eaM (eaA l) l k) k) 8 8) (erL (eaM (eaA l) l k) k) = eaO (eaA l) l (k + 1) from rfl)
  have E0 := hide (show eaM (eaA l) l 0 = l from rfl)
  have E1 := hide (show eaO (eaA l) l 0 = [] from rfl)
  have HL := hide hl
  have CL := hide (memC_len hl s)
  have AL := hide (BlkM.all s hl)
  have P0 := hide (BlkM.part (l := l) s 0 8 (by omega))
  have ZL := hide (memC_len (zeros_len 101) false)
  have hz := zero_mem
  clear hg h64 hl
  generalize MemE w (ersM l) (ersS l s) (ersL l) (ersE l) = T at *
  unfold memV at hz F GD ER ⊢
  generalize eaA l = A at *
  generalize prt l 0 8 = k8 at *
  generalize dirL k8 = D at *
  generalize expE D 32440 = x1 at *
  generalize dirE k8 = x2 at *
  go_enter Try.func5, Try.ntmps5
  go_upto_region 1 with fail
  generalize (w.alloc (.cells (memC l s).toArray 25)).alloc (.cells (memC (zeros 101) false).toArray 25) = W0 at *
  clear hz
  go_wp2_with (refine wpList_load_v rfl 25 _ rfl w.heap.size 0 102 rfl 25 (memC l s) M0.out.1 _ Try.underlying25 rfl size102 (by rw [CL.out]; omega) _ AL.out ?_)
  refine (GD.out W0).mono ?_
  rintro e W1 ⟨rfl, g1⟩
  have M1 := hide (M0.out.keep g1)
  clear M0 g1 GD
  go_wp2_with (first | refine wpList_load_v rfl 22 _ rfl w.heap.size 0 8 rfl 25 (memC l s) M1.out.1 _ Try.underlying22 rfl size8 (by rw [CL.out]; omega) _ P0.out ?_)
  refine (DI.out W1).mono ?_
  rintro e W2 ⟨rfl, g2⟩
  obtain ⟨b1, b2, b3⟩ := fresh_arr W2 35 9 D DN.out
  have B1 := hide b1
  have B2 := hide b2
  have M3 := hide ((M1.out.keep g2).keep b3)
  have N2 := hide (show w.heap.size + 1 + 1 ≤ W2.heap.size from (M1.out.keep g2).2.1.lt)
  rw [z9'] at B1 B2 M3
  clear g2 DI b1 b2 b3 M1 P0
  go_upto_region 4 with (first | refine wpList_store_arr rfl 35 _ _ rfl _ (zeros 9) D rfl rfl B1.out (by rw [DN.out, zeros_len]) (by rw [zeros_len]; exact size9') ?_)
  clear B1
  generalize putArr _ W2.heap.size D = W3 at *
  generalize W2.heap.size = ba at *
  go_wp2_with (first | refine wpList_load_arr rfl 35 _ rfl _ rfl _ B2.out _ Try.underlying35 rfl (by rw [DN.out]; exact size9') ?_)
  refine (EX.out W3).mono ?_
  rintro e W4 ⟨rfl, g4⟩
  have B4 := hide (B2.out.keep g4)
  have M4 := hide (M3.out.keep g4)
  have PU := put_arr (rs' := A) B4.out (by rw [AN.out, DN.out])
  have B5 := hide PU.1
  have M5 := hide (M4.out.own PU.2 (fun x e => by cases e; exact N2.out))
  have N5 := hide (show ba + 1 ≤ (putArr W4 ba A).heap.size from B5.out.lt)
  clear g4 PU EX B2 M3 M4
  go_upto_region 6 with (first | refine wpList_store_arr rfl 35 _ _ rfl _ D A rfl rfl B4.out (by rw [AN.out, DN.out]) (by rw [DN.out]; exact size9') ?_)
  clear B4
  generalize putArr W4 ba A = W5 at *
  go_wp2_with fail
  go_loopw [7, 8] (fun va i wr => ∃ k : Nat, i = .int .i64 k ∧ k ≤ 2 ∧ Hid (Own (ba + 1) wr va (eaO A l k)) ∧ Hid (MmS w (eaM A l k) s wr) ∧ Hid (Blk wr ba 35 A) ∧ Hid (ba + 1 ≤ wr.heap.size)) (fun _ i _ => 2 - (intOf i).toNat)
  case atStart => exact ⟨0, rfl, Nat.zero_le _, by rw [E1.out]; exact Own_nil _ _, by rw [E0.out]; exact M5.out, B5.out, N5.out⟩
  case round =>
    obtain ⟨k, rfl, hk, hO, hM, hB, hN⟩ := hrel
    clear M5 B5 N5
    by_cases hkl : k < 2
    · have hk2 : (k : Int) < 2 := by omega
      have A1 := hide (BlkM.all s (LM.out k))
      have C1 := hide (memC_len (LM.out k) s)
      have ER1 := hide (ER.out k hkl wr)
      clear ER
      go_upto_region 10 with fail
      go_wp2_with (first | refine wpList_load_v rfl 25 _ rfl w.heap.size 0 102 rfl 25 (memC (eaM A l k) s) hM.out.1 _ Try.underlying25 rfl size102 (by rw [C1.out]; omega) _ A1.out ?_)
      refine ER1.out.mono ?_
      rintro e w2 ⟨v2, rfl, o2, g2⟩
      have O2 := hide (hO.out.keep g2)
      have M2 := hide (hM.out.keep g2)
      have B2 := hide (hB.out.keep g2)
      have N2' := hide (Nat.le_trans hN.out g2.size)
      have X2 := hide (o2.base hN.out)
      clear hO hM hB g2 o2 ER1 A1
      have MA := M2.out.all (m := erM (eaM A l k) k) (t := s) (LM.out k) (LE.out k)
      have M3 := hide MA.1
      have O3 := hide (O2.out.keepLt MA.2 (by have := N2.out; omega))
      have X3 := hide (X2.out.keepLt MA.2 (by have := N2.out; omega))
      have B3 := hide (B2.out.keepBut MA.2 (by have := N2.out; omega))
      have N3 := hide (Nat.le_trans N2'.out MA.2.size)
      have I_ := hide (memC_one (erM (eaM A l k) k) s)
      have C3 := hide (memC_len (LE.out k) s)
      clear MA O2 X2 B2 N2' hN
      unfold memV
      go_upto_region 11 with (first | refine wpList_store_v rfl 25 _ _ rfl w.heap.size 0 25 (memC (eaM A l k) s) (memC (erM (eaM A l k) k) s) rfl rfl M2.out.1 (by rw [C1.out, C3.out]; omega) (by rw [C3.out]; exact size102) I_.out ?_)
      clear M2 I_
      generalize putV w2 w.heap.size 0 (memC (erM (eaM A l k) k) s) = w3 at *
      have P3 := hide (BlkM.part (l := erM (eaM A l k) k) s 8 8 (by rw [LE.out k]; omega))
      have MK1 := hide (MK.out k hkl v2 w3 X3.out.ints X3.out.shp)
      have PL := hide (mkP_len A (prt (erM (eaM A l k) k) 8 8) (erL (eaM A l k) k))
      have Q1 := hide (S1.out k)
      have Q2 := hide (S2.out k)
      have LL := hide (LE.out k)
      have OL := hide (ON.out k hk)
      have SL := hide (SN.out k hkl)
      unfold souL at SL
      clear MK X3 EN
      generalize mkP A (prt (erM (eaM A l k) k) 8 8) (erL (eaM A l k) k) = PP at *
      generalize mkL A (prt (erM (eaM A l k) k) 8 8) (erL (eaM A l k) k) = LX at *
      generalize fiE A (prt (erM (eaM A l k) k) 8 8) (erL (eaM A l k) k) = x3 at *
      generalize erM (eaM A l k) k = EM at *
      go_wp2_with (first | refine wpList_load_arr rfl 35 _ rfl _ rfl _ B3.out _ Try.underlying35 rfl (by rw [AN.out]; exact size9') ?_ | refine wpList_load_v rfl 22 _ rfl w.heap.size 8 8 rfl 25 (memC EM s) M3.out.1 _ Try.underlying22 rfl size8 (by rw [C3.out]; omega) _ P3.out ?_)
      refine MK1.out.mono ?_
      rintro e w4 ⟨v4, rfl, o4, g4⟩
      have O4 := hide (O3.out.keep g4)
      have M4 := hide (M3.out.keep g4)
      have B4 := hide (B3.out.keep g4)
      have N4 := hide (Nat.le_trans N3.out g4.size)
      have X4 := hide (o4.base N3.out)
      clear O3 M3 B3 N3 g4 o4 MK1 P3
      have PT := M4.out.1.put 8 PP (by rw [PL.out, LL.out]; omega)
      have M5 := hide (M4.out.put 8 PP (by rw [PL.out, LL.out]; omega))
      have O5 := hide (O4.out.keepLt PT.2 (by have := N2.out; omega))
      have X5 := hide (X4.out.keepLt PT.2 (by have := N2.out; omega))
      have B5 := hide (B4.out.keepBut PT.2 (by have := N2.out; omega))
      have N5 := hide (Nat.le_trans N4.out PT.2.size)
      have IP := hide (intsV_one PP)
      have IL := hide (show (intsV PP).length = 8 by rw [intsV_len]; exact PL.out)
      rw [Q1.out] at M5
      clear PT O4 X4 B4 N4 Q1
      go_upto_region 12 with (first | refine wpList_store_v rfl 22 _ _ rfl w.heap.size 8 25 (memC EM s) (intsV PP) rfl rfl M4.out.1 (by rw [IL.out, C3.out]; omega) (by rw [IL.out]; exact size8) IP.out ?_)
      clear M4 IP IL
      generalize putV w4 w.heap.size 8 (intsV PP) = w5 at *
      have LB := hide (show ((eaO A l k).length + LX.length) * 8 ≤ 140737488355328 by rw [OL.out]; have := SL.out; omega)
      have XI := hide X5.out.ints
      have XS := hide X5.out.shp
      go_wp2_with (at_builtin; refine wpList_append_both (by rfl) _ _ rfl (ba + 1) _ v4 (eaO A l k) LX rfl rfl O5.out XI.out XS.out LB.out N5.out ?_)
      intro v6 w6 h6 g6
      rw [Q2.out] at h6
      have O6 := hide h6
      have M6 := hide (M5.out.own g6 (fun x e => by have := (O5.out.lt x e).1; have := N2.out; omega))
      have B6 := hide (blk_own B5.out g6 (fun x e => by have := (O5.out.lt x e).1; omega))
      have N6 := hide (Nat.le_trans N5.out g6.size)
      clear h6 g6 O5 M5 B5 N5 X5 Q2
      go_wp2_with fail
      go_roundw
      case rel => exact ⟨k + 1, by go_num, by omega, O6.out, M6.out, B6.out, N6.out⟩
      case measure => simp [intOf]; omega
    · obtain rfl : k = 2 := by omega
      have A1 := hide (BlkM.all s (LM.out 2))
      have C1 := hide (memC_len (LM.out 2) s)
      have I_ := hide (memC_one (eaM A l 2) s)
      have PB := hide (hM.out.fin (eaM A l 2) s (LM.out 2))
      have O6 := hide (hO.out.keepLt (hM.out.2.1.putAll (m := eaM A l 2) (t := s) (zeros_len 101) (LM.out 2)).2 (by have := N2.out; omega))
      have FF := hide (F.out _ _ (O6.out.base (b' := w.heap.size) (by have := N2.out; omega)) PB.out.2)
      clear F O6 ER MK
      generalize eaM A l 2 = m at *
      generalize eaO A l 2 = L at *
      go_wp2_with (first | refine wpList_load_v rfl 25 _ rfl w.heap.size 0 102 rfl 25 (memC m s) hM.out.1 _ Try.underlying25 rfl size102 (by rw [C1.out]; omega) _ A1.out ?_ | refine wpList_store_v rfl 25 _ _ rfl (w.heap.size + 1) 0 25 (memC (zeros 101) false) (memC m s) rfl rfl hM.out.2.1 (by rw [ZL.out, C1.out]; omega) (by rw [C1.out]; exact size102) I_.out ?_)
      have hlv := loadVar_v PB.out.1 _ Try.underlying25 rfl (by rw [C1.out]; exact size102)
      refine bodyPost_ret (v := .tuple #[.agg (memC m s).toArray, _, .int .i64 0]) ?_ rfl FF.out
      simp [results, Try.results5, asAddr, Act.put, hlv]
theorem refErase_any (l : List Int) (s : Bool) (hl : l.length = 101) (h64 : In64 l) (w : World) : Calls Try.prog 5 #[memV l s] w (MemE w (ersM l) (ersS l s) (ersL l) (ersE l)) := by
  rcases hg : goodM l with _ | _
  · exact refErase_no l s hl h64 hg w
  · exact refErase_yes l s hl h64 hg w
end Go.Proofs.Ytjepkgdejkifcaa

/- LCdE -/
namespace Go.Proofs.Ytjepkgdejkifcaa
open Go.RowKit
set_option linter.unusedVariables false
theorem win_codErases (W : World) (l : List Int) (s : Bool) (hl : l.length = 101) (h64 : In64 l) : Calls Try.prog 3 #[memV l s] W fun e w' => e = .returned (.bool true) ∧ Below W.heap.size W w' :=
  law_codErases W (fun l s hl h64 wr g => codErase_any l s hl wr) (fun l s hl h64 wr g => refErase_any l s hl h64 wr) (fun wr g => refFresh_any wr) l s hl h64
end Go.Proofs.Ytjepkgdejkifcaa
