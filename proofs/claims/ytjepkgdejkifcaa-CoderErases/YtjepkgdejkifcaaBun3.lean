/- Texts put together: CnpD, LpcB, LpcC, LpcD, CodE, RefMemA, BigM, BigN, RefPit, BigQ, BigR, BigU, BigZ, RefFad. -/
import Derived.Test.YtjepkgdejkifcaaBun2
import Derived.BigQuiet
import Derived.Deep.QuietTactic
import Derived.Test.YtjepkgdejkifcaaBun1
import Derived.Deep.RegionHeld3
import Derived.OpenShut
/- CnpD -/
namespace Go.Proofs.Ytjepkgdejkifcaa
open Go.RowKit
set_option linter.unusedVariables false
set_option linter.unusedSimpArgs false
set_option maxHeartbeats 2000000
set_option maxRecDepth 100000 in
theorem conErased_no1 (l : List Int) (s : Bool) (half : Int) (hl : l.length = 101) (hg : goodM l = false) (w : World) : Calls Try.prog 20 #[memV l s, .int .i64 half] w (MemE w (erM l half) (erS l half s) (erL l half) (erE l half)) := by
  have M0 := hide (MmS.new w l s)
  have GD := hide (fun wr => conGood_any l s hl wr)
  rw [hg] at GD
  have hno : ¬ erO l half := by unfold erO; rintro ⟨k, _⟩; rw [hg] at k; cases k
  have F := hide (show ∀ w', w.grownBy w' none → MemE w (erM l half) (erS l half s) (erL l half) (erE l half) (.returned (.tuple #[memV (zeros 101) false, .slice none 0 0, .int .i64 2])) w' from fun w' q => ⟨_, by rw [(er_no (s := s) hno).1, (er_no (s := s) hno).2.1, (er_no (s := s) hno).2.2.2], by rw [(er_no (s := s) hno).2.2.1]; exact Own_nil _ _, q⟩)
  have CL := hide (memC_len hl s)
  have AL := hide (BlkM.all s hl)
  have ZL := hide (memC_len (zeros_len 101) false)
  have ZO := hide (memC_one (zeros 101) false)
  have hz := zero_mem
  have ZB := hide (fun wr (h : MmS w l s wr) => h.fin (zeros 101) false (zeros_len 101))
  clear hg hno
  generalize MemE w (erM l half) (erS l half s) (erL l half) (erE l half) = T at *
  unfold memV at hz F GD ⊢
  go_enter Try.func20, Try.ntmps20
  go_upto_region 1 with fail
  generalize (w.alloc (.cells (memC l s).toArray 25)).alloc (.cells (memC (zeros 101) false).toArray 25) = W0 at *
  go_wp2_with (refine wpList_load_v rfl 25 _ rfl w.heap.size 0 102 rfl 25 (memC l s) M0.out.1 _ Try.underlying25 rfl size102 (by rw [CL.out]; omega) _ AL.out ?_)
  refine (GD.out W0).mono ?_
  rintro e W1 ⟨rfl, g1⟩
  have M1 := hide (M0.out.keep g1)
  have PB := hide (ZB.out W1 M1.out)
  have FF := hide (F.out _ PB.out.2)
  clear M0 g1 GD ZB F
  go_wp2_with (first | refine wpList_store_v rfl 25 _ _ rfl (w.heap.size + 1) 0 25 (memC (zeros 101) false) (memC (zeros 101) false) rfl rfl M1.out.2.1 (by rw [ZL.out]; omega) (by rw [ZL.out]; exact size102) ZO.out ?_)
  have hlv := loadVar_v PB.out.1 _ Try.underlying25 rfl (by rw [ZL.out]; exact size102)
  refine bodyPost_ret (v := .tuple #[.agg (memC (zeros 101) false).toArray, .slice none 0 0, .int .i64 2]) ?_ rfl FF.out
  simp [results, Try.results20, asAddr, Act.put, hlv]
set_option maxRecDepth 100000 in
theorem conErased_no2 (l : List Int) (s : Bool) (half : Int) (hl : l.length = 101) (hg : goodM l = true) (hh : ¬ (0 ≤ half ∧ half ≤ 1)) (w : World) : Calls Try.prog 20 #[memV l s, .int .i64 half] w (MemE w (erM l half) (erS l half s) (erL l half) (erE l half)) := by
  have M0 := hide (MmS.new w l s)
  have GD := hide (fun wr => conGood_any l s hl wr)
  rw [hg] at GD
  have hno : ¬ erO l half := by unfold erO; exact fun k => hh k.2
  have F := hide (show ∀ w', w.grownBy w' none → MemE w (erM l half) (erS l half s) (erL l half) (erE l half) (.returned (.tuple #[memV (zeros 101) false, .slice none 0 0, .int .i64 2])) w' from fun w' q => ⟨_, by rw [(er_no (s := s) hno).1, (er_no (s := s) hno).2.1, (er_no (s := s) hno).2.2.2], by rw [(er_no (s := s) hno).2.2.1]; exact Own_nil _ _, q⟩)
  have CL := hide (memC_len hl s)
  have AL := hide (BlkM.all s hl)
  have ZL := hide (memC_len (zeros_len 101) false)
  have ZO := hide (memC_one (zeros 101) false)
  have hz := zero_mem
  have ZB := hide (fun wr (h : MmS w l s wr) => h.fin (zeros 101) false (zeros_len 101))
  have WI := hide (fun u => conWithin_any half 0 1 u)
  rw [decide_eq_false hh] at WI
  clear hh
  clear hg hno
  generalize MemE w (erM l half) (erS l half s) (erL l half) (erE l half) = T at *
  unfold memV at hz F GD ⊢
  go_enter Try.func20, Try.ntmps20
  go_upto_region 1 with fail
  generalize (w.alloc (.cells (memC l s).toArray 25)).alloc (.cells (memC (zeros 101) false).toArray 25) = W0 at *
  go_wp2_with (refine wpList_load_v rfl 25 _ rfl w.heap.size 0 102 rfl 25 (memC l s) M0.out.1 _ Try.underlying25 rfl size102 (by rw [CL.out]; omega) _ AL.out ?_)
  refine (GD.out W0).mono ?_
  rintro e W1 ⟨rfl, g1⟩
  have M1 := hide (M0.out.keep g1)
  have PB := hide (ZB.out W1 M1.out)
  have FF := hide (F.out _ PB.out.2)
  clear M0 g1 GD ZB F
  go_wp2_with fail
  refine (WI.out _).mono ?_
  rintro e W2 ⟨rfl, rfl⟩
  clear WI
  go_wp2_with (first | refine wpList_store_v rfl 25 _ _ rfl (w.heap.size + 1) 0 25 (memC (zeros 101) false) (memC (zeros 101) false) rfl rfl M1.out.2.1 (by rw [ZL.out]; omega) (by rw [ZL.out]; exact size102) ZO.out ?_)
  have hlv := loadVar_v PB.out.1 _ Try.underlying25 rfl (by rw [ZL.out]; exact size102)
  refine bodyPost_ret (v := .tuple #[.agg (memC (zeros 101) false).toArray, .slice none 0 0, .int .i64 2]) ?_ rfl FF.out
  simp [results, Try.results20, asAddr, Act.put, hlv]
set_option maxRecDepth 100000 in
theorem conErased_up (l : List Int) (s : Bool) (half : Int) (hl : l.length = 101) (hg : goodM l = true) (hh : half = 0) (h6 : nth l 99 < 6) (w : World) : Calls Try.prog 20 #[memV l s, .int .i64 half] w (MemE w (erM l half) (erS l half s) (erL l half) (erE l half)) := by
  have M0 := hide (MmS.new w l s)
  have GD := hide (fun wr => conGood_any l s hl wr)
  have h64 := good_64 hl hg
  have hk : erO l half := ⟨hg, by omega, by omega⟩
  have EB := erN_bd l half hg
  rw [hg] at GD
  have WI := hide (fun u => conWithin_any half 0 1 u)
  rw [decide_eq_true (show 0 ≤ half ∧ half ≤ 1 by omega)] at WI
  have hx3 : (half == 0) = true := beq_iff_eq.2 hh
  have h60 : 0 ≤ nth l 99 ∧ nth l 99 ≤ 6 := (goodM_iff l).1 hg 99 (by omega)
  obtain ⟨er, her⟩ : ∃ er, erN l half = er := ⟨_, rfl⟩
  obtain ⟨f1, hf1⟩ : ∃ f1, fdV (nth l 96) er = f1 := ⟨_, rfl⟩
  obtain ⟨f2, hf2⟩ : ∃ f2, fdV (nth l 97) er = f2 := ⟨_, rfl⟩
  obtain ⟨sz, hsz⟩ : ∃ sz, f1 / 4 = sz := ⟨_, rfl⟩
  obtain ⟨l1, hl1⟩ : ∃ l1, l.set 99 (nth l 99 + 1) = l1 := ⟨_, rfl⟩
  have E1 : l1 = l.set 99 er := by rw [← hl1, ← her]; unfold erN; rw [if_pos ⟨hh, h6⟩]
  have L1 := hide (show l1.length = 101 by rw [E1, List.length_set]; exact hl)
  have E96 := hide (show nth l1 96 = nth l 96 by rw [E1, setN _ _ _ (by omega), if_neg (by omega)])
  have E97 := hide (show nth l1 97 = nth l 97 by rw [E1, setN _ _ _ (by omega), if_neg (by omega)])
  have E98 := hide (show nth l1 98 = nth l 98 by rw [E1, setN _ _ _ (by omega), if_neg (by omega)])
  have E99 := hide (show nth l1 99 = er by rw [E1, setN _ _ _ (by omega), if_pos rfl])
  have E100 := hide (show nth l1 100 = nth l 100 by rw [E1, setN _ _ _ (by omega), if_neg (by omega)])
  have D97 := hide (show ∀ z, nth (l1.set 100 z) 97 = nth l 97 from fun z => by rw [setN _ _ _ (by rw [L1.out]; omega), if_neg (by omega)]; exact E97.out)
  have D98 := hide (show ∀ z, nth (l1.set 100 z) 98 = nth l 98 from fun z => by rw [setN _ _ _ (by rw [L1.out]; omega), if_neg (by omega)]; exact E98.out)
  have D99 := hide (show ∀ z, nth (l1.set 100 z) 99 = er from fun z => by rw [setN _ _ _ (by rw [L1.out]; omega), if_neg (by omega)]; exact E99.out)
  have NZ := hide (fun wr => conNoise_any l1 s sz L1.out wr)
  rw [E100.out] at NZ
  have EZ : nzL (nth l 100) sz 40 = erZ l half := by unfold erZ; rw [her, hf1, hsz]
  rw [EZ] at NZ
  have MO := er_mix l half hg
  rw [her, hf2] at MO
  have MX := hide (fun v wr (hv : Ints wr v (erZ l half)) => conMix_any (prt l 16 80) (nth l 98) f2 v (erZ l half) wr (prt_len _ _ _) hv (by rw [erZ_len]; omega))
  rw [(mxL_yes (h := prt l 16 80) MO).1, (mxL_yes (h := prt l 16 80) MO).2] at MX
  have EX : mxA (pasL (prt l 16 80) (nth l 98)) f2 (erZ l half) = erX l half := by unfold erX; rw [her, hf2]
  rw [EX] at MX
  have KP := hide (fun v wr (hv : Ints wr v (erX l half)) => conKeep_any (prt l 16 80) v (erX l half) wr (prt_len _ _ _) hv (by rw [erX_len]; omega))
  rw [(kpL_yes (h := prt l 16 80) (erX_len l half)).1, (kpL_yes (h := prt l 16 80) (erX_len l half)).2] at KP
  have KL := hide (kpA_len (prt l 16 80) (erX l half))
  have F := hide (show ∀ v' w', Own w.heap.size w' v' (erX l half) → w.grownBy w' none → MemE w (erM l half) (erS l half s) (erL l half) (erE l half) (.returned (.tuple #[memV (ovr (l1.set 100 (sdN (nth l 100) 40)) 16 (kpA (prt l 16 80) (erX l half))) s, v', .int .i64 0])) w' from fun v' w' o q =>
    ⟨v', by rw [(er_yes (s := s) hk).1, (er_yes (s := s) hk).2.1, (er_yes (s := s) hk).2.2.2]; unfold memT; rw [her, E1], by rw [(er_yes (s := s) hk).2.2.1]; exact o, q⟩)
  have PS := hide (show prt l1 16 80 = prt l 16 80 by rw [E1]; exact prt_set l 99 _ 16 80 (by omega) (.inr (by omega)))
  have PS2 := hide (fun z => prt_set l1 100 z 16 80 (by rw [L1.out]; omega) (.inr (by omega)))
  have CL := hide (memC_len hl s)
  have AL := hide (BlkM.all s hl)
  have C1 := hide (memC_len L1.out s)
  have A1 := hide (BlkM.all s L1.out)
  have ZL := hide (memC_len (zeros_len 101) false)
  have HL := hide hl
  have fb := fdV_bd (nth l 96) er
  rw [hf1] at fb
  have FD1 := hide hf1
  have FD2 := hide hf2
  have hsz1 : f1.tdiv 4 = sz := by rw [Int.tdiv_eq_ediv_of_nonneg fb.1]; exact hsz
  have hsz2 : f1 / 4 = sz := hsz
  have WSZ := wrapI sz (by omega) (by omega)
  have hz := zero_mem
  have HL1 := hide hl1
  clear hg h64 hl hf1 hf2 hsz EZ EX MO hk E1 hl1 fb hh her
  generalize MemE w (erM l half) (erS l half s) (erL l half) (erE l half) = T at *
  unfold NsE at NZ
  unfold memV at hz F GD NZ ⊢
  generalize erX l half = X at *
  generalize erZ l half = N at *
  generalize sdN (nth l 100) 40 = sd at *
  generalize nth l 96 = g0 at *
  generalize nth l 97 = p0 at *
  generalize nth l 98 = lg at *
  replace D97 := hide (D97.out sd)
  replace D98 := hide (D98.out sd)
  replace D99 := hide (D99.out sd)
  have L2 := hide (show (l1.set 100 sd).length = 101 by rw [List.length_set]; exact L1.out)
  have C2 := hide (memC_len L2.out s)
  have ON1 := hide (memC_one (l1.set 100 sd) s)
  have P2 := hide (BlkM.part (l := l1.set 100 sd) s 16 80 (by rw [L2.out]; omega))
  rw [PS2.out, PS.out] at P2
  go_enter Try.func20, Try.ntmps20
  go_upto_region 1 with fail
  generalize (w.alloc (.cells (memC l s).toArray 25)).alloc (.cells (memC (zeros 101) false).toArray 25) = W0 at *
  clear hz
  go_wp2_with (refine wpList_load_v rfl 25 _ rfl w.heap.size 0 102 rfl 25 (memC l s) M0.out.1 _ Try.underlying25 rfl size102 (by rw [CL.out]; omega) _ AL.out ?_)
  refine (GD.out W0).mono ?_
  rintro e W1 ⟨rfl, g1⟩
  have M1 := hide (M0.out.keep g1)
  clear M0 g1 GD
  go_wp2_with fail
  refine (WI.out _).mono ?_
  rintro e w1 ⟨rfl, rfl⟩
  clear WI
  have M2 := hide (show MmS w l1 s (w1.setCell ⟨w.heap.size, 99, none⟩ (.int .i64 (nth l 99 + 1))) from by rw [← HL1.out]; exact M1.out.set 99 ((nth l 99 + 1)) (by rw [HL.out]; omega))
  have c99 := M1.out.1.cell 99 (by rw [HL.out]; omega)
  have f99 := M1.out.1.free 99
  generalize hz9 : nth l 99 = z9 at *
  have m9 : min (z9 + 1) 6 = z9 + 1 := by omega
  go_upto_region 5 with fail
  clear c99 f99 M1
  generalize w1.setCell ⟨w.heap.size, 99, none⟩ (.int .i64 (z9 + 1)) = W2 at *
  have B2 := hide (show w.heap.size + 1 < W2.heap.size from M2.out.2.1.lt)
  have B2' := hide (show w.heap.size ≤ W2.heap.size from M2.out.2.2.size)
  refine wp_region_G 11 (GrownW W2) 13 (by rfl) #[false, false, false, false, false, false, false, false, false, false, false, false, false] (by rfl) (by kernel_rfl) (fun hcl => ?_)
  have hHeld := (gw_start W2)
  refine wpAnyG_take (i := 0) (v := .agg (memC l1 s).toArray) rfl (by kernel_rfl) hcl (fun _ _ _ h => h) (Or.inl ⟨by rfl, ?yea0⟩) hHeld (fun hcl => ?rea0)
  case yea0 => (intro w' hSw; (try dsimp only at hSw); exact yields_load_v rfl rfl (M2.out.1.keep hSw) _ Try.underlying25 rfl size102 (by rw [C1.out]; omega) _ A1.out)
  (try simp only [Act.put, sL])
  refine wpAnyG_take (i := 1) (v := ?vea1) rfl (by kernel_rfl) hcl (fun _ _ _ h => h) (Or.inl ⟨by rfl, ?yea1⟩) hHeld (fun hcl => ?rea1)
  case yea1 => (intro w' hSw; (try dsimp only at hSw); go_simp; (try with_reducible rfl))
  (try simp only [Act.put, sL])
  refine wpAnyG_take (i := 2) (v := .int .i64 g0) rfl (by kernel_rfl) hcl (fun _ _ _ h => h) (Or.inl ⟨by rfl, ?yea2⟩) hHeld (fun hcl => ?rea2)
  case yea2 => (intro w' hSw; (try dsimp only at hSw); have cc := (M2.out.1.keep hSw).cell 96 (by rw [L1.out]; omega); rw [E96.out] at cc; go_simp; (try with_reducible rfl))
  (try simp only [Act.put, sL])
  refine wpAnyG_take (i := 3) (v := ?vea3) rfl (by kernel_rfl) hcl (fun _ _ _ h => h) (Or.inl ⟨by rfl, ?yea3⟩) hHeld (fun hcl => ?rea3)
  case yea3 => (intro w' hSw; (try dsimp only at hSw); go_simp; (try with_reducible rfl))
  (try simp only [Act.put, sL])
  refine wpAnyG_take (i := 4) (v := .int .i64 er) rfl (by kernel_rfl) hcl (fun _ _ _ h => h) (Or.inl ⟨by rfl, ?yea4⟩) hHeld (fun hcl => ?rea4)
  case yea4 => (intro w' hSw; (try dsimp only at hSw); have cc := (M2.out.1.keep hSw).cell 99 (by rw [L1.out]; omega); rw [E99.out] at cc; go_simp; (try with_reducible rfl))
  (try simp only [Act.put, sL])
  refine wpAnyG_exec (i := 5) rfl (by kernel_rfl) hcl (fun K hK => ?_)
  (try simp only [Act.put, sL])
  go_simp
  refine (gaiFade_any g0 er _).mono ?_
  rintro e w1 ⟨rfl, rfl⟩
  rw [FD1.out]
  go_wp2_with fail
  have hNew := hHeld
  refine hK.out _ _ (fun _ => hNew) (fun hcl => ?_)
  clear hK
  replace hHeld := hNew
  clear hNew
  (try simp only [Act.put, sL])
  refine wpAnyG_take (i := 6) (v := .int .i64 sz) rfl (by kernel_rfl) hcl (fun _ _ _ h => h) (Or.inl ⟨by rfl, ?yea6⟩) hHeld (fun hcl => ?rea6)
  case yea6 => (intro w' hSw; (try dsimp only at hSw); go_simp; (try simp only [hsz1, hsz2, WSZ]))
  (try simp only [Act.put, sL])
  refine wpAnyG_exec (i := 7) rfl (by kernel_rfl) hcl (fun K hK => ?_)
  (try simp only [Act.put, sL])
  go_simp
  refine (NZ.out _).mono ?_
  rintro e w2 ⟨v2, rfl, o2, q2⟩
  have Q2 := hide q2
  have O2 := hide (o2.base hHeld.size)
  clear q2 o2
  go_wp2_with fail
  have hNew := (gw_trans hHeld Q2.out)
  refine hK.out _ _ (fun _ => hNew) (fun hcl => ?_)
  clear hK
  replace hHeld := hNew
  clear hNew
  (try simp only [Act.put, sL])
  refine wpAnyG_take (i := 8) (v := ?vea8) rfl (by kernel_rfl) hcl (fun _ _ _ h => h) (Or.inl ⟨by rfl, ?yea8⟩) hHeld (fun hcl => ?rea8)
  case yea8 => (intro w' hSw; (try dsimp only at hSw); go_simp; (try with_reducible rfl))
  (try simp only [Act.put, sL])
  refine wpAnyG_take (i := 9) (v := ?vea9) rfl (by kernel_rfl) hcl (fun _ _ _ h => h) (Or.inl ⟨by rfl, ?yea9⟩) hHeld (fun hcl => ?rea9)
  case yea9 => (intro w' hSw; (try dsimp only at hSw); go_simp; (try with_reducible rfl))
  (try simp only [Act.put, sL])
  refine wpAnyG_takeF (i := 10) (v := ?vea10) rfl (by kernel_rfl) hcl (fun _ _ _ h => h) (Or.inl ⟨by rfl, ?yea10⟩) hHeld (fun hcl => ?rea10)
  case yea10 => (intro w' _; go_simp; (try with_reducible rfl))
  (try simp only [Act.put, sL])
  refine wpAnyG_exec (i := 11) rfl (by kernel_rfl) hcl (fun K hK => ?_)
  (try simp only [Act.put, sL])
  have M3p := hide (M2.out.keep hHeld)
  have M3' := M3p.out.putP (l1.set 100 sd) s L1.out L2.out
  have M3 := hide M3'.1
  have O3 := hide (O2.out.keepLt M3'.2 (by have := B2.out; omega))
  clear O2 M3'
  refine step_store_v rfl 25 _ _ rfl w.heap.size 0 25 (memC l1 s) (memC (l1.set 100 sd) s) rfl rfl M3p.out.1 (by rw [C1.out, C2.out]; omega) (by rw [C2.out]; exact size102) ON1.out ?_
  refine hK.out _ _ (fun h => by cases h) (fun hcl => ?_)
  clear hK hHeld
  (try simp only [Act.put, sL])
  clear M3p M2 Q2
  generalize putV w2 w.heap.size 0 (memC (l1.set 100 sd) s) = W3 at *
  refine wpAnyG_of_any _ _ _ _ (by rfl) ?_
  refine wpAny_take (i := 12) (v := ?vea12) rfl (by kernel_rfl) (by kernel_rfl) (by kernel_rfl) (fun _ _ _ h => h) (Or.inl ⟨by rfl, ?yea12⟩) ?rea12
  case yea12 => (intro w'; go_simp; (try with_reducible rfl))
  (try simp only [Act.put, sL])
  refine wpAny_done (by kernel_rfl) ?_ _
  clear NZ
  go_upto_region 6 with fail
  refine wp_region_held_drew (S := GrownW W3) (by kernel_rfl) (gw_start _) (fun hHeld => ?_)
  refine wpAnyH_take (i := 0) (v := ?veb0) rfl (by kernel_rfl) (by kernel_rfl) (by kernel_rfl) (fun _ _ _ h => h) (Or.inl ⟨by rfl, ?yeb0⟩) hHeld ?reb0
  case yeb0 => (intro w' hSw; go_simp; (try with_reducible rfl))
  (try simp only [Act.put, sL])
  refine wpAnyH_take (i := 1) (v := .agg (intsV (prt l 16 80)).toArray) rfl (by kernel_rfl) (by kernel_rfl) (by kernel_rfl) (fun _ _ _ h => h) (Or.inl ⟨by rfl, ?yeb1⟩) hHeld ?reb1
  case yeb1 => (intro w' hSw; exact yields_load_v rfl rfl (M3.out.1.keep hSw) _ Try.underlying23 rfl size80c (by rw [C2.out]; omega) _ P2.out)
  (try simp only [Act.put, sL])
  refine wpAnyH_take (i := 2) (v := ?veb2) rfl (by kernel_rfl) (by kernel_rfl) (by kernel_rfl) (fun _ _ _ h => h) (Or.inl ⟨by rfl, ?yeb2⟩) hHeld ?reb2
  case yeb2 => (intro w' hSw; go_simp; (try with_reducible rfl))
  (try simp only [Act.put, sL])
  refine wpAnyH_take (i := 3) (v := .int .i64 lg) rfl (by kernel_rfl) (by kernel_rfl) (by kernel_rfl) (fun _ _ _ h => h) (Or.inl ⟨by rfl, ?yeb3⟩) hHeld ?reb3
  case yeb3 => (intro w' hSw; have cc := (M3.out.1.keep hSw).cell 98 (by rw [L2.out]; omega); rw [D98.out] at cc; go_simp; (try with_reducible rfl))
  (try simp only [Act.put, sL])
  refine wpAnyH_take (i := 4) (v := ?veb4) rfl (by kernel_rfl) (by kernel_rfl) (by kernel_rfl) (fun _ _ _ h => h) (Or.inl ⟨by rfl, ?yeb4⟩) hHeld ?reb4
  case yeb4 => (intro w' hSw; go_simp; (try with_reducible rfl))
  (try simp only [Act.put, sL])
  refine wpAnyH_take (i := 5) (v := .int .i64 p0) rfl (by kernel_rfl) (by kernel_rfl) (by kernel_rfl) (fun _ _ _ h => h) (Or.inl ⟨by rfl, ?yeb5⟩) hHeld ?reb5
  case yeb5 => (intro w' hSw; have cc := (M3.out.1.keep hSw).cell 97 (by rw [L2.out]; omega); rw [D97.out] at cc; go_simp; (try with_reducible rfl))
  (try simp only [Act.put, sL])
  refine wpAnyH_take (i := 6) (v := ?veb6) rfl (by kernel_rfl) (by kernel_rfl) (by kernel_rfl) (fun _ _ _ h => h) (Or.inl ⟨by rfl, ?yeb6⟩) hHeld ?reb6
  case yeb6 => (intro w' hSw; go_simp; (try with_reducible rfl))
  (try simp only [Act.put, sL])
  refine wpAnyH_take (i := 7) (v := .int .i64 er) rfl (by kernel_rfl) (by kernel_rfl) (by kernel_rfl) (fun _ _ _ h => h) (Or.inl ⟨by rfl, ?yeb7⟩) hHeld ?reb7
  case yeb7 => (intro w' hSw; have cc := (M3.out.1.keep hSw).cell 99 (by rw [L2.out]; omega); rw [D99.out] at cc; go_simp; (try with_reducible rfl))
  (try simp only [Act.put, sL])
  refine wpAnyH_take (i := 9) (v := ?veb9) rfl (by kernel_rfl) (by kernel_rfl) (by kernel_rfl) (fun _ _ _ h => h) (Or.inl ⟨by rfl, ?yeb9⟩) hHeld ?reb9
  case yeb9 => (intro w' hSw; go_simp; (try with_reducible rfl))
  (try simp only [Act.put, sL])
  refine wpAnyH_ready (rs := [8]) (by kernel_rfl) (by simp) (AllReadyH.cons rfl (fun K hK => ?_) AllReadyH.nil)
  (try simp only [Act.put, sL])
  go_simp
  refine (gaiFade_any p0 er _).mono ?_
  rintro e w3 ⟨rfl, rfl⟩
  rw [FD2.out]
  go_wp2_with fail
  refine hK.out _ _ hHeld (fun hHeld => ?_)
  clear hK
  (try simp only [Act.put, sL])
  refine wpAnyH_ready (rs := [10]) (by kernel_rfl) (by simp) (AllReadyH.cons rfl (fun K hK => ?_) AllReadyH.nil)
  (try simp only [Act.put, sL])
  go_simp
  refine (MX.out v2 _ (O3.out.keep hHeld).ints).mono ?_
  rintro e w4 ⟨v4, rfl, o4, q4⟩
  have Q4 := hide q4
  have O4 := hide (o4.base hHeld.size)
  clear q4 o4
  go_wp2_with fail
  refine hK.out _ _ (gw_trans hHeld Q4.out) (fun hHeld => ?_)
  clear hK
  (try simp only [Act.put, sL])
  clear Q4
  refine wpAnyH_take (i := 11) (v := ?veb11) rfl (by kernel_rfl) (by kernel_rfl) (by kernel_rfl) (fun _ _ _ h => h) (Or.inl ⟨by rfl, ?yeb11⟩) hHeld ?reb11
  case yeb11 => (intro w' hSw; go_simp; (try with_reducible rfl))
  (try simp only [Act.put, sL])
  refine wpAnyH_take (i := 12) (v := ?veb12) rfl (by kernel_rfl) (by kernel_rfl) (by kernel_rfl) (fun _ _ _ h => h) (Or.inl ⟨by rfl, ?yeb12⟩) hHeld ?reb12
  case yeb12 => (intro w' hSw; go_simp; (try with_reducible rfl))
  (try simp only [Act.put, sL])
  refine wpAnyH_take (i := 13) (v := ?veb13) rfl (by kernel_rfl) (by kernel_rfl) (by kernel_rfl) (fun _ _ _ h => h) (Or.inl ⟨by rfl, ?yeb13⟩) hHeld ?reb13
  case yeb13 => (intro w' hSw; go_simp; (try with_reducible rfl))
  (try simp only [Act.put, sL])
  refine wpAnyH_take (i := 14) (v := ?veb14) rfl (by kernel_rfl) (by kernel_rfl) (by kernel_rfl) (fun _ _ _ h => h) (Or.inl ⟨by rfl, ?yeb14⟩) hHeld ?reb14
  case yeb14 => (intro w' hSw; go_simp; (try with_reducible rfl))
  (try simp only [Act.put, sL])
  refine wpAnyH_take (i := 15) (v := ?veb15) rfl (by kernel_rfl) (by kernel_rfl) (by kernel_rfl) (fun _ _ _ h => h) (Or.inl ⟨by rfl, ?yeb15⟩) hHeld ?reb15
  case yeb15 => (intro w' hSw; go_simp; (try with_reducible rfl))
  (try simp only [Act.put, sL])
  refine wpAnyH_done (by kernel_rfl) ?_ _
  have M4' := hide (M3.out.keep hHeld)
  have O4' := hide O4.out
  have BL := hide (show w.heap.size + 1 < W3.heap.size from M3.out.2.1.lt)
  have B1 := hide (show w.heap.size ≤ W3.heap.size from M3.out.2.2.size)
  clear M3 O3 O4 hHeld MX P2
  go_upto_region 7 with fail
  have L1' := L2
  have P3 := hide (BlkM.part (l := l1.set 100 sd) s 16 80 (by rw [L1'.out]; omega))
  rw [PS2.out, PS.out] at P3
  have C3 := C2
  have KK := hide (KP.out v4 w4 O4'.out.ints)
  have M3 := M4'
  have O3 := O4'
  clear KP PS PS2 M4' O4' D97 D98 D99 E96 E97 E98 E99 E100
  go_wp2_with (first | refine wpList_load_v rfl 23 _ rfl w.heap.size 16 80 rfl 25 (memC (l1.set 100 sd) s) M3.out.1 _ Try.underlying23 rfl size80c (by rw [C3.out]; omega) _ P3.out ?_)
  refine KK.out.mono ?_
  rintro e W4 ⟨rfl, g4⟩
  have M4 := hide (M3.out.keep g4)
  have O4 := hide (O3.out.keep g4)
  clear KK M3 O3 g4 P3
  generalize kpA (prt l 16 80) X = R at *
  have M5 := hide (M4.out.put 16 R (by rw [KL.out, L1'.out]; omega))
  have O5 := hide (O4.out.keepLt (M4.out.1.put 16 R (by rw [KL.out, L1'.out]; omega)).2 (by have := BL.out; omega))
  have IO := hide (intsV_one R)
  have IL := hide (show (intsV R).length = 80 by rw [intsV_len]; exact KL.out)
  clear O4
  go_upto_region 8 with (first | refine wpList_store_v rfl 23 _ _ rfl w.heap.size 16 25 (memC (l1.set 100 sd) s) (intsV R) rfl rfl M4.out.1 (by rw [IL.out, C3.out]; omega) (by rw [IL.out]; exact size80c) IO.out ?_)
  (try simp only [Act.put])
  clear M4 IO IL C3
  generalize putV W4 w.heap.size 16 (intsV R) = W5 at *
  have L5 := hide (show (ovr (l1.set 100 sd) 16 R).length = 101 by rw [ovr_len]; exact L1'.out)
  generalize ovr (l1.set 100 sd) 16 R = m at *
  have A5 := hide (BlkM.all s L5.out)
  have C5 := hide (memC_len L5.out s)
  have ON := hide (memC_one m s)
  have PB := hide (M5.out.fin m s L5.out)
  have O6 := hide (O5.out.keepLt (M5.out.2.1.putAll (m := m) (t := s) (zeros_len 101) L5.out).2 BL.out)
  have FF := hide (F.out _ _ (O6.out.base B1.out) PB.out.2)
  clear F O5 O6
  go_wp2_with (first | refine wpList_load_v rfl 25 _ rfl w.heap.size 0 102 rfl 25 (memC m s) M5.out.1 _ Try.underlying25 rfl size102 (by rw [C5.out]; omega) _ A5.out ?_ | refine wpList_store_v rfl 25 _ _ rfl (w.heap.size + 1) 0 25 (memC (zeros 101) false) (memC m s) rfl rfl M5.out.2.1 (by rw [ZL.out, C5.out]; omega) (by rw [C5.out]; exact size102) ON.out ?_)
  have hlv := loadVar_v PB.out.1 _ Try.underlying25 rfl (by rw [C5.out]; exact size102)
  refine bodyPost_ret (v := .tuple #[.agg (memC m s).toArray, _, .int .i64 0]) ?_ rfl FF.out
  simp [results, Try.results20, asAddr, Act.put, hlv]
set_option maxRecDepth 100000 in
theorem conErased_top (l : List Int) (s : Bool) (half : Int) (hl : l.length = 101) (hg : goodM l = true) (hh : half = 0) (h6 : ¬ nth l 99 < 6) (w : World) : Calls Try.prog 20 #[memV l s, .int .i64 half] w (MemE w (erM l half) (erS l half s) (erL l half) (erE l half)) := by
  have M0 := hide (MmS.new w l s)
  have GD := hide (fun wr => conGood_any l s hl wr)
  have h64 := good_64 hl hg
  have hk : erO l half := ⟨hg, by omega, by omega⟩
  have EB := erN_bd l half hg
  rw [hg] at GD
  have WI := hide (fun u => conWithin_any half 0 1 u)
  rw [decide_eq_true (show 0 ≤ half ∧ half ≤ 1 by omega)] at WI
  have hx3 : (half == 0) = true := beq_iff_eq.2 hh
  have h60 : 0 ≤ nth l 99 ∧ nth l 99 ≤ 6 := (goodM_iff l).1 hg 99 (by omega)
  obtain ⟨er, her⟩ : ∃ er, erN l half = er := ⟨_, rfl⟩
  obtain ⟨f1, hf1⟩ : ∃ f1, fdV (nth l 96) er = f1 := ⟨_, rfl⟩
  obtain ⟨f2, hf2⟩ : ∃ f2, fdV (nth l 97) er = f2 := ⟨_, rfl⟩
  obtain ⟨sz, hsz⟩ : ∃ sz, f1 / 4 = sz := ⟨_, rfl⟩
  obtain ⟨l1, hl1⟩ : ∃ l1, l.set 99 6 = l1 := ⟨_, rfl⟩
  have E1 : l1 = l.set 99 er := by rw [← hl1, ← her]; unfold erN; rw [if_neg (fun k => h6 k.2), show nth l 99 = 6 by omega]
  have L1 := hide (show l1.length = 101 by rw [E1, List.length_set]; exact hl)
  have E96 := hide (show nth l1 96 = nth l 96 by rw [E1, setN _ _ _ (by omega), if_neg (by omega)])
  have E97 := hide (show nth l1 97 = nth l 97 by rw [E1, setN _ _ _ (by omega), if_neg (by omega)])
  have E98 := hide (show nth l1 98 = nth l 98 by rw [E1, setN _ _ _ (by omega), if_neg (by omega)])
  have E99 := hide (show nth l1 99 = er by rw [E1, setN _ _ _ (by omega), if_pos rfl])
  have E100 := hide (show nth l1 100 = nth l 100 by rw [E1, setN _ _ _ (by omega), if_neg (by omega)])
  have D97 := hide (show ∀ z, nth (l1.set 100 z) 97 = nth l 97 from fun z => by rw [setN _ _ _ (by rw [L1.out]; omega), if_neg (by omega)]; exact E97.out)
  have D98 := hide (show ∀ z, nth (l1.set 100 z) 98 = nth l 98 from fun z => by rw [setN _ _ _ (by rw [L1.out]; omega), if_neg (by omega)]; exact E98.out)
  have D99 := hide (show ∀ z, nth (l1.set 100 z) 99 = er from fun z => by rw [setN _ _ _ (by rw [L1.out]; omega), if_neg (by omega)]; exact E99.out)
  have NZ := hide (fun wr => conNoise_any l1 s sz L1.out wr)
  rw [E100.out] at NZ
  have EZ : nzL (nth l 100) sz 40 = erZ l half := by unfold erZ; rw [her, hf1, hsz]
  rw [EZ] at NZ
  have MO := er_mix l half hg
  rw [her, hf2] at MO
  have MX := hide (fun v wr (hv : Ints wr v (erZ l half)) => conMix_any (prt l 16 80) (nth l 98) f2 v (erZ l half) wr (prt_len _ _ _) hv (by rw [erZ_len]; omega))
  rw [(mxL_yes (h := prt l 16 80) MO).1, (mxL_yes (h := prt l 16 80) MO).2] at MX
  have EX : mxA (pasL (prt l 16 80) (nth l 98)) f2 (erZ l half) = erX l half := by unfold erX; rw [her, hf2]
  rw [EX] at MX
  have KP := hide (fun v wr (hv : Ints wr v (erX l half)) => conKeep_any (prt l 16 80) v (erX l half) wr (prt_len _ _ _) hv (by rw [erX_len]; omega))
  rw [(kpL_yes (h := prt l 16 80) (erX_len l half)).1, (kpL_yes (h := prt l 16 80) (erX_len l half)).2] at KP
  have KL := hide (kpA_len (prt l 16 80) (erX l half))
  have F := hide (show ∀ v' w', Own w.heap.size w' v' (erX l half) → w.grownBy w' none → MemE w (erM l half) (erS l half s) (erL l half) (erE l half) (.returned (.tuple #[memV (ovr (l1.set 100 (sdN (nth l 100) 40)) 16 (kpA (prt l 16 80) (erX l half))) s, v', .int .i64 0])) w' from fun v' w' o q =>
    ⟨v', by rw [(er_yes (s := s) hk).1, (er_yes (s := s) hk).2.1, (er_yes (s := s) hk).2.2.2]; unfold memT; rw [her, E1], by rw [(er_yes (s := s) hk).2.2.1]; exact o, q⟩)
  have PS := hide (show prt l1 16 80 = prt l 16 80 by rw [E1]; exact prt_set l 99 _ 16 80 (by omega) (.inr (by omega)))
  have PS2 := hide (fun z => prt_set l1 100 z 16 80 (by rw [L1.out]; omega) (.inr (by omega)))
  have CL := hide (memC_len hl s)
  have AL := hide (BlkM.all s hl)
  have C1 := hide (memC_len L1.out s)
  have A1 := hide (BlkM.all s L1.out)
  have ZL := hide (memC_len (zeros_len 101) false)
  have HL := hide hl
  have fb := fdV_bd (nth l 96) er
  rw [hf1] at fb
  have FD1 := hide hf1
  have FD2 := hide hf2
  have hsz1 : f1.tdiv 4 = sz := by rw [Int.tdiv_eq_ediv_of_nonneg fb.1]; exact hsz
  have hsz2 : f1 / 4 = sz := hsz
  have WSZ := wrapI sz (by omega) (by omega)
  have hz := zero_mem
  have HL1 := hide hl1
  clear hg h64 hl hf1 hf2 hsz EZ EX MO hk E1 hl1 fb hh her
  generalize MemE w (erM l half) (erS l half s) (erL l half) (erE l half) = T at *
  unfold NsE at NZ
  unfold memV at hz F GD NZ ⊢
  generalize erX l half = X at *
  generalize erZ l half = N at *
  generalize sdN (nth l 100) 40 = sd at *
  generalize nth l 96 = g0 at *
  generalize nth l 97 = p0 at *
  generalize nth l 98 = lg at *
  replace D97 := hide (D97.out sd)
  replace D98 := hide (D98.out sd)
  replace D99 := hide (D99.out sd)
  have L2 := hide (show (l1.set 100 sd).length = 101 by rw [List.length_set]; exact L1.out)
  have C2 := hide (memC_len L2.out s)
  have ON1 := hide (memC_one (l1.set 100 sd) s)
  have P2 := hide (BlkM.part (l := l1.set 100 sd) s 16 80 (by rw [L2.out]; omega))
  rw [PS2.out, PS.out] at P2
  go_enter Try.func20, Try.ntmps20
  go_upto_region 1 with fail
  generalize (w.alloc (.cells (memC l s).toArray 25)).alloc (.cells (memC (zeros 101) false).toArray 25) = W0 at *
  clear hz
  go_wp2_with (refine wpList_load_v rfl 25 _ rfl w.heap.size 0 102 rfl 25 (memC l s) M0.out.1 _ Try.underlying25 rfl size102 (by rw [CL.out]; omega) _ AL.out ?_)
  refine (GD.out W0).mono ?_
  rintro e W1 ⟨rfl, g1⟩
  have M1 := hide (M0.out.keep g1)
  clear M0 g1 GD
  go_wp2_with fail
  refine (WI.out _).mono ?_
  rintro e w1 ⟨rfl, rfl⟩
  clear WI
  have M2 := hide (show MmS w l1 s (w1.setCell ⟨w.heap.size, 99, none⟩ (.int .i64 6)) from by rw [← HL1.out]; exact M1.out.set 99 (6) (by rw [HL.out]; omega))
  have c99 := M1.out.1.cell 99 (by rw [HL.out]; omega)
  have f99 := M1.out.1.free 99
  generalize hz9 : nth l 99 = z9 at *
  obtain rfl : z9 = 6 := by omega
  have m9 : min (7 : Int) 6 = 6 := by omega
  have m9' : min ((6 : Int) + 1) 6 = 6 := by omega
  go_upto_region 5 with fail
  clear c99 f99 M1
  generalize w1.setCell ⟨w.heap.size, 99, none⟩ (.int .i64 6) = W2 at *
  have B2 := hide (show w.heap.size + 1 < W2.heap.size from M2.out.2.1.lt)
  have B2' := hide (show w.heap.size ≤ W2.heap.size from M2.out.2.2.size)
  refine wp_region_G 11 (GrownW W2) 13 (by rfl) #[false, false, false, false, false, false, false, false, false, false, false, false, false] (by rfl) (by kernel_rfl) (fun hcl => ?_)
  have hHeld := (gw_start W2)
  refine wpAnyG_take (i := 0) (v := .agg (memC l1 s).toArray) rfl (by kernel_rfl) hcl (fun _ _ _ h => h) (Or.inl ⟨by rfl, ?yea0⟩) hHeld (fun hcl => ?rea0)
  case yea0 => (intro w' hSw; (try dsimp only at hSw); exact yields_load_v rfl rfl (M2.out.1.keep hSw) _ Try.underlying25 rfl size102 (by rw [C1.out]; omega) _ A1.out)
  (try simp only [Act.put, sL])
  refine wpAnyG_take (i := 1) (v := ?vea1) rfl (by kernel_rfl) hcl (fun _ _ _ h => h) (Or.inl ⟨by rfl, ?yea1⟩) hHeld (fun hcl => ?rea1)
  case yea1 => (intro w' hSw; (try dsimp only at hSw); go_simp; (try with_reducible rfl))
  (try simp only [Act.put, sL])
  refine wpAnyG_take (i := 2) (v := .int .i64 g0) rfl (by kernel_rfl) hcl (fun _ _ _ h => h) (Or.inl ⟨by rfl, ?yea2⟩) hHeld (fun hcl => ?rea2)
  case yea2 => (intro w' hSw; (try dsimp only at hSw); have cc := (M2.out.1.keep hSw).cell 96 (by rw [L1.out]; omega); rw [E96.out] at cc; go_simp; (try with_reducible rfl))
  (try simp only [Act.put, sL])
  refine wpAnyG_take (i := 3) (v := ?vea3) rfl (by kernel_rfl) hcl (fun _ _ _ h => h) (Or.inl ⟨by rfl, ?yea3⟩) hHeld (fun hcl => ?rea3)
  case yea3 => (intro w' hSw; (try dsimp only at hSw); go_simp; (try with_reducible rfl))
  (try simp only [Act.put, sL])
  refine wpAnyG_take (i := 4) (v := .int .i64 er) rfl (by kernel_rfl) hcl (fun _ _ _ h => h) (Or.inl ⟨by rfl, ?yea4⟩) hHeld (fun hcl => ?rea4)
  case yea4 => (intro w' hSw; (try dsimp only at hSw); have cc := (M2.out.1.keep hSw).cell 99 (by rw [L1.out]; omega); rw [E99.out] at cc; go_simp; (try with_reducible rfl))
  (try simp only [Act.put, sL])
  refine wpAnyG_exec (i := 5) rfl (by kernel_rfl) hcl (fun K hK => ?_)
  (try simp only [Act.put, sL])
  go_simp
  refine (gaiFade_any g0 er _).mono ?_
  rintro e w1 ⟨rfl, rfl⟩
  rw [FD1.out]
  go_wp2_with fail
  have hNew := hHeld
  refine hK.out _ _ (fun _ => hNew) (fun hcl => ?_)
  clear hK
  replace hHeld := hNew
  clear hNew
  (try simp only [Act.put, sL])
  refine wpAnyG_take (i := 6) (v := .int .i64 sz) rfl (by kernel_rfl) hcl (fun _ _ _ h => h) (Or.inl ⟨by rfl, ?yea6⟩) hHeld (fun hcl => ?rea6)
  case yea6 => (intro w' hSw; (try dsimp only at hSw); go_simp; (try simp only [hsz1, hsz2, WSZ]))
  (try simp only [Act.put, sL])
  refine wpAnyG_exec (i := 7) rfl (by kernel_rfl) hcl (fun K hK => ?_)
  (try simp only [Act.put, sL])
  go_simp
  refine (NZ.out _).mono ?_
  rintro e w2 ⟨v2, rfl, o2, q2⟩
  have Q2 := hide q2
  have O2 := hide (o2.base hHeld.size)
  clear q2 o2
  go_wp2_with fail
  have hNew := (gw_trans hHeld Q2.out)
  refine hK.out _ _ (fun _ => hNew) (fun hcl => ?_)
  clear hK
  replace hHeld := hNew
  clear hNew
  (try simp only [Act.put, sL])
  refine wpAnyG_take (i := 8) (v := ?vea8) rfl (by kernel_rfl) hcl (fun _ _ _ h => h) (Or.inl ⟨by rfl, ?yea8⟩) hHeld (fun hcl => ?rea8)
  case yea8 => (intro w' hSw; (try dsimp only at hSw); go_simp; (try with_reducible rfl))
  (try simp only [Act.put, sL])
  refine wpAnyG_take (i := 9) (v := ?vea9) rfl (by kernel_rfl) hcl (fun _ _ _ h => h) (Or.inl ⟨by rfl, ?yea9⟩) hHeld (fun hcl => ?rea9)
  case yea9 => (intro w' hSw; (try dsimp only at hSw); go_simp; (try with_reducible rfl))
  (try simp only [Act.put, sL])
  refine wpAnyG_takeF (i := 10) (v := ?vea10) rfl (by kernel_rfl) hcl (fun _ _ _ h => h) (Or.inl ⟨by rfl, ?yea10⟩) hHeld (fun hcl => ?rea10)
  case yea10 => (intro w' _; go_simp; (try with_reducible rfl))
  (try simp only [Act.put, sL])
  refine wpAnyG_exec (i := 11) rfl (by kernel_rfl) hcl (fun K hK => ?_)
  (try simp only [Act.put, sL])
  have M3p := hide (M2.out.keep hHeld)
  have M3' := M3p.out.putP (l1.set 100 sd) s L1.out L2.out
  have M3 := hide M3'.1
  have O3 := hide (O2.out.keepLt M3'.2 (by have := B2.out; omega))
  clear O2 M3'
  refine step_store_v rfl 25 _ _ rfl w.heap.size 0 25 (memC l1 s) (memC (l1.set 100 sd) s) rfl rfl M3p.out.1 (by rw [C1.out, C2.out]; omega) (by rw [C2.out]; exact size102) ON1.out ?_
  refine hK.out _ _ (fun h => by cases h) (fun hcl => ?_)
  clear hK hHeld
  (try simp only [Act.put, sL])
  clear M3p M2 Q2
  generalize putV w2 w.heap.size 0 (memC (l1.set 100 sd) s) = W3 at *
  refine wpAnyG_of_any _ _ _ _ (by rfl) ?_
  refine wpAny_take (i := 12) (v := ?vea12) rfl (by kernel_rfl) (by kernel_rfl) (by kernel_rfl) (fun _ _ _ h => h) (Or.inl ⟨by rfl, ?yea12⟩) ?rea12
  case yea12 => (intro w'; go_simp; (try with_reducible rfl))
  (try simp only [Act.put, sL])
  refine wpAny_done (by kernel_rfl) ?_ _
  clear NZ
  go_upto_region 6 with fail
  refine wp_region_held_drew (S := GrownW W3) (by kernel_rfl) (gw_start _) (fun hHeld => ?_)
  refine wpAnyH_take (i := 0) (v := ?veb0) rfl (by kernel_rfl) (by kernel_rfl) (by kernel_rfl) (fun _ _ _ h => h) (Or.inl ⟨by rfl, ?yeb0⟩) hHeld ?reb0
  case yeb0 => (intro w' hSw; go_simp; (try with_reducible rfl))
  (try simp only [Act.put, sL])
  refine wpAnyH_take (i := 1) (v := .agg (intsV (prt l 16 80)).toArray) rfl (by kernel_rfl) (by kernel_rfl) (by kernel_rfl) (fun _ _ _ h => h) (Or.inl ⟨by rfl, ?yeb1⟩) hHeld ?reb1
  case yeb1 => (intro w' hSw; exact yields_load_v rfl rfl (M3.out.1.keep hSw) _ Try.underlying23 rfl size80c (by rw [C2.out]; omega) _ P2.out)
  (try simp only [Act.put, sL])
  refine wpAnyH_take (i := 2) (v := ?veb2) rfl (by kernel_rfl) (by kernel_rfl) (by kernel_rfl) (fun _ _ _ h => h) (Or.inl ⟨by rfl, ?yeb2⟩) hHeld ?reb2
  case yeb2 => (intro w' hSw; go_simp; (try with_reducible rfl))
  (try simp only [Act.put, sL])
  refine wpAnyH_take (i := 3) (v := .int .i64 lg) rfl (by kernel_rfl) (by kernel_rfl) (by kernel_rfl) (fun _ _ _ h => h) (Or.inl ⟨by rfl, ?yeb3⟩) hHeld ?reb3
  case yeb3 => (intro w' hSw; have cc := (M3.out.1.keep hSw).cell 98 (by rw [L2.out]; omega); rw [D98.out] at cc; go_simp; (try with_reducible rfl))
  (try simp only [Act.put, sL])
  refine wpAnyH_take (i := 4) (v := ?veb4) rfl (by kernel_rfl) (by kernel_rfl) (by kernel_rfl) (fun _ _ _ h => h) (Or.inl ⟨by rfl, ?yeb4⟩) hHeld ?reb4
  case yeb4 => (intro w' hSw; go_simp; (try with_reducible rfl))
  (try simp only [Act.put, sL])
  refine wpAnyH_take (i := 5) (v := .int .i64 p0) rfl (by kernel_rfl) (by kernel_rfl) (by kernel_rfl) (fun _ _ _ h => h) (Or.inl ⟨by rfl, ?yeb5⟩) hHeld ?reb5
  case yeb5 => (intro w' hSw; have cc := (M3.out.1.keep hSw).cell 97 (by rw [L2.out]; omega); rw [D97.out] at cc; go_simp; (try with_reducible rfl))
  (try simp only [Act.put, sL])
  refine wpAnyH_take (i := 6) (v := ?veb6) rfl (by kernel_rfl) (by kernel_rfl) (by kernel_rfl) (fun _ _ _ h => h) (Or.inl ⟨by rfl, ?yeb6⟩) hHeld ?reb6
  case yeb6 => (intro w' hSw; go_simp; (try with_reducible rfl))
  (try simp only [Act.put, sL])
  refine wpAnyH_take (i := 7) (v := .int .i64 er) rfl (by kernel_rfl) (by kernel_rfl) (by kernel_rfl) (fun _ _ _ h => h) (Or.inl ⟨by rfl, ?yeb7⟩) hHeld ?reb7
  case yeb7 => (intro w' hSw; have cc := (M3.out.1.keep hSw).cell 99 (by rw [L2.out]; omega); rw [D99.out] at cc; go_simp; (try with_reducible rfl))
  (try simp only [Act.put, sL])
  refine wpAnyH_take (i := 9) (v := ?veb9) rfl (by kernel_rfl) (by kernel_rfl) (by kernel_rfl) (fun _ _ _ h => h) (Or.inl ⟨by rfl, ?yeb9⟩) hHeld ?reb9
  case yeb9 => (intro w' hSw; go_simp; (try with_reducible rfl))
  (try simp only [Act.put, sL])
  refine wpAnyH_ready (rs := [8]) (by kernel_rfl) (by simp) (AllReadyH.cons rfl (fun K hK => ?_) AllReadyH.nil)
  (try simp only [Act.put, sL])
  go_simp
  refine (gaiFade_any p0 er _).mono ?_
  rintro e w3 ⟨rfl, rfl⟩
  rw [FD2.out]
  go_wp2_with fail
  refine hK.out _ _ hHeld (fun hHeld => ?_)
  clear hK
  (try simp only [Act.put, sL])
  refine wpAnyH_ready (rs := [10]) (by kernel_rfl) (by simp) (AllReadyH.cons rfl (fun K hK => ?_) AllReadyH.nil)
  (try simp only [Act.put, sL])
  go_simp
  refine (MX.out v2 _ (O3.out.keep hHeld).ints).mono ?_
  rintro e w4 ⟨v4, rfl, o4, q4⟩
  have Q4 := hide q4
  have O4 := hide (o4.base hHeld.size)
  clear q4 o4
  go_wp2_with fail
  refine hK.out _ _ (gw_trans hHeld Q4.out) (fun hHeld => ?_)
  clear hK
  (try simp only [Act.put, sL])
  clear Q4
  refine wpAnyH_take (i := 11) (v := ?veb11) rfl (by kernel_rfl) (by kernel_rfl) (by kernel_rfl) (fun _ _ _ h => h) (Or.inl ⟨by rfl, ?yeb11⟩) hHeld ?reb11
  case yeb11 => (intro w' hSw; go_simp; (try with_reducible rfl))
  (try simp only [Act.put, sL])
  refine wpAnyH_take (i := 12) (v := ?veb12) rfl (by kernel_rfl) (by kernel_rfl) (by kernel_rfl) (fun _ _ _ h => h) (Or.inl ⟨by rfl, ?yeb12⟩) hHeld ?reb12
  case yeb12 => (intro w' hSw; go_simp; (try with_reducible rfl))
  (try simp only [Act.put, sL])
  refine wpAnyH_take (i := 13) (v := ?veb13) rfl (by kernel_rfl) (by kernel_rfl) (by kernel_rfl) (fun _ _ _ h => h) (Or.inl ⟨by rfl, ?yeb13⟩) hHeld ?reb13
  case yeb13 => (intro w' hSw; go_simp; (try with_reducible rfl))
  (try simp only [Act.put, sL])
  refine wpAnyH_take (i := 14) (v := ?veb14) rfl (by kernel_rfl) (by kernel_rfl) (by kernel_rfl) (fun _ _ _ h => h) (Or.inl ⟨by rfl, ?yeb14⟩) hHeld ?reb14
  case yeb14 => (intro w' hSw; go_simp; (try with_reducible rfl))
  (try simp only [Act.put, sL])
  refine wpAnyH_take (i := 15) (v := ?veb15) rfl (by kernel_rfl) (by kernel_rfl) (by kernel_rfl) (fun _ _ _ h => h) (Or.inl ⟨by rfl, ?yeb15⟩) hHeld ?reb15
  case yeb15 => (intro w' hSw; go_simp; (try with_reducible rfl))
  (try simp only [Act.put, sL])
  refine wpAnyH_done (by kernel_rfl) ?_ _
  have M4' := hide (M3.out.keep hHeld)
  have O4' := hide O4.out
  have BL := hide (show w.heap.size + 1 < W3.heap.size from M3.out.2.1.lt)
  have B1 := hide (show w.heap.size ≤ W3.heap.size from M3.out.2.2.size)
  clear M3 O3 O4 hHeld MX P2
  go_upto_region 7 with fail
  have L1' := L2
  have P3 := hide (BlkM.part (l := l1.set 100 sd) s 16 80 (by rw [L1'.out]; omega))
  rw [PS2.out, PS.out] at P3
  have C3 := C2
  have KK := hide (KP.out v4 w4 O4'.out.ints)
  have M3 := M4'
  have O3 := O4'
  clear KP PS PS2 M4' O4' D97 D98 D99 E96 E97 E98 E99 E100
  go_wp2_with (first | refine wpList_load_v rfl 23 _ rfl w.heap.size 16 80 rfl 25 (memC (l1.set 100 sd) s) M3.out.1 _ Try.underlying23 rfl size80c (by rw [C3.out]; omega) _ P3.out ?_)
  refine KK.out.mono ?_
  rintro e W4 ⟨rfl, g4⟩
  have M4 := hide (M3.out.keep g4)
  have O4 := hide (O3.out.keep g4)
  clear KK M3 O3 g4 P3
  generalize kpA (prt l 16 80) X = R at *
  have M5 := hide (M4.out.put 16 R (by rw [KL.out, L1'.out]; omega))
  have O5 := hide (O4.out.keepLt (M4.out.1.put 16 R (by rw [KL.out, L1'.out]; omega)).2 (by have := BL.out; omega))
  have IO := hide (intsV_one R)
  have IL := hide (show (intsV R).length = 80 by rw [intsV_len]; exact KL.out)
  clear O4
  go_upto_region 8 with (first | refine wpList_store_v rfl 23 _ _ rfl w.heap.size 16 25 (memC (l1.set 100 sd) s) (intsV R) rfl rfl M4.out.1 (by rw [IL.out, C3.out]; omega) (by rw [IL.out]; exact size80c) IO.out ?_)
  (try simp only [Act.put])
  clear M4 IO IL C3
  generalize putV W4 w.heap.size 16 (intsV R) = W5 at *
  have L5 := hide (show (ovr (l1.set 100 sd) 16 R).length = 101 by rw [ovr_len]; exact L1'.out)
  generalize ovr (l1.set 100 sd) 16 R = m at *
  have A5 := hide (BlkM.all s L5.out)
  have C5 := hide (memC_len L5.out s)
  have ON := hide (memC_one m s)
  have PB := hide (M5.out.fin m s L5.out)
  have O6 := hide (O5.out.keepLt (M5.out.2.1.putAll (m := m) (t := s) (zeros_len 101) L5.out).2 BL.out)
  have FF := hide (F.out _ _ (O6.out.base B1.out) PB.out.2)
  clear F O5 O6
  go_wp2_with (first | refine wpList_load_v rfl 25 _ rfl w.heap.size 0 102 rfl 25 (memC m s) M5.out.1 _ Try.underlying25 rfl size102 (by rw [C5.out]; omega) _ A5.out ?_ | refine wpList_store_v rfl 25 _ _ rfl (w.heap.size + 1) 0 25 (memC (zeros 101) false) (memC m s) rfl rfl M5.out.2.1 (by rw [ZL.out, C5.out]; omega) (by rw [C5.out]; exact size102) ON.out ?_)
  have hlv := loadVar_v PB.out.1 _ Try.underlying25 rfl (by rw [C5.out]; exact size102)
  refine bodyPost_ret (v := .tuple #[.agg (memC m s).toArray, _, .int .i64 0]) ?_ rfl FF.out
  simp [results, Try.results20, asAddr, Act.put, hlv]
set_option maxRecDepth 100000 in
theorem conErased_two (l : List Int) (s : Bool) (half : Int) (hl : l.length = 101) (hg : goodM l = true) (hh : half = 1) (w : World) : Calls Try.prog 20 #[memV l s, .int .i64 half] w (MemE w (erM l half) (erS l half s) (erL l half) (erE l half)) := by
  have M0 := hide (MmS.new w l s)
  have GD := hide (fun wr => conGood_any l s hl wr)
  have h64 := good_64 hl hg
  have hk : erO l half := ⟨hg, by omega, by omega⟩
  have EB := erN_bd l half hg
  rw [hg] at GD
  have WI := hide (fun u => conWithin_any half 0 1 u)
  rw [decide_eq_true (show 0 ≤ half ∧ half ≤ 1 by omega)] at WI
  have hx3 : (half == 0) = false := beq_eq_false_iff_ne.2 (by omega)
  have h60 : 0 ≤ nth l 99 ∧ nth l 99 ≤ 6 := (goodM_iff l).1 hg 99 (by omega)
  obtain ⟨er, her⟩ : ∃ er, erN l half = er := ⟨_, rfl⟩
  obtain ⟨f1, hf1⟩ : ∃ f1, fdV (nth l 96) er = f1 := ⟨_, rfl⟩
  obtain ⟨f2, hf2⟩ : ∃ f2, fdV (nth l 97) er = f2 := ⟨_, rfl⟩
  obtain ⟨sz, hsz⟩ : ∃ sz, f1 / 4 = sz := ⟨_, rfl⟩
  obtain ⟨l1, hl1⟩ : ∃ l1, l = l1 := ⟨_, rfl⟩
  have E1 : l1 = l.set 99 er := by rw [← hl1, ← her]; unfold erN; rw [if_neg (fun k => by omega), set_self l 99 (by omega)]
  have L1 := hide (show l1.length = 101 by rw [E1, List.length_set]; exact hl)
  have E96 := hide (show nth l1 96 = nth l 96 by rw [E1, setN _ _ _ (by omega), if_neg (by omega)])
  have E97 := hide (show nth l1 97 = nth l 97 by rw [E1, setN _ _ _ (by omega), if_neg (by omega)])
  have E98 := hide (show nth l1 98 = nth l 98 by rw [E1, setN _ _ _ (by omega), if_neg (by omega)])
  have E99 := hide (show nth l1 99 = er by rw [E1, setN _ _ _ (by omega), if_pos rfl])
  have E100 := hide (show nth l1 100 = nth l 100 by rw [E1, setN _ _ _ (by omega), if_neg (by omega)])
  have D97 := hide (show ∀ z, nth (l1.set 100 z) 97 = nth l 97 from fun z => by rw [setN _ _ _ (by rw [L1.out]; omega), if_neg (by omega)]; exact E97.out)
  have D98 := hide (show ∀ z, nth (l1.set 100 z) 98 = nth l 98 from fun z => by rw [setN _ _ _ (by rw [L1.out]; omega), if_neg (by omega)]; exact E98.out)
  have D99 := hide (show ∀ z, nth (l1.set 100 z) 99 = er from fun z => by rw [setN _ _ _ (by rw [L1.out]; omega), if_neg (by omega)]; exact E99.out)
  have NZ := hide (fun wr => conNoise_any l1 s sz L1.out wr)
  rw [E100.out] at NZ
  have EZ : nzL (nth l 100) sz 40 = erZ l half := by unfold erZ; rw [her, hf1, hsz]
  rw [EZ] at NZ
  have MO := er_mix l half hg
  rw [her, hf2] at MO
  have MX := hide (fun v wr (hv : Ints wr v (erZ l half)) => conMix_any (prt l 16 80) (nth l 98) f2 v (erZ l half) wr (prt_len _ _ _) hv (by rw [erZ_len]; omega))
  rw [(mxL_yes (h := prt l 16 80) MO).1, (mxL_yes (h := prt l 16 80) MO).2] at MX
  have EX : mxA (pasL (prt l 16 80) (nth l 98)) f2 (erZ l half) = erX l half := by unfold erX; rw [her, hf2]
  rw [EX] at MX
  have KP := hide (fun v wr (hv : Ints wr v (erX l half)) => conKeep_any (prt l 16 80) v (erX l half) wr (prt_len _ _ _) hv (by rw [erX_len]; omega))
  rw [(kpL_yes (h := prt l 16 80) (erX_len l half)).1, (kpL_yes (h := prt l 16 80) (erX_len l half)).2] at KP
  have KL := hide (kpA_len (prt l 16 80) (erX l half))
  have F := hide (show ∀ v' w', Own w.heap.size w' v' (erX l half) → w.grownBy w' none → MemE w (erM l half) (erS l half s) (erL l half) (erE l half) (.returned (.tuple #[memV (ovr (l1.set 100 (sdN (nth l 100) 40)) 16 (kpA (prt l 16 80) (erX l half))) s, v', .int .i64 0])) w' from fun v' w' o q =>
    ⟨v', by rw [(er_yes (s := s) hk).1, (er_yes (s := s) hk).2.1, (er_yes (s := s) hk).2.2.2]; unfold memT; rw [her, E1], by rw [(er_yes (s := s) hk).2.2.1]; exact o, q⟩)
  have PS := hide (show prt l1 16 80 = prt l 16 80 by rw [E1]; exact prt_set l 99 _ 16 80 (by omega) (.inr (by omega)))
  have PS2 := hide (fun z => prt_set l1 100 z 16 80 (by rw [L1.out]; omega) (.inr (by omega)))
  have CL := hide (memC_len hl s)
  have AL := hide (BlkM.all s hl)
  have C1 := hide (memC_len L1.out s)
  have A1 := hide (BlkM.all s L1.out)
  have ZL := hide (memC_len (zeros_len 101) false)
  have HL := hide hl
  have fb := fdV_bd (nth l 96) er
  rw [hf1] at fb
  have FD1 := hide hf1
  have FD2 := hide hf2
  have hsz1 : f1.tdiv 4 = sz := by rw [Int.tdiv_eq_ediv_of_nonneg fb.1]; exact hsz
  have hsz2 : f1 / 4 = sz := hsz
  have WSZ := wrapI sz (by omega) (by omega)
  have hz := zero_mem
  have HL1 := hide hl1
  clear hg h64 hl hf1 hf2 hsz EZ EX MO hk E1 hl1 fb hh her
  generalize MemE w (erM l half) (erS l half s) (erL l half) (erE l half) = T at *
  unfold NsE at NZ
  unfold memV at hz F GD NZ ⊢
  generalize erX l half = X at *
  generalize erZ l half = N at *
  generalize sdN (nth l 100) 40 = sd at *
  generalize nth l 96 = g0 at *
  generalize nth l 97 = p0 at *
  generalize nth l 98 = lg at *
  replace D97 := hide (D97.out sd)
  replace D98 := hide (D98.out sd)
  replace D99 := hide (D99.out sd)
  have L2 := hide (show (l1.set 100 sd).length = 101 by rw [List.length_set]; exact L1.out)
  have C2 := hide (memC_len L2.out s)
  have ON1 := hide (memC_one (l1.set 100 sd) s)
  have P2 := hide (BlkM.part (l := l1.set 100 sd) s 16 80 (by rw [L2.out]; omega))
  rw [PS2.out, PS.out] at P2
  go_enter Try.func20, Try.ntmps20
  go_upto_region 1 with fail
  generalize (w.alloc (.cells (memC l s).toArray 25)).alloc (.cells (memC (zeros 101) false).toArray 25) = W0 at *
  clear hz
  go_wp2_with (refine wpList_load_v rfl 25 _ rfl w.heap.size 0 102 rfl 25 (memC l s) M0.out.1 _ Try.underlying25 rfl size102 (by rw [CL.out]; omega) _ AL.out ?_)
  refine (GD.out W0).mono ?_
  rintro e W1 ⟨rfl, g1⟩
  have M1 := hide (M0.out.keep g1)
  clear M0 g1 GD
  go_wp2_with fail
  refine (WI.out _).mono ?_
  rintro e w1 ⟨rfl, rfl⟩
  clear WI
  go_upto_region 5 with fail
  have M2 := hide (show MmS w l1 s w1 from by rw [← HL1.out]; exact M1.out)
  clear M1
  generalize hW2 : w1 = W2 at *
  clear hW2
  have B2 := hide (show w.heap.size + 1 < W2.heap.size from M2.out.2.1.lt)
  have B2' := hide (show w.heap.size ≤ W2.heap.size from M2.out.2.2.size)
  refine wp_region_G 11 (GrownW W2) 13 (by rfl) #[false, false, false, false, false, false, false, false, false, false, false, false, false] (by rfl) (by kernel_rfl) (fun hcl => ?_)
  have hHeld := (gw_start W2)
  refine wpAnyG_take (i := 0) (v := .agg (memC l1 s).toArray) rfl (by kernel_rfl) hcl (fun _ _ _ h => h) (Or.inl ⟨by rfl, ?yea0⟩) hHeld (fun hcl => ?rea0)
  case yea0 => (intro w' hSw; (try dsimp only at hSw); exact yields_load_v rfl rfl (M2.out.1.keep hSw) _ Try.underlying25 rfl size102 (by rw [C1.out]; omega) _ A1.out)
  (try simp only [Act.put, sL])
  refine wpAnyG_take (i := 1) (v := ?vea1) rfl (by kernel_rfl) hcl (fun _ _ _ h => h) (Or.inl ⟨by rfl, ?yea1⟩) hHeld (fun hcl => ?rea1)
  case yea1 => (intro w' hSw; (try dsimp only at hSw); go_simp; (try with_reducible rfl))
  (try simp only [Act.put, sL])
  refine wpAnyG_take (i := 2) (v := .int .i64 g0) rfl (by kernel_rfl) hcl (fun _ _ _ h => h) (Or.inl ⟨by rfl, ?yea2⟩) hHeld (fun hcl => ?rea2)
  case yea2 => (intro w' hSw; (try dsimp only at hSw); have cc := (M2.out.1.keep hSw).cell 96 (by rw [L1.out]; omega); rw [E96.out] at cc; go_simp; (try with_reducible rfl))
  (try simp only [Act.put, sL])
  refine wpAnyG_take (i := 3) (v := ?vea3) rfl (by kernel_rfl) hcl (fun _ _ _ h => h) (Or.inl ⟨by rfl, ?yea3⟩) hHeld (fun hcl => ?rea3)
  case yea3 => (intro w' hSw; (try dsimp only at hSw); go_simp; (try with_reducible rfl))
  (try simp only [Act.put, sL])
  refine wpAnyG_take (i := 4) (v := .int .i64 er) rfl (by kernel_rfl) hcl (fun _ _ _ h => h) (Or.inl ⟨by rfl, ?yea4⟩) hHeld (fun hcl => ?rea4)
  case yea4 => (intro w' hSw; (try dsimp only at hSw); have cc := (M2.out.1.keep hSw).cell 99 (by rw [L1.out]; omega); rw [E99.out] at cc; go_simp; (try with_reducible rfl))
  (try simp only [Act.put, sL])
  refine wpAnyG_exec (i := 5) rfl (by kernel_rfl) hcl (fun K hK => ?_)
  (try simp only [Act.put, sL])
  go_simp
  refine (gaiFade_any g0 er _).mono ?_
  rintro e w1 ⟨rfl, rfl⟩
  rw [FD1.out]
  go_wp2_with fail
  have hNew := hHeld
  refine hK.out _ _ (fun _ => hNew) (fun hcl => ?_)
  clear hK
  replace hHeld := hNew
  clear hNew
  (try simp only [Act.put, sL])
  refine wpAnyG_take (i := 6) (v := .int .i64 sz) rfl (by kernel_rfl) hcl (fun _ _ _ h => h) (Or.inl ⟨by rfl, ?yea6⟩) hHeld (fun hcl => ?rea6)
  case yea6 => (intro w' hSw; (try dsimp only at hSw); go_simp; (try simp only [hsz1, hsz2, WSZ]))
  (try simp only [Act.put, sL])
  refine wpAnyG_exec (i := 7) rfl (by kernel_rfl) hcl (fun K hK => ?_)
  (try simp only [Act.put, sL])
  go_simp
  refine (NZ.out _).mono ?_
  rintro e w2 ⟨v2, rfl, o2, q2⟩
  have Q2 := hide q2
  have O2 := hide (o2.base hHeld.size)
  clear q2 o2
  go_wp2_with fail
  have hNew := (gw_trans hHeld Q2.out)
  refine hK.out _ _ (fun _ => hNew) (fun hcl => ?_)
  clear hK
  replace hHeld := hNew
  clear hNew
  (try simp only [Act.put, sL])
  refine wpAnyG_take (i := 8) (v := ?vea8) rfl (by kernel_rfl) hcl (fun _ _ _ h => h) (Or.inl ⟨by rfl, ?yea8⟩) hHeld (fun hcl => ?rea8)
  case yea8 => (intro w' hSw; (try dsimp only at hSw); go_simp; (try with_reducible rfl))
  (try simp only [Act.put, sL])
  refine wpAnyG_take (i := 9) (v := ?vea9) rfl (by kernel_rfl) hcl (fun _ _ _ h => h) (Or.inl ⟨by rfl, ?yea9⟩) hHeld (fun hcl => ?rea9)
  case yea9 => (intro w' hSw; (try dsimp only at hSw); go_simp; (try with_reducible rfl))
  (try simp only [Act.put, sL])
  refine wpAnyG_takeF (i := 10) (v := ?vea10) rfl (by kernel_rfl) hcl (fun _ _ _ h => h) (Or.inl ⟨by rfl, ?yea10⟩) hHeld (fun hcl => ?rea10)
  case yea10 => (intro w' _; go_simp; (try with_reducible rfl))
  (try simp only [Act.put, sL])
  refine wpAnyG_exec (i := 11) rfl (by kernel_rfl) hcl (fun K hK => ?_)
  (try simp only [Act.put, sL])
  have M3p := hide (M2.out.keep hHeld)
  have M3' := M3p.out.putP (l1.set 100 sd) s L1.out L2.out
  have M3 := hide M3'.1
  have O3 := hide (O2.out.keepLt M3'.2 (by have := B2.out; omega))
  clear O2 M3'
  refine step_store_v rfl 25 _ _ rfl w.heap.size 0 25 (memC l1 s) (memC (l1.set 100 sd) s) rfl rfl M3p.out.1 (by rw [C1.out, C2.out]; omega) (by rw [C2.out]; exact size102) ON1.out ?_
  refine hK.out _ _ (fun h => by cases h) (fun hcl => ?_)
  clear hK hHeld
  (try simp only [Act.put, sL])
  clear M3p M2 Q2
  generalize putV w2 w.heap.size 0 (memC (l1.set 100 sd) s) = W3 at *
  refine wpAnyG_of_any _ _ _ _ (by rfl) ?_
  refine wpAny_take (i := 12) (v := ?vea12) rfl (by kernel_rfl) (by kernel_rfl) (by kernel_rfl) (fun _ _ _ h => h) (Or.inl ⟨by rfl, ?yea12⟩) ?rea12
  case yea12 => (intro w'; go_simp; (try with_reducible rfl))
  (try simp only [Act.put, sL])
  refine wpAny_done (by kernel_rfl) ?_ _
  clear NZ
  go_upto_region 6 with fail
  refine wp_region_held_drew (S := GrownW W3) (by kernel_rfl) (gw_start _) (fun hHeld => ?_)
  refine wpAnyH_take (i := 0) (v := ?veb0) rfl (by kernel_rfl) (by kernel_rfl) (by kernel_rfl) (fun _ _ _ h => h) (Or.inl ⟨by rfl, ?yeb0⟩) hHeld ?reb0
  case yeb0 => (intro w' hSw; go_simp; (try with_reducible rfl))
  (try simp only [Act.put, sL])
  refine wpAnyH_take (i := 1) (v := .agg (intsV (prt l 16 80)).toArray) rfl (by kernel_rfl) (by kernel_rfl) (by kernel_rfl) (fun _ _ _ h => h) (Or.inl ⟨by rfl, ?yeb1⟩) hHeld ?reb1
  case yeb1 => (intro w' hSw; exact yields_load_v rfl rfl (M3.out.1.keep hSw) _ Try.underlying23 rfl size80c (by rw [C2.out]; omega) _ P2.out)
  (try simp only [Act.put, sL])
  refine wpAnyH_take (i := 2) (v := ?veb2) rfl (by kernel_rfl) (by kernel_rfl) (by kernel_rfl) (fun _ _ _ h => h) (Or.inl ⟨by rfl, ?yeb2⟩) hHeld ?reb2
  case yeb2 => (intro w' hSw; go_simp; (try with_reducible rfl))
  (try simp only [Act.put, sL])
  refine wpAnyH_take (i := 3) (v := .int .i64 lg) rfl (by kernel_rfl) (by kernel_rfl) (by kernel_rfl) (fun _ _ _ h => h) (Or.inl ⟨by rfl, ?yeb3⟩) hHeld ?reb3
  case yeb3 => (intro w' hSw; have cc := (M3.out.1.keep hSw).cell 98 (by rw [L2.out]; omega); rw [D98.out] at cc; go_simp; (try with_reducible rfl))
  (try simp only [Act.put, sL])
  refine wpAnyH_take (i := 4) (v := ?veb4) rfl (by kernel_rfl) (by kernel_rfl) (by kernel_rfl) (fun _ _ _ h => h) (Or.inl ⟨by rfl, ?yeb4⟩) hHeld ?reb4
  case yeb4 => (intro w' hSw; go_simp; (try with_reducible rfl))
  (try simp only [Act.put, sL])
  refine wpAnyH_take (i := 5) (v := .int .i64 p0) rfl (by kernel_rfl) (by kernel_rfl) (by kernel_rfl) (fun _ _ _ h => h) (Or.inl ⟨by rfl, ?yeb5⟩) hHeld ?reb5
  case yeb5 => (intro w' hSw; have cc := (M3.out.1.keep hSw).cell 97 (by rw [L2.out]; omega); rw [D97.out] at cc; go_simp; (try with_reducible rfl))
  (try simp only [Act.put, sL])
  refine wpAnyH_take (i := 6) (v := ?veb6) rfl (by kernel_rfl) (by kernel_rfl) (by kernel_rfl) (fun _ _ _ h => h) (Or.inl ⟨by rfl, ?yeb6⟩) hHeld ?reb6
  case yeb6 => (intro w' hSw; go_simp; (try with_reducible rfl))
  (try simp only [Act.put, sL])
  refine wpAnyH_take (i := 7) (v := .int .i64 er) rfl (by kernel_rfl) (by kernel_rfl) (by kernel_rfl) (fun _ _ _ h => h) (Or.inl ⟨by rfl, ?yeb7⟩) hHeld ?reb7
  case yeb7 => (intro w' hSw; have cc := (M3.out.1.keep hSw).cell 99 (by rw [L2.out]; omega); rw [D99.out] at cc; go_simp; (try with_reducible rfl))
  (try simp only [Act.put, sL])
  refine wpAnyH_take (i := 9) (v := ?veb9) rfl (by kernel_rfl) (by kernel_rfl) (by kernel_rfl) (fun _ _ _ h => h) (Or.inl ⟨by rfl, ?yeb9⟩) hHeld ?reb9
  case yeb9 => (intro w' hSw; go_simp; (try with_reducible rfl))
  (try simp only [Act.put, sL])
  refine wpAnyH_ready (rs := [8]) (by kernel_rfl) (by simp) (AllReadyH.cons rfl (fun K hK => ?_) AllReadyH.nil)
  (try simp only [Act.put, sL])
  go_simp
  refine (gaiFade_any p0 er _).mono ?_
  rintro e w3 ⟨rfl, rfl⟩
  rw [FD2.out]
  go_wp2_with fail
  refine hK.out _ _ hHeld (fun hHeld => ?_)
  clear hK
  (try simp only [Act.put, sL])
  refine wpAnyH_ready (rs := [10]) (by kernel_rfl) (by simp) (AllReadyH.cons rfl (fun K hK => ?_) AllReadyH.nil)
  (try simp only [Act.put, sL])
  go_simp
  refine (MX.out v2 _ (O3.out.keep hHeld).ints).mono ?_
  rintro e w4 ⟨v4, rfl, o4, q4⟩
  have Q4 := hide q4
  have O4 := hide (o4.base hHeld.size)
  clear q4 o4
  go_wp2_with fail
  refine hK.out _ _ (gw_trans hHeld Q4.out) (fun hHeld => ?_)
  clear hK
  (try simp only [Act.put, sL])
  clear Q4
  refine wpAnyH_take (i := 11) (v := ?veb11) rfl (by kernel_rfl) (by kernel_rfl) (by kernel_rfl) (fun _ _ _ h => h) (Or.inl ⟨by rfl, ?yeb11⟩) hHeld ?reb11
  case yeb11 => (intro w' hSw; go_simp; (try with_reducible rfl))
  (try simp only [Act.put, sL])
  refine wpAnyH_take (i := 12) (v := ?veb12) rfl (by kernel_rfl) (by kernel_rfl) (by kernel_rfl) (fun _ _ _ h => h) (Or.inl ⟨by rfl, ?yeb12⟩) hHeld ?reb12
  case yeb12 => (intro w' hSw; go_simp; (try with_reducible rfl))
  (try simp only [Act.put, sL])
  refine wpAnyH_take (i := 13) (v := ?veb13) rfl (by kernel_rfl) (by kernel_rfl) (by kernel_rfl) (fun _ _ _ h => h) (Or.inl ⟨by rfl, ?yeb13⟩) hHeld ?reb13
  case yeb13 => (intro w' hSw; go_simp; (try with_reducible rfl))
  (try simp only [Act.put, sL])
  refine wpAnyH_take (i := 14) (v := ?veb14) rfl (by kernel_rfl) (by kernel_rfl) (by kernel_rfl) (fun _ _ _ h => h) (Or.inl ⟨by rfl, ?yeb14⟩) hHeld ?reb14
  case yeb14 => (intro w' hSw; go_simp; (try with_reducible rfl))
  (try simp only [Act.put, sL])
  refine wpAnyH_take (i := 15) (v := ?veb15) rfl (by kernel_rfl) (by kernel_rfl) (by kernel_rfl) (fun _ _ _ h => h) (Or.inl ⟨by rfl, ?yeb15⟩) hHeld ?reb15
  case yeb15 => (intro w' hSw; go_simp; (try with_reducible rfl))
  (try simp only [Act.put, sL])
  refine wpAnyH_done (by kernel_rfl) ?_ _
  have M4' := hide (M3.out.keep hHeld)
  have O4' := hide O4.out
  have BL := hide (show w.heap.size + 1 < W3.heap.size from M3.out.2.1.lt)
  have B1 := hide (show w.heap.size ≤ W3.heap.size from M3.out.2.2.size)
  clear M3 O3 O4 hHeld MX P2
  go_upto_region 7 with fail
  have L1' := L2
  have P3 := hide (BlkM.part (l := l1.set 100 sd) s 16 80 (by rw [L1'.out]; omega))
  rw [PS2.out, PS.out] at P3
  have C3 := C2
  have KK := hide (KP.out v4 w4 O4'.out.ints)
  have M3 := M4'
  have O3 := O4'
  clear KP PS PS2 M4' O4' D97 D98 D99 E96 E97 E98 E99 E100
  go_wp2_with (first | refine wpList_load_v rfl 23 _ rfl w.heap.size 16 80 rfl 25 (memC (l1.set 100 sd) s) M3.out.1 _ Try.underlying23 rfl size80c (by rw [C3.out]; omega) _ P3.out ?_)
  refine KK.out.mono ?_
  rintro e W4 ⟨rfl, g4⟩
  have M4 := hide (M3.out.keep g4)
  have O4 := hide (O3.out.keep g4)
  clear KK M3 O3 g4 P3
  generalize kpA (prt l 16 80) X = R at *
  have M5 := hide (M4.out.put 16 R (by rw [KL.out, L1'.out]; omega))
  have O5 := hide (O4.out.keepLt (M4.out.1.put 16 R (by rw [KL.out, L1'.out]; omega)).2 (by have := BL.out; omega))
  have IO := hide (intsV_one R)
  have IL := hide (show (intsV R).length = 80 by rw [intsV_len]; exact KL.out)
  clear O4
  go_upto_region 8 with (first | refine wpList_store_v rfl 23 _ _ rfl w.heap.size 16 25 (memC (l1.set 100 sd) s) (intsV R) rfl rfl M4.out.1 (by rw [IL.out, C3.out]; omega) (by rw [IL.out]; exact size80c) IO.out ?_)
  (try simp only [Act.put])
  clear M4 IO IL C3
  generalize putV W4 w.heap.size 16 (intsV R) = W5 at *
  have L5 := hide (show (ovr (l1.set 100 sd) 16 R).length = 101 by rw [ovr_len]; exact L1'.out)
  generalize ovr (l1.set 100 sd) 16 R = m at *
  have A5 := hide (BlkM.all s L5.out)
  have C5 := hide (memC_len L5.out s)
  have ON := hide (memC_one m s)
  have PB := hide (M5.out.fin m s L5.out)
  have O6 := hide (O5.out.keepLt (M5.out.2.1.putAll (m := m) (t := s) (zeros_len 101) L5.out).2 BL.out)
  have FF := hide (F.out _ _ (O6.out.base B1.out) PB.out.2)
  clear F O5 O6
  go_wp2_with (first | refine wpList_load_v rfl 25 _ rfl w.heap.size 0 102 rfl 25 (memC m s) M5.out.1 _ Try.underlying25 rfl size102 (by rw [C5.out]; omega) _ A5.out ?_ | refine wpList_store_v rfl 25 _ _ rfl (w.heap.size + 1) 0 25 (memC (zeros 101) false) (memC m s) rfl rfl M5.out.2.1 (by rw [ZL.out, C5.out]; omega) (by rw [C5.out]; exact size102) ON.out ?_)
  have hlv := loadVar_v PB.out.1 _ Try.underlying25 rfl (by rw [C5.out]; exact size102)
  refine bodyPost_ret (v := .tuple #[.agg (memC m s).toArray, _, .int .i64 0]) ?_ rfl FF.out
  simp [results, Try.results20, asAddr, Act.put, hlv]
theorem conErased_any (l : List Int) (s : Bool) (half : Int) (hl : l.length = 101) (w : World) : Calls Try.prog 20 #[memV l s, .int .i64 half] w (MemE w (erM l half) (erS l half s) (erL l half) (erE l half)) := by
  rcases hg : goodM l with _ | _
  · exact conErased_no1 l s half hl hg w
  · by_cases h1 : 0 ≤ half ∧ half ≤ 1
    · by_cases h3 : half = 0
      · by_cases h6 : nth l 99 < 6
        · exact conErased_up l s half hl hg h3 h6 w
        · exact conErased_top l s half hl hg h3 h6 w
      · exact conErased_two l s half hl hg (by omega) w
    · exact conErased_no2 l s half hl hg h1 w
end Go.Proofs.Ytjepkgdejkifcaa

/- LpcB -/
namespace Go.Proofs.Ytjepkgdejkifcaa
open Go.RowKit
set_option linter.unusedVariables false
set_option linter.unusedSimpArgs false
set_option maxHeartbeats 1000000
set_option maxRecDepth 100000 in
theorem expand_no0 (a : List Int) (ha : a.length = 9) (g : Int) (hg : ¬ (0 ≤ g ∧ g ≤ 32768)) (w : World) : Calls Try.prog 19 #[.agg (arrI a), .int .i64 g] w (ArrE w (zeros 9) 2) := by
  have L0 := hide (laid2 w 35 35 a (zeros 9))
  rw [z9'] at L0
  have hbd := build9
  have W := hide (within_any g 0 32768)
  rw [show (decide (0 ≤ g) && decide (g ≤ 32768)) = false by simp; omega] at W
  go_enter Try.func19, Try.ntmps19
  go_wp2_with fail
  refine (W.out _).mono ?_
  rintro e w1 ⟨rfl, rfl⟩
  have BB := hide L0.out.2.1
  have GM := hide L0.out.2.2
  clear L0 W
  go_wp2_with (first | refine wpList_store_arr rfl 35 _ _ rfl _ (zeros 9) (zeros 9) rfl rfl BB.out rfl (by rw [zeros_len]; exact size9') ?_)
  have PU := put_arr (rs' := zeros 9) BB.out rfl
  have hlv := loadVar_arr PU.1 _ Try.underlying35 rfl (by rw [zeros_len]; exact size9')
  have GF := hide (grown_own GM.out PU.2 (by omega))
  refine bodyPost_ret (v := .tuple #[.agg (arrI (zeros 9)), .int .i64 2]) ?_ rfl ⟨rfl, GF.out⟩
  simp [results, Try.results19, asAddr, Act.put, hlv]
set_option maxRecDepth 100000 in
theorem expand_no1 (a : List Int) (ha : a.length = 9) (g : Int) (hg : 0 ≤ g ∧ g ≤ 32768) (hw : wideB a = false) (w : World) : Calls Try.prog 19 #[.agg (arrI a), .int .i64 g] w (ArrE w (zeros 9) 2) := by
  have L0 := hide (laid2 w 35 35 a (zeros 9))
  rw [z9'] at L0
  have hbd := build9
  have W := hide (within_any g 0 32768)
  rw [show (decide (0 ≤ g) && decide (g ≤ 32768)) = true by simp; omega] at W
  have IB := hide (Ints_blk L0.out.1 9 (by omega))
  rw [ha] at IB
  have A := hide (allWithin_any (.slice (some ⟨w.heap.size, 0, none⟩) 9 9) a (-1073741824) 1073741824 _ IB.out (by omega))
  rw [inB_wide, hw] at A
  clear IB
  go_enter Try.func19, Try.ntmps19
  go_wp2_with fail
  refine (W.out _).mono ?_
  rintro e w1 ⟨rfl, rfl⟩
  clear W
  go_wp2_with fail
  refine A.out.mono ?_
  rintro e w1 ⟨rfl, rfl⟩
  have BB := hide L0.out.2.1
  have GM := hide L0.out.2.2
  clear L0 A
  go_wp2_with (first | refine wpList_store_arr rfl 35 _ _ rfl _ (zeros 9) (zeros 9) rfl rfl BB.out rfl (by rw [zeros_len]; exact size9') ?_)
  have PU := put_arr (rs' := zeros 9) BB.out rfl
  have hlv := loadVar_arr PU.1 _ Try.underlying35 rfl (by rw [zeros_len]; exact size9')
  have GF := hide (grown_own GM.out PU.2 (by omega))
  refine bodyPost_ret (v := .tuple #[.agg (arrI (zeros 9)), .int .i64 2]) ?_ rfl ⟨rfl, GF.out⟩
  simp [results, Try.results19, asAddr, Act.put, hlv]
set_option maxRecDepth 100000 in
theorem expand_yes (a : List Int) (ha : a.length = 9) (g : Int) (g0 : 0 ≤ g) (g1 : g ≤ 32768) (hw : wideB a = true) (w : World) : Calls Try.prog 19 #[.agg (arrI a), .int .i64 g] w (ArrE w (expL a g) (expE a g)) := by
  have L0 := hide (laid2 w 35 35 a (zeros 9))
  rw [z9'] at L0
  have W := hide (within_any g 0 32768)
  rw [show (decide (0 ≤ g) && decide (g ≤ 32768)) = true by simp; omega] at W
  have IB := hide (Ints_blk L0.out.1 9 (by omega))
  rw [ha] at IB
  have A := hide (allWithin_any (.slice (some ⟨w.heap.size, 0, none⟩) 9 9) a (-1073741824) 1073741824 _ IB.out (by omega))
  rw [inB_wide, hw] at A
  have IX := hide (fun j hj => index_arr a Try.underlying35 j hj ha)
  have FB := hide (fac_bd g g0 g1)
  have OK := hide (show okX a g = true by unfold okX; simp [g0, g1, hw])
  have WB := hide ((wideB_iff a).1 hw)
  clear IB hw
  go_enter Try.func19, Try.ntmps19
  go_wp2_with fail
  refine (W.out _).mono ?_
  rintro e w1 ⟨rfl, rfl⟩
  clear W
  go_wp2_with fail
  refine A.out.mono ?_
  rintro e w1 ⟨rfl, rfl⟩
  clear A
  go_wp2_with (refine wpList_load_arr rfl 35 _ rfl _ rfl _ L0.out.1 _ Try.underlying35 rfl (by rw [ha]; exact size9') ?_)
  have M0 := hide (show Mem2 w _ 35 35 a (zeros 9) from L0.out)
  clear L0
  generalize (w.alloc (.cells (arrI a) 35)).alloc _ = W0 at *
  go_loopw [6, 19] (fun f i wr => ∃ (m : Nat) (rs : List Int), f = .int .i64 (fac g m) ∧ i = .int .i64 m ∧ m ≤ 9 ∧ Hid (FillN 9 (expN a g) m rs) ∧ Hid (Mem2 w wr 35 35 rs (zeros 9))) (fun _ i _ => 9 - (intOf i).toNat)
  case atStart => exact ⟨0, a, rfl, rfl, Nat.zero_le _, ⟨ha, fun j hj => by omega⟩, M0.out⟩
  case round =>
    obtain ⟨m, rs, rfl, rfl, hm, hF, hM⟩ := hrel
    clear M0
    by_cases hm9 : m < 9
    · have ix := IX.out m (by omega)
      obtain ⟨b1, b2⟩ := WB.out m (by omega)
      obtain ⟨f1, f2⟩ := FB.out m
      obtain ⟨p1, p2⟩ := facmul_bd _ _ b1 b2 f1 f2
      obtain ⟨p3, p4⟩ := facmul_bd g (fac g m) (by omega) (by omega) f1 f2
      rw [Int.mul_comm] at p3 p4
      have D1 := hide (fun u => rounded15 (nth a m * fac g m) (by omega) (by omega) u)
      have D2 := hide (fun u => rounded15 (fac g m * g) (by omega) (by omega) u)
      have E1 := hide (show (nth a m * fac g m + 16384) / 32768 = expN a g m from rfl)
      have E2 := hide (show (fac g m * g + 16384) / 32768 = fac g (m + 1) from rfl)
      rw [E1.out] at D1
      rw [E2.out] at D2
      have NF := hide (fillN_step hF.out hm9)
      have hlen : rs.length = 9 := hF.out.1
      have cd := hM.out.1.cell m (by omega)
      have fd := hM.out.1.free m
      have M2 := hide (hM.out.set m (expN a g m))
      clear hF E1 E2 OK WB hM IX FB
      generalize expN a g m = z at *
      generalize nth a m = c at *
      generalize fac g m = f at *
      generalize nth rs m = y' at *
      have i1 : (m : Int) < 9 := by omega
      go_wp2_with fail
      refine (D1.out _).mono ?_
      rintro e w1 ⟨rfl, rfl⟩
      clear D1
      go_wp2_with fail
      refine (D2.out _).mono ?_
      rintro e w2 ⟨rfl, rfl⟩
      clear D2 cd fd
      go_wp2_with fail
      go_roundw
      case rel => exact ⟨m + 1, _, rfl, by go_num, by omega, NF.out, M2.out⟩
      case measure => simp [intOf]; omega
    · obtain rfl : m = 9 := by omega
      have EL := hide (show expL a g = rs by rw [fillN_all hF.out]; simp [expL, OK.out])
      have EE := hide (show expE a g = 0 by simp [expE, OK.out])
      have hlen : rs.length = 9 := hF.out.1
      have BA := hide hM.out.1
      have BB := hide hM.out.2.1
      have GM := hide hM.out.2.2
      clear hF hM FB OK WB IX
      generalize fac g 9 = f at *
      go_wp2_with (first | refine wpList_load_arr rfl 35 _ rfl _ rfl _ BA.out _ Try.underlying35 rfl (by rw [hlen]; exact size9') ?_ | refine wpList_store_arr rfl 35 _ _ rfl _ (zeros 9) rs rfl rfl BB.out (by rw [hlen, zeros_len]) (by rw [zeros_len]; exact size9') ?_)
      have PU := put_arr (rs' := rs) BB.out (by rw [hlen, zeros_len])
      have hlv := loadVar_arr PU.1 _ Try.underlying35 rfl (by rw [hlen]; exact size9')
      have GF := hide (grown_own GM.out PU.2 (by omega))
      refine bodyPost_ret (v := .tuple #[.agg (arrI rs), .int .i64 0]) ?_ rfl ?_
      · simp [results, Try.results19, asAddr, Act.put, hlv]
      · rw [EL.out, EE.out]; exact ⟨rfl, GF.out⟩
theorem expand_any (a : List Int) (ha : a.length = 9) (g : Int) (w : World) : Calls Try.prog 19 #[.agg (arrI a), .int .i64 g] w (ArrE w (expL a g) (expE a g)) := by
  have no : okX a g = false → expL a g = zeros 9 ∧ expE a g = 2 := fun h => by simp [expL, expE, h]
  by_cases hn : 0 ≤ g ∧ g ≤ 32768
  · rcases sa : wideB a with _ | _
    · obtain ⟨e1, e2⟩ := no (by unfold okX; rw [sa]; simp)
      rw [e1, e2]; exact expand_no1 a ha g hn sa w
    · exact expand_yes a ha g hn.1 hn.2 sa w
  · obtain ⟨e1, e2⟩ := no (by
      unfold okX
      have : (decide (0 ≤ g) && decide (g ≤ 32768)) = false := by simp; omega
      rw [this]; rfl)
    rw [e1, e2]; exact expand_no0 a ha g hn w
end Go.Proofs.Ytjepkgdejkifcaa

/- LpcC -/
namespace Go.Proofs.Ytjepkgdejkifcaa
open Go.RowKit
set_option linter.unusedVariables false
set_option linter.unusedSimpArgs false
set_option maxHeartbeats 1000000
def PartG (A : List Int) (m : Nat) (q : Int) (k : Nat) (rs : List Int) : Prop := rs.length = 9 ∧ ∀ j, nth rs j = if j < k then gr (nth A) m q j else nth A j
theorem partG_step {A : List Int} {m : Nat} {q : Int} {k : Nat} {rs : List Int} (h : PartG A m q k rs) (h1 : 1 ≤ k) (h2 : k ≤ m) (hm : m ≤ 8) : PartG A m q (k + 1) (rs.set k (nth A k + q * nth A (m - k) / 32768)) := by
  refine ⟨by simpa using h.1, fun j => ?_⟩
  by_cases e : j = k
  · subst e
    have hl := h.1
    rw [if_pos (by omega)]
    unfold gr
    rw [if_pos ⟨h1, h2⟩]
    simp [nth, List.getD, show j < rs.length by omega]
  · have e1 : nth (rs.set k (nth A k + q * nth A (m - k) / 32768)) j = nth rs j := by simp [nth, List.getD, List.getElem?_set, Ne.symm e]
    rw [e1, h.2 j]
    by_cases c : j < k
    · rw [if_pos c, if_pos (by omega)]
    · rw [if_neg c, if_neg (by omega)]
theorem partG_start (A : List Int) (hA : A.length = 9) (m : Nat) (q : Int) : PartG A m q 1 A := ⟨hA, fun j => by
  by_cases c : j < 1
  · rw [if_pos c]; unfold gr; rw [if_neg (by omega)]
  · rw [if_neg c]⟩
theorem partG_end {A : List Int} {m : Nat} {q : Int} {rs : List Int} (h : PartG A m q (m + 1) rs) : rs = tab 9 (gr (nth A) m q) := tab_ext h.1 (fun i _ => by
  rw [h.2 i]
  by_cases c : i < m + 1
  · rw [if_pos c]
  · rw [if_neg c]; unfold gr; rw [if_neg (by omega)])
def MemG (w wr : World) (A rs : List Int) : Prop := Mem3 w wr 35 35 35 A (zeros 9) rs
theorem memG_set {w wr : World} {A rs : List Int} (h : MemG w wr A rs) (k : Nat) (z : Int) : MemG w (wr.setCell ⟨w.heap.size + 1 + 1, k, none⟩ (.int .i64 z)) A (rs.set k z) :=
  ⟨h.1.keepBut (grown_setCell _ ⟨w.heap.size + 1 + 1, k, none⟩ _) (by simp; omega), h.2.1.keepBut (grown_setCell _ ⟨w.heap.size + 1 + 1, k, none⟩ _) (by simp), h.2.2.1.set k z, grown_own h.2.2.2 (grown_setCell _ ⟨w.heap.size + 1 + 1, k, none⟩ _) (by simp; omega)⟩
theorem memG_start (w : World) (A : List Int) (hA : A.length = 9) : MemG w (putArr (((w.alloc (.cells (arrI A) 35)).alloc (.cells (arrI (zeros 9)) 35)).alloc (.cells (arrI (zeros 9)) 35)) (w.heap.size + 1 + 1) A) A A := by
  obtain ⟨h1, h2, h3, h4⟩ := laid3 w 35 35 35 A (zeros 9) (zeros 9)
  have PU := put_arr (rs' := A) h3 (by rw [hA, zeros_len])
  exact ⟨h1.keepBut PU.2 (by omega), h2.keepBut PU.2 (by omega), PU.1, grown_own h4 PU.2 (by omega)⟩
set_option maxRecDepth 100000 in
theorem grown_any (A : List Int) (hA : A.length = 9) (m : Nat) (hm : m ≤ 8) (q : Int) (q1 : -32768 ≤ q) (q2 : q ≤ 32768) (hW : Wi (nth A) 4294967296) (w : World) :
    Calls Try.prog 36 #[.agg (arrI A), .int .i64 m, .int .i64 q] w (AnsG w (.agg (arrI (tab 9 (gr (nth A) m q))))) := by
  have L0 := hide (laid3 w 35 35 35 A (zeros 9) (zeros 9))
  rw [z9'] at L0
  have BA := hide (Blk.new w 35 A)
  have BA2 := hide (laid2 w 35 35 A (zeros 9))
  rw [z9'] at BA2
  have B3 := hide L0.out.2.2.1
  have MS := hide (memG_start w A hA)
  rw [z9'] at MS
  have HW := hide hW
  clear L0 hW BA
  go_enter Try.func36, Try.ntmps36
  go_wp2_with (first | refine wpList_load_arr rfl 35 _ rfl _ rfl _ BA2.out.1 _ Try.underlying35 rfl (by rw [hA]; exact size9') ?_ | refine wpList_store_arr rfl 35 _ _ rfl _ (zeros 9) A rfl rfl B3.out (by rw [hA, zeros_len]) (by rw [zeros_len]; exact size9') ?_)
  clear BA2 B3
  generalize putArr _ (w.heap.size + 1 + 1) A = W0 at *
  go_loopw [8] (fun i wr => ∃ (k : Nat) (rs : List Int), i = .int .i64 k ∧ 1 ≤ k ∧ k ≤ m + 1 ∧ Hid (PartG A m q k rs) ∧ Hid (MemG w wr A rs)) (fun i _ => 9 - (intOf i).toNat)
  case atStart => exact ⟨1, A, rfl, by omega, by omega, partG_start A hA m q, MS.out⟩
  case round =>
    obtain ⟨k, rs, rfl, hk1, hk2, hF, hM⟩ := hrel
    clear MS
    by_cases hkm : k ≤ m
    · have hlen : rs.length = 9 := hF.out.1
      have cz := hM.out.2.2.1.cell k (by omega)
      have fz := hM.out.2.2.1.free k
      have cx := hM.out.1.cell (m - k) (by omega)
      have ez : nth rs k = nth A k := by rw [hF.out.2 k, if_neg (by omega)]
      rw [ez] at cz
      have NF := hide (partG_step hF.out hk1 hkm hm)
      have NM := hide (memG_set hM.out k (nth A k + q * nth A (m - k) / 32768))
      obtain ⟨z1, z2⟩ := HW.out k
      obtain ⟨x1, x2⟩ := HW.out (m - k)
      obtain ⟨p1, p2⟩ := qmul_bd q _ _ q1 q2 x1 x2
      have EJ := hide (show IntKind.i64.wrap ((m : Int) - (k : Int)) = ((m - k : Nat) : Int) by rw [wrapI _ (by omega) (by omega)]; omega)
      have j8 : ((m - k : Nat) : Int) < 9 := by omega
      have j0 : (0 : Int) ≤ ((m - k : Nat) : Int) := by omega
      clear hF hM HW ez
      have EM := hide (wrapI (q * nth A (m - k)) (by omega) (by omega))
      have EZ := hide (wrapI (nth A k + q * nth A (m - k) / 32768) (by omega) (by omega))
      generalize hx : nth A (m - k) = x at *
      generalize hz : nth A k = z at *
      clear hx hz
      generalize m - k = j at *
      have k9 : (k : Int) < 9 := by omega
      have k0 : (0 : Int) ≤ k := by omega
      have km : (k : Int) ≤ m := by omega
      have hS := And.intro cz cx
      go_wp2_with fail
      refine wp_region_G 13 ((fun w' => w'.cell? ⟨w.heap.size + 1 + 1, k, none⟩ = some (.int .i64 z) ∧ w'.cell? ⟨w.heap.size, j, none⟩ = some (.int .i64 x))) 14 (by rfl) #[false, false, false, false, false, false, false, false, false, false, false, false, false, false] (by rfl) (by kernel_rfl) (fun hcl => ?_)
      refine wpAnyG_take (i := 0) (v := ?v0) rfl (by kernel_rfl) hcl (fun _ _ _ h => h) (Or.inl ⟨by rfl, ?y0⟩) hS (fun hcl => ?r0)
      case y0 => (intro w' hSw; obtain ⟨s1, s2⟩ := hSw; go_simp; try with_reducible rfl)
      (try simp only [Act.put, sL])
      refine wpAnyG_take (i := 1) (v := ?v1) rfl (by kernel_rfl) hcl (fun _ _ _ h => h) (Or.inl ⟨by rfl, ?y1⟩) hS (fun hcl => ?r1)
      case y1 => (intro w' hSw; obtain ⟨s1, s2⟩ := hSw; go_simp; try with_reducible rfl)
      (try simp only [Act.put, sL])
      refine wpAnyG_take (i := 2) (v := ?v2) rfl (by kernel_rfl) hcl (fun _ _ _ h => h) (Or.inl ⟨by rfl, ?y2⟩) hS (fun hcl => ?r2)
      case y2 => (intro w' hSw; obtain ⟨s1, s2⟩ := hSw; go_simp; try with_reducible rfl)
      (try simp only [Act.put, sL])
      refine wpAnyG_take (i := 3) (v := ?v3) rfl (by kernel_rfl) hcl (fun _ _ _ h => h) (Or.inl ⟨by rfl, ?y3⟩) hS (fun hcl => ?r3)
      case y3 => (intro w' hSw; obtain ⟨s1, s2⟩ := hSw; go_simp; try with_reducible rfl)
      (try simp only [Act.put, sL])
      refine wpAnyG_take (i := 4) (v := ?v4) rfl (by kernel_rfl) hcl (fun _ _ _ h => h) (Or.inl ⟨by rfl, ?y4⟩) hS (fun hcl => ?r4)
      case y4 => (intro w' hSw; obtain ⟨s1, s2⟩ := hSw; go_simp; try with_reducible rfl)
      (try simp only [Act.put, sL])
      refine wpAnyG_take (i := 5) (v := ?v5) rfl (by kernel_rfl) hcl (fun _ _ _ h => h) (Or.inl ⟨by rfl, ?y5⟩) hS (fun hcl => ?r5)
      case y5 => (intro w' hSw; obtain ⟨s1, s2⟩ := hSw; go_simp; try with_reducible rfl)
      (try simp only [Act.put, sL])
      refine wpAnyG_take (i := 6) (v := .int .i64 (j : Int)) rfl (by kernel_rfl) hcl (fun _ _ _ h => h) (Or.inl ⟨by rfl, ?y6⟩) hS (fun hcl => ?r6)
      case y6 => (intro w' hSw; obtain ⟨s1, s2⟩ := hSw; go_simp; (first | exact EJ.out | rw [EJ.out] | (simp; omega)))
      (try simp only [Act.put, sL])
      refine wpAnyG_take (i := 7) (v := ?v7) rfl (by kernel_rfl) hcl (fun _ _ _ h => h) (Or.inl ⟨by rfl, ?y7⟩) hS (fun hcl => ?r7)
      case y7 => (intro w' hSw; obtain ⟨s1, s2⟩ := hSw; go_simp; try with_reducible rfl)
      (try simp only [Act.put, sL])
      refine wpAnyG_take (i := 8) (v := ?v8) rfl (by kernel_rfl) hcl (fun _ _ _ h => h) (Or.inl ⟨by rfl, ?y8⟩) hS (fun hcl => ?r8)
      case y8 => (intro w' hSw; obtain ⟨s1, s2⟩ := hSw; go_simp; try with_reducible rfl)
      (try simp only [Act.put, sL])
      refine wpAnyG_take (i := 9) (v := .int .i64 (q * x)) rfl (by kernel_rfl) hcl (fun _ _ _ h => h) (Or.inl ⟨by rfl, ?y9⟩) hS (fun hcl => ?r9)
      case y9 => (intro w' hSw; obtain ⟨s1, s2⟩ := hSw; go_simp; (first | exact EM.out | rw [EM.out] | (simp; omega)))
      (try simp only [Act.put, sL])
      refine wpAnyG_take (i := 10) (v := ?v10) rfl (by kernel_rfl) hcl (fun _ _ _ h => h) (Or.inl ⟨by rfl, ?y10⟩) hS (fun hcl => ?r10)
      case y10 => (intro w' hSw; obtain ⟨s1, s2⟩ := hSw; go_simp; try with_reducible rfl)
      (try simp only [Act.put, sL])
      refine wpAnyG_take (i := 11) (v := ?v11) rfl (by kernel_rfl) hcl (fun _ _ _ h => h) (Or.inl ⟨by rfl, ?y11⟩) hS (fun hcl => ?r11)
      case y11 => (intro w' hSw; obtain ⟨s1, s2⟩ := hSw; go_simp; try with_reducible rfl)
      (try simp only [Act.put, sL])
      refine wpAnyG_take (i := 12) (v := ?v12) rfl (by kernel_rfl) hcl (fun _ _ _ h => h) (Or.inl ⟨by rfl, ?y12⟩) hS (fun hcl => ?r12)
      case y12 => (intro w' hSw; obtain ⟨s1, s2⟩ := hSw; go_simp; try with_reducible rfl)
      (try simp only [Act.put, sL])
      refine wpAnyG_exec (i := 13) rfl (by kernel_rfl) hcl (fun K hK => ?_)
      (try simp only [Act.put, sL])
      go_simp
      go_wp2_with fail
      refine hK.out _ _ (fun h => by cases h) (fun hcl => ?_)
      clear hK
      (try simp only [Act.put, sL])
      refine wpAnyG_of_any _ _ _ _ (by rfl) ?_
      refine wpAny_done (by kernel_rfl) ?_ _
      go_wp2_with fail
      go_roundw
      case rel => exact ⟨k + 1, _, by go_num, by omega, by omega, NF.out, Mem3.keep NM.out (grown_drew (grown_refl _ none))⟩
      case measure => simp [intOf]; omega
    · obtain rfl : k = m + 1 := by omega
      have hlen : rs.length = 9 := hF.out.1
      have ER := hide (partG_end hF.out)
      have BA := hide hM.out.2.2.1
      have BB := hide hM.out.2.1
      have GM := hide hM.out.2.2.2
      clear hF hM HW
      have km : ¬ ((m + 1 : Nat) : Int) ≤ m := by omega
      go_wp2_with (first | refine wpList_load_arr rfl 35 _ rfl _ rfl _ BA.out _ Try.underlying35 rfl (by rw [hlen]; exact size9') ?_ | refine wpList_store_arr rfl 35 _ _ rfl _ (zeros 9) rs rfl rfl BB.out (by rw [hlen, zeros_len]) (by rw [zeros_len]; exact size9') ?_)
      have PU := put_arr (rs' := rs) BB.out (by rw [hlen, zeros_len])
      have hlv := loadVar_arr PU.1 _ Try.underlying35 rfl (by rw [hlen]; exact size9')
      have GF := hide (grown_own GM.out PU.2 (by omega))
      refine bodyPost_ret (v := .agg (arrI rs)) ?_ rfl ?_
      · simp [results, Try.results36, asAddr, Act.put, hlv]
      · rw [← ER.out]; exact ⟨rfl, GF.out⟩
end Go.Proofs.Ytjepkgdejkifcaa

/- LpcD -/
namespace Go.Proofs.Ytjepkgdejkifcaa
open Go.RowKit
set_option linter.unusedVariables false
set_option linter.unusedSimpArgs false
set_option maxHeartbeats 1000000
theorem tab_gr (p : Nat → Int) (m : Nat) (hm : m ≤ 8) (q : Int) : tab 9 (gr (nth (tab 9 p)) m q) = tab 9 (gr p m q) := by
  apply tab_ext (tab_len _ _)
  intro i hi
  rw [tab_nth _ _ _ hi]
  unfold gr
  rw [tab_nth _ _ _ hi, tab_nth _ _ _ (show m - i < 9 by omega)]
theorem tab_wi {p : Nat → Int} {B : Int} (h : Wi p B) (hB : 0 ≤ B) (n : Nat) : Wi (nth (tab n p)) B := fun i => by
  by_cases hi : i < n
  · rw [tab_nth _ _ _ hi]; exact h i
  · rw [getD_out _ i (by rw [tab_len]; omega)]; omega
def one9 : List Int := [16777216, 0, 0, 0, 0, 0, 0, 0, 0]
theorem one9_tab : one9 = tab 9 one24 := by decide
theorem one9_arr : arrI one9 = #[.int .i64 16777216, .int .i64 0, .int .i64 0, .int .i64 0, .int .i64 0, .int .i64 0, .int .i64 0, .int .i64 0, .int .i64 0] := rfl
def MemD (w wr : World) (k : List Int) (ba : Nat) (A : List Int) : Prop :=
  Blk wr w.heap.size 22 k ∧ Blk wr (w.heap.size + 1) 35 (zeros 9) ∧ Blk wr ba 35 A ∧ w.heap.size + 1 < ba ∧ w.grownBy wr none
theorem memD_keep {w wr wr' : World} {k : List Int} {ba : Nat} {A : List Int} (h : MemD w wr k ba A) (g : wr.grownBy wr' none) : MemD w wr' k ba A :=
  ⟨h.1.keep g, h.2.1.keep g, h.2.2.1.keep g, h.2.2.2.1, grown_none h.2.2.2.2 g⟩
theorem memD_put {w wr : World} {k : List Int} {ba : Nat} {A : List Int} (h : MemD w wr k ba A) (A' : List Int) (hl : A'.length = A.length) : MemD w (putArr wr ba A') k ba A' := by
  have PU := put_arr (rs' := A') h.2.2.1 hl
  have hb := h.2.2.2.1
  exact ⟨h.1.keepBut PU.2 (by omega), h.2.1.keepBut PU.2 (by omega), PU.1, hb, grown_own h.2.2.2.2 PU.2 (by omega)⟩
theorem memD_set {w wr : World} {k : List Int} {ba : Nat} {A : List Int} (h : MemD w wr k ba A) (i : Nat) (z : Int) : MemD w (wr.setCell ⟨ba, i, none⟩ (.int .i64 z)) k ba (A.set i z) := by
  have g := grown_setCell wr ⟨ba, i, none⟩ (.int .i64 z)
  have hb := h.2.2.2.1
  exact ⟨h.1.keepBut g (by simp; omega), h.2.1.keepBut g (by simp; omega), h.2.2.1.set i z, hb, grown_own h.2.2.2.2 g (by simp; omega)⟩
theorem memD_start {w w1 : World} {k : List Int} (h : Mem2 w w1 22 35 k (zeros 9)) (L : List Int) (hL : L.length = 9) : MemD w (putArr (w1.alloc (.cells (arrI (zeros 9)) 35)) w1.heap.size L) k w1.heap.size L := by
  obtain ⟨f1, f2, f3⟩ := fresh_arr w1 35 9 L hL
  exact ⟨h.1.keep f3, h.2.1.keep f3, f2, h.2.1.lt, grown_none h.2.2 f3⟩
set_option maxRecDepth 100000 in
theorem direct_no (k : List Int) (hk : k.length = 8) (sk : steadyB k = false) (w : World) : Calls Try.prog 18 #[.agg (arrI k)] w (ArrE w (zeros 9) 2) := by
  have L0 := hide (laid2 w 22 35 k (zeros 9))
  rw [z9'] at L0
  have hbd := build9
  have SA := hide (reflections_any k hk)
  rw [sk] at SA
  go_enter Try.func18, Try.ntmps18
  go_wp2_with (refine wpList_load_arr rfl 22 _ rfl _ rfl _ L0.out.1 _ Try.underlying22 rfl (by rw [hk]; exact size8') ?_)
  refine (SA.out _).mono ?_
  rintro e w1 ⟨rfl, g1⟩
  have BB := hide (L0.out.2.1.keep g1)
  have GM := hide (grown_none L0.out.2.2 g1)
  clear L0 g1 SA
  go_wp2_with (first | refine wpList_store_arr rfl 35 _ _ rfl _ (zeros 9) (zeros 9) rfl rfl BB.out rfl (by rw [zeros_len]; exact size9') ?_)
  have PU := put_arr (rs' := zeros 9) BB.out rfl
  have hlv := loadVar_arr PU.1 _ Try.underlying35 rfl (by rw [zeros_len]; exact size9')
  have GF := hide (grown_own GM.out PU.2 (by omega))
  refine bodyPost_ret (v := .tuple #[.agg (arrI (zeros 9)), .int .i64 2]) ?_ rfl ⟨rfl, GF.out⟩
  simp [results, Try.results18, asAddr, Act.put, hlv]
set_option maxRecDepth 100000 in
theorem direct_yes (k : List Int) (hk : k.length = 8) (sk : steadyB k = true) (w : World) : Calls Try.prog 18 #[.agg (arrI k)] w (ArrE w (dirL k) (dirE k)) := by
  have L0 := hide (laid2 w 22 35 k (zeros 9))
  rw [z9'] at L0
  have SA := hide (reflections_any k hk)
  rw [sk] at SA
  have SK := hide (steady_le hk sk)
  have EL := hide (show dirL k = tab 9 (dirN (nth k)) by simp [dirL, sk])
  have EE := hide (show dirE k = 0 by simp [dirE, sk])
  have IX := hide (fun j hj => index_arr k Try.underlying22 j hj hk)
  clear sk
  go_enter Try.func18, Try.ntmps18
  go_wp2_with (refine wpList_load_arr rfl 22 _ rfl _ rfl _ L0.out.1 _ Try.underlying22 rfl (by rw [hk]; exact size8') ?_)
  refine (SA.out _).mono ?_
  rintro e w1 ⟨rfl, g1⟩
  have M1 := hide (show Mem2 w w1 22 35 k (zeros 9) from Mem2.keep L0.out g1)
  have BN := hide (Blk.new w1 35 (zeros 9))
  rw [z9'] at BN
  obtain ⟨L, hL⟩ : ∃ L, L = one9 := ⟨_, rfl⟩
  have hl : L.length = 9 := by subst hL; rfl
  have OA := hide (show arrI L = _ by subst hL; exact one9_arr)
  have MS := hide (memD_start M1.out L hl)
  rw [z9'] at MS
  have HL := hide hL
  clear L0 g1 SA M1 hL
  go_wp2_with (first | (refine wpList_store_arr rfl 35 _ _ rfl _ (zeros 9) L rfl (by rw [OA.out]; rfl) BN.out (by rw [hl, zeros_len]) (by rw [zeros_len]; exact size9') ?_; generalize putArr _ w1.heap.size L = W0 at *) | refine wpList_load_arr rfl 22 _ rfl _ rfl _ MS.out.1 _ Try.underlying22 rfl (by rw [hk]; exact size8') ?_)
  rw [HL.out, one9_tab] at MS
  clear BN OA HL
  generalize w1.heap.size = ba at *
  go_loopw [15] (fun i wr => ∃ m : Nat, i = .int .i64 m ∧ m ≤ 8 ∧ Hid (MemD w wr k ba (tab 9 (prd (nth k) m)))) (fun i _ => 8 - (intOf i).toNat)
  case atStart => exact ⟨0, rfl, Nat.zero_le _, MS.out⟩
  case round =>
    obtain ⟨m, rfl, hm, hM⟩ := hrel
    clear MS
    by_cases hm8 : m < 8
    · have ix := IX.out m (by omega)
      obtain ⟨q1, q2⟩ := SK.out m hm8
      have hlen := tab_len 9 (prd (nth k) m)
      have GR := hide (grown_any (tab 9 (prd (nth k) m)) hlen (m + 1) (by omega) (nth k m) q1 q2 (tab_wi ((prd_bd32 (nth k) SK.out m (by omega)).le (by decide)) (by decide) 9))
      rw [tab_gr _ _ (by omega)] at GR
      have EP := hide (show tab 9 (gr (prd (nth k) m) (m + 1) (nth k m)) = tab 9 (prd (nth k) (m + 1)) from rfl)
      rw [EP.out] at GR
      have hlen2 := tab_len 9 (prd (nth k) (m + 1))
      have BA := hide hM.out.2.2.1
      clear EP IX EL EE SK
      obtain ⟨A', hA'⟩ : ∃ A', A' = tab 9 (prd (nth k) (m + 1)) := ⟨_, rfl⟩
      rw [← hA'] at GR hlen2
      have HA := hide hA'
      clear hA'
      generalize tab 9 (prd (nth k) m) = A at *
      generalize hq : nth k m = q at *
      clear hq
      rw [show ((m + 1 : Nat) : Int) = (m : Int) + 1 from rfl] at GR
      go_wp2_with (refine wpList_load_arr rfl 35 _ rfl _ rfl _ BA.out _ Try.underlying35 rfl (by rw [hlen]; exact size9') ?_)
      refine (GR.out _).mono ?_
      rintro e w2 ⟨rfl, g2⟩
      have M2 := hide (memD_keep hM.out g2)
      have B2 := hide M2.out.2.2.1
      clear hM g2 BA GR
      go_wp2_with (refine wpList_store_arr rfl 35 _ _ rfl _ A A' rfl rfl B2.out (by rw [hlen, hlen2]) (by rw [hlen]; exact size9') ?_)
      have M3 := hide (memD_put M2.out A' (by rw [hlen, hlen2]))
      go_roundw
      case rel => exact ⟨m + 1, by go_num, by omega, by rw [← HA.out]; exact M3.out⟩
      case measure => simp [intOf]; omega
    · obtain rfl : m = 8 := by omega
      have hlen := tab_len 9 (prd (nth k) 8)
      have NA := hide (fun i hi => tab_nth 9 (prd (nth k) 8) i hi)
      have PB := hide (prd_bd32 (nth k) SK.out 8 (by omega))
      have DN := hide (show ∀ i, dirN (nth k) i = (prd (nth k) 8 i + 2048) / 4096 from fun i => rfl)
      have BA := hide hM.out.2.2.1
      generalize dirN (nth k) = dn at *
      generalize prd (nth k) 8 = pk at *
      generalize hA : tab 9 pk = A at *
      clear hA IX SK
      have IX := hide (fun j hj => index_arr A Try.underlying35 j hj hlen)
      go_wp2_with (refine wpList_load_arr rfl 35 _ rfl _ rfl _ BA.out _ Try.underlying35 rfl (by rw [hlen]; exact size9') ?_)
      clear BA
      go_loopw [26] (fun i wr => ∃ (m : Nat) (rs : List Int), i = .int .i64 m ∧ m ≤ 9 ∧ Hid (FillN 9 dn m rs) ∧ Hid (MemD w wr k ba rs)) (fun i _ => 9 - (intOf i).toNat)
      case atStart => exact ⟨0, A, rfl, Nat.zero_le _, ⟨hlen, fun j hj => by omega⟩, hM.out⟩
      case round =>
        obtain ⟨m, rs, rfl, hm', hF, hM'⟩ := hrel
        clear hM
        by_cases hm9 : m < 9
        · have ix := IX.out m (by omega)
          rw [NA.out m hm9] at ix
          obtain ⟨b1, b2⟩ := PB.out m
          have R := hide (rounded12 (pk m) (by omega) (by omega))
          rw [← DN.out m] at R
          have hlr : rs.length = 9 := hF.out.1
          have NF := hide (fillN_step hF.out hm9)
          have NM := hide (memD_set hM'.out m (dn m))
          have cd := hM'.out.2.2.1.cell m (by omega)
          have fd := hM'.out.2.2.1.free m
          clear hF hM' IX NA PB DN EL EE
          generalize dn m = z at *
          generalize pk m = x at *
          generalize nth rs m = y' at *
          have i1 : (m : Int) < 9 := by omega
          go_wp2_with fail
          refine (R.out _).mono ?_
          rintro e w3 ⟨rfl, rfl⟩
          clear R
          go_wp2_with fail
          go_roundw
          case rel => exact ⟨m + 1, _, by go_num, by omega, NF.out, NM.out⟩
          case measure => simp [intOf]; omega
        · obtain rfl : m = 9 := by omega
          have hlr : rs.length = 9 := hF.out.1
          have ER := hide (show rs = tab 9 dn from fillN_all hF.out)
          have BA := hide hM'.out.2.2.1
          have BB := hide hM'.out.2.1
          have GM := hide hM'.out.2.2.2.2
          clear hF hM' IX NA PB DN
          go_wp2_with (first | refine wpList_load_arr rfl 35 _ rfl _ rfl _ BA.out _ Try.underlying35 rfl (by rw [hlr]; exact size9') ?_ | refine wpList_store_arr rfl 35 _ _ rfl _ (zeros 9) rs rfl rfl BB.out (by rw [hlr, zeros_len]) (by rw [zeros_len]; exact size9') ?_)
          have PU := put_arr (rs' := rs) BB.out (by rw [hlr, zeros_len])
          have hlv := loadVar_arr PU.1 _ Try.underlying35 rfl (by rw [hlr]; exact size9')
          have GF := hide (grown_own GM.out PU.2 (by omega))
          refine bodyPost_ret (v := .tuple #[.agg (arrI rs), .int .i64 0]) ?_ rfl ?_
          · simp [results, Try.results18, asAddr, Act.put, hlv]
          · rw [EL.out, EE.out, ← ER.out]; exact ⟨rfl, GF.out⟩
theorem direct_any (k : List Int) (hk : k.length = 8) (w : World) : Calls Try.prog 18 #[.agg (arrI k)] w (ArrE w (dirL k) (dirE k)) := by
  rcases sk : steadyB k with _ | _
  · rw [show dirL k = zeros 9 by simp [dirL, sk], show dirE k = 2 by simp [dirE, sk]]
    exact direct_no k hk sk w
  · exact direct_yes k hk sk w
end Go.Proofs.Ytjepkgdejkifcaa

/- CodE -/
namespace Go.Proofs.Ytjepkgdejkifcaa
open Go.RowKit
set_option linter.unusedVariables false
set_option linter.unusedSimpArgs false
set_option maxHeartbeats 4000000
theorem make_roomE (n : Nat) (h1 : n ≤ 35184372088832) (u : World) : (Instr.makeSlice 26 (.int .i64 0) (.int .i64 n)).run Try.prog u = .ok (.slice (some ⟨u.heap.size, 0, none⟩) 0 n) (u.alloc (.cells (arrI (zeros n)) 3)) := by
  obtain ⟨i0, hi, hz0, hz1, hz2⟩ := info_parts infoI64
  have h := run_make (P := Try.prog) u 26 3 i0 (.int .i64 0) Try.underlying26 hi hz0 .i64 .i64 0 n (Int.le_refl _) (by omega) (by rw [hz2]; omega) (by omega)
  have m := made_arrI (n := n)
  rw [show zeros n = List.replicate n 0 by unfold zeros; rfl, ← m]
  simpa [hz1, Value.cells] using h
theorem own_roomE {w : World} {b base n : Nat} (h : Blk w b 3 (zeros n)) (hb : base ≤ b) (hl : n ≤ 35184372088832) : Own base w (.slice (some ⟨b, 0, none⟩) 0 n) [] :=
  ⟨by simp, .inr ⟨b, n, arrI (zeros n), rfl, hb, h, Nat.zero_le _, by unfold maxLen; omega, by simp [arrI, zeros_len], by simp⟩⟩
theorem MmS.ownC {w : World} {l : List Int} {s : Bool} {wr wr' : World} {r : Option Nat} (h : MmS w l s wr) (g : wr.grownBy wr' r) (hr : ∀ x, r = some x → w.heap.size + 1 + 1 ≤ x) : MmS w l s wr' := by
  rcases r with _ | x
  · exact h.keep g
  · have := hr x rfl
    exact ⟨h.1.keepBut g (by omega), h.2.1.keepBut g (by omega), grown_own h.2.2 g (by omega)⟩
theorem MmS.allC {w : World} {l m : List Int} {s t : Bool} {wr : World} (h : MmS w l s wr) (hl : l.length = 101) (hm : m.length = 101) : MmS w m t (putV wr w.heap.size 0 (memC m t)) ∧ wr.grownBy (putV wr w.heap.size 0 (memC m t)) (some w.heap.size) := by
  have := h.1.putAll (m := m) (t := t) hl hm
  exact ⟨⟨this.1, h.2.1.keepBut this.2 (by omega), grown_own h.2.2 this.2 (Nat.le_refl _)⟩, this.2⟩
set_option maxRecDepth 100000 in
theorem codMadeUp_any (l : List Int) (s : Bool) (hl : l.length = 101) (hg : goodM l = true) (w : World) : Calls Try.prog 9 #[memV l s] w (MmL w (eaM (eaA l) l 2) s (eaO (eaA l) l 2)) := by
  have M0 := hide (MmS.new w l s)
  have DI := hide (fun wr => direct_any (prt l 0 8) (prt_len _ _ _) wr)
  have EX := hide (fun wr => expand_any (dirL (prt l 0 8)) (dirL_len _) 32440 wr)
  rw [show expL (dirL (prt l 0 8)) 32440 = eaA l from rfl] at EX
  have ER := hide (show ∀ (k : Nat), k < 2 → ∀ wr, Calls Try.prog 20 #[memV (eaM (eaA l) l k) s, .int .i64 (k : Int)] wr (MemE wr (erM (eaM (eaA l) l k) k) s (erL (eaM (eaA l) l k) k) 0) from fun k hk wr => by
    have g := eaM_good (eaA l) l hl (eaA_wide hg) hg k (by omega)
    have n := eaM_len (eaA l) l hl k
    have o : erO (eaM (eaA l) l k) (k : Int) := ⟨g, by omega, by omega⟩
    have c := conErased_any (eaM (eaA l) l k) s (k : Int) n wr
    rw [(er_yes (s := s) o).2.1, (er_yes (s := s) o).2.2.2] at c
    exact c)
  have EN := hide (fun (k : Nat) (hk : k < 2) => show (erL (eaM (eaA l) l k) k).length = 40 by
    have g := eaM_good (eaA l) l hl (eaA_wide hg) hg k (by omega)
    rw [(er_yes (s := true) (l := eaM (eaA l) l k) (half := (k : Int)) ⟨g, by omega, by omega⟩).2.2.1, erX_len])
  have ON := hide (fun (k : Nat) (hk : k ≤ 2) => (eaO_right (eaA l) l hl (eaA_wide hg) hg k hk).1)
  have SN := hide (fun (k : Nat) (hk : k < 2) => show (souL (eaA l) (erM (eaM (eaA l) l k) k) (erL (eaM (eaA l) l k) k)).length ≤ 40 by
    have := mkL_le (eaA l) (prt (erM (eaM (eaA l) l k) k) 8 8) (erL (eaM (eaA l) l k) k)
    rw [EN.out k hk] at this
    exact this)
  have LM := hide (fun (k : Nat) => eaM_len (eaA l) l hl k)
  have LE := hide (fun (k : Nat) => erM_lenE (eaM (eaA l) l k) (eaM_len (eaA l) l hl k) (k : Int))
  have F := hide (show ∀ v' w', Own w.heap.size w' v' (eaO (eaA l) l 2) → w.grownBy w' none → MmL w (eaM (eaA l) l 2) s (eaO (eaA l) l 2) (.returned (.tuple #[memV (eaM (eaA l) l 2) s, v'])) w' from fun v' w' o q => ⟨v', rfl, o, q⟩)
  have AN := hide (show (eaA l).length = 9 from expL_len _ _)
  have DN := hide (dirL_len (prt l 0 8))
  have SP := hide (fun (k : Nat) (hk : k < 2) v wr (h : Ints wr v (erL (eaM (eaA l) l k) k)) (sh : Shp v (erL (eaM (eaA l) l k) k)) => codSpoken_any (eaA l) (erM (eaM (eaA l) l k) k) (erL (eaM (eaA l) l k) k) s AN.out (LE.out k) v wr h sh (by rw [EN.out k hk]; omega))
  have S1 := hide (fun (k : Nat) => show souM (eaA l) (erM (eaM (eaA l) l k) k) (erL (eaM (eaA l) l k) k) = eaM (eaA l) l (k + 1) from rfl)
  have S2 := hide (fun (k : Nat) => show eaO (eaA l) l k ++ souL (eaA l) (erM (eaM (eaA l) l k) k) (erL (eaM (eaA l) l k) k) = eaO (eaA l) l (k + 1) from rfl)
  have E0 := hide (show eaM (eaA l) l 0 = l from rfl)
  have E1 := hide (show eaO (eaA l) l 0 = [] from rfl)
  have HL := hide hl
  have CL := hide (memC_len hl s)
  have P0 := hide (BlkM.part (l := l) s 0 8 (by omega))
  have ZL := hide (memC_len (zeros_len 101) false)
  have hz := zero_mem
  have hmk := make_roomE 80 (by omega)
  rw [show ((80 : Nat) : Int) = 80 from rfl] at hmk
  clear hg hl
  generalize MmL w (eaM (eaA l) l 2) s (eaO (eaA l) l 2) = T at *
  unfold MmL at SP
  unfold MemE at ER
  unfold memV at hz F ER SP ⊢
  generalize eaA l = A at *
  generalize prt l 0 8 = k8 at *
  generalize dirL k8 = D at *
  generalize expE D 32440 = x1 at *
  generalize dirE k8 = x2 at *
  go_enter Try.func9, Try.ntmps9
  go_upto_region 1 with fail
  generalize (w.alloc (.cells (memC l s).toArray 25)).alloc (.cells (memC (zeros 101) false).toArray 25) = W0 at *
  clear hz
  go_wp2_with (first | refine wpList_load_v rfl 22 _ rfl w.heap.size 0 8 rfl 25 (memC l s) M0.out.1 _ Try.underlying22 rfl size8 (by rw [CL.out]; omega) _ P0.out ?_)
  refine (DI.out W0).mono ?_
  rintro e W1 ⟨rfl, g1⟩
  obtain ⟨b1, b2, b3⟩ := fresh_arr W1 35 9 D DN.out
  have B1 := hide b1
  have B2 := hide b2
  have M2 := hide ((M0.out.keep g1).keep b3)
  have NB := hide (show w.heap.size + 1 + 1 ≤ W1.heap.size from (M0.out.keep g1).2.1.lt)
  rw [z9'] at B1 B2 M2
  clear g1 b1 b2 b3 M0 DI P0
  go_upto_region 2 with (first | refine wpList_store_arr rfl 35 _ _ rfl _ (zeros 9) D rfl rfl B1.out (by rw [DN.out, zeros_len]) (by rw [zeros_len]; exact size9') ?_)
  (try simp only [Act.put])
  clear B1
  generalize putArr _ W1.heap.size D = W2 at *
  generalize W1.heap.size = ba at *
  go_wp2_with (first | refine wpList_load_arr rfl 35 _ rfl _ rfl _ B2.out _ Try.underlying35 rfl (by rw [DN.out]; exact size9') ?_)
  refine (EX.out W2).mono ?_
  rintro e W3 ⟨rfl, g3⟩
  have B3 := hide (B2.out.keep g3)
  have PU := put_arr (rs' := A) B3.out (by rw [AN.out, DN.out])
  have M3 := hide (M2.out.keep g3)
  have M4 := hide (M3.out.ownC PU.2 (fun x e => by cases e; exact NB.out))
  have B4 := hide PU.1
  clear g3 EX M2 B2 PU M3
  go_upto_region 3 with (first | refine wpList_store_arr rfl 35 _ _ rfl _ D A rfl rfl B3.out (by rw [AN.out, DN.out]) (by rw [DN.out]; exact size9') ?_)
  (try simp only [Act.put])
  clear B3
  generalize putArr W3 ba A = W4 at *
  have N4 := hide (show ba + 1 ≤ W4.heap.size from B4.out.lt)
  have OZ := hide (own_roomE (base := ba + 1) (n := 80) (Blk.new W4 3 (zeros 80)) N4.out (by omega))
  have GZ := grown_alloc W4 (.cells (arrI (zeros 80)) 3) none
  have M5 := hide (M4.out.keep GZ)
  have B5 := hide (B4.out.keep GZ)
  have N5 := hide (Nat.le_trans N4.out GZ.size)
  clear GZ M4 B4 N4
  go_upto_region 4 with fail
  clear hmk
  generalize W4.alloc (.cells (arrI (zeros 80)) 3) = W5 at *
  generalize W4.heap.size = bo at *
  go_wp2_with fail
  go_loopw [6, 22] (fun va i wr => ∃ k : Nat, i = .int .i64 (k : Int) ∧ k ≤ 2 ∧ Hid (Own (ba + 1) wr va (eaO A l k)) ∧ Hid (MmS w (eaM A l k) s wr) ∧ Hid (Blk wr ba 35 A) ∧ Hid (ba + 1 ≤ wr.heap.size)) (fun _ i _ => 2 - (intOf i).toNat)
  case atStart => exact ⟨0, rfl, Nat.zero_le _, by rw [E1.out]; exact OZ.out, by rw [E0.out]; exact M5.out, B5.out, N5.out⟩
  case round =>
    obtain ⟨k, rfl, hk, hO, hM, hB, hN⟩ := hrel
    clear M5 B5 N5 OZ
    by_cases hkl : k < 2
    · have hk2 : (k : Int) < 2 := by omega
      have A1 := hide (BlkM.all s (LM.out k))
      have C1 := hide (memC_len (LM.out k) s)
      have ER1 := hide (ER.out k hkl wr)
      have L1 := hide (LM.out k)
      have L2 := hide (LE.out k)
      have L3 := hide (LM.out (k + 1))
      have Q1 := hide (S1.out k)
      have Q2 := hide (S2.out k)
      have OL := hide (ON.out k hk)
      have SL := hide (SN.out k hkl)
      have SP1 := hide (SP.out k hkl)
      rw [Q1.out] at SP1
      clear ER F LM LE S1 S2 ON SN SP EN E0 E1 Q1
      generalize souL A (erM (eaM A l k) k) (erL (eaM A l k) k) = LX at *
      generalize erL (eaM A l k) k = X at *
      generalize erM (eaM A l k) k = m1 at *
      generalize eaM A l k = m0 at *
      generalize hm2 : eaM A l (k + 1) = m2 at *
      have E2 := hide hm2
      clear hm2
      go_upto_region 8 with fail
      go_wp2_with (first | refine wpList_load_v rfl 25 _ rfl w.heap.size 0 102 rfl 25 (memC m0 s) hM.out.1 _ Try.underlying25 rfl size102 (by rw [C1.out]; omega) _ A1.out ?_)
      refine ER1.out.mono ?_
      rintro e w2 ⟨v2, rfl, o2, g2⟩
      have O2 := hide (hO.out.keep g2)
      have M2 := hide (hM.out.keep g2)
      have B2 := hide (hB.out.keep g2)
      have N2 := hide (Nat.le_trans hN.out g2.size)
      have X2 := hide (o2.base hN.out)
      clear hO hM hB hN g2 o2 ER1 A1
      have MA := M2.out.allC (m := m1) (t := s) L1.out L2.out
      have M3 := hide MA.1
      have O3 := hide (O2.out.keepLt MA.2 (by have := NB.out; omega))
      have X3 := hide (X2.out.keepLt MA.2 (by have := NB.out; omega))
      have B3 := hide (B2.out.keepBut MA.2 (by have := NB.out; omega))
      have N3 := hide (Nat.le_trans N2.out MA.2.size)
      have IO := hide (memC_one m1 s)
      have C2 := hide (memC_len L2.out s)
      clear MA O2 X2 B2 N2
      go_upto_region 9 with (first | refine wpList_store_v rfl 25 _ _ rfl w.heap.size 0 25 (memC m0 s) (memC m1 s) rfl rfl M2.out.1 (by rw [C1.out, C2.out]; omega) (by rw [C2.out]; exact size102) IO.out ?_)
      (try simp only [Act.put])
      clear M2 IO C1
      generalize putV w2 w.heap.size 0 (memC m1 s) = w3 at *
      have A2 := hide (BlkM.all s L2.out)
      have SP2 := hide (SP1.out v2 w3 X3.out.ints X3.out.shp)
      clear SP1 X3
      go_wp2_with (first | refine wpList_load_arr rfl 35 _ rfl _ rfl _ B3.out _ Try.underlying35 rfl (by rw [AN.out]; exact size9') ?_ | refine wpList_load_v rfl 25 _ rfl w.heap.size 0 102 rfl 25 (memC m1 s) M3.out.1 _ Try.underlying25 rfl size102 (by rw [C2.out]; omega) _ A2.out ?_)
      refine SP2.out.mono ?_
      rintro e w4 ⟨v4, rfl, o4, g4⟩
      have O4 := hide (O3.out.keep g4)
      have M4 := hide (M3.out.keep g4)
      have B4 := hide (B3.out.keep g4)
      have N4 := hide (Nat.le_trans N3.out g4.size)
      have X4 := hide (o4.base N3.out)
      clear O3 M3 B3 N3 g4 o4 SP2 A2
      have MA := M4.out.allC (m := m2) (t := s) L2.out L3.out
      have M5 := hide MA.1
      have O5 := hide (O4.out.keepLt MA.2 (by have := NB.out; omega))
      have X5 := hide (X4.out.keepLt MA.2 (by have := NB.out; omega))
      have B5 := hide (B4.out.keepBut MA.2 (by have := NB.out; omega))
      have N5 := hide (Nat.le_trans N4.out MA.2.size)
      have IO := hide (memC_one m2 s)
      have C3 := hide (memC_len L3.out s)
      clear MA O4 X4 B4 N4
      go_upto_region 10 with (first | refine wpList_store_v rfl 25 _ _ rfl w.heap.size 0 25 (memC m1 s) (memC m2 s) rfl rfl M4.out.1 (by rw [C2.out, C3.out]; omega) (by rw [C3.out]; exact size102) IO.out ?_)
      (try simp only [Act.put])
      clear M4 IO C2 C3
      generalize putV w4 w.heap.size 0 (memC m2 s) = w5 at *
      have LB := hide (show ((eaO A l k).length + LX.length) * 8 ≤ 140737488355328 by rw [OL.out]; have := SL.out; omega)
      have XI := hide X5.out.ints
      have XS := hide X5.out.shp
      go_wp2_with (at_builtin; refine wpList_append_both (by rfl) _ _ rfl (ba + 1) _ v4 (eaO A l k) LX rfl rfl O5.out XI.out XS.out LB.out N5.out ?_)
      intro v6 w6 h6 g6
      rw [Q2.out] at h6
      have O6 := hide h6
      have M6 := hide (M5.out.ownC g6 (fun x e => by have := (O5.out.lt x e).1; have := NB.out; omega))
      have B6 := hide (BlkV.toBlk (BlkV.own (BlkV.ofBlk B5.out) g6 (fun x e => by have := (O5.out.lt x e).1; omega)))
      have N6 := hide (Nat.le_trans N5.out g6.size)
      clear h6 g6 O5 M5 B5 N5 X5 Q2 XI XS
      go_wp2_with fail
      go_roundw
      case rel => exact ⟨k + 1, by go_num, by omega, O6.out, by rw [E2.out]; exact M6.out, B6.out, N6.out⟩
      case measure => simp [intOf]; omega
    · obtain rfl : k = 2 := by omega
      have A1 := hide (BlkM.all s (LM.out 2))
      have C1 := hide (memC_len (LM.out 2) s)
      have IO := hide (memC_one (eaM A l 2) s)
      have PB := hide (hM.out.fin (eaM A l 2) s (LM.out 2))
      have O6 := hide (hO.out.keepLt (hM.out.2.1.putAll (m := eaM A l 2) (t := s) (zeros_len 101) (LM.out 2)).2 (by have := NB.out; omega))
      have FF := hide (F.out _ _ (O6.out.base (b' := w.heap.size) (by have := NB.out; omega)) PB.out.2)
      clear F O6 ER SP
      generalize eaM A l 2 = m at *
      generalize eaO A l 2 = L at *
      go_wp2_with (first | refine wpList_load_v rfl 25 _ rfl w.heap.size 0 102 rfl 25 (memC m s) hM.out.1 _ Try.underlying25 rfl size102 (by rw [C1.out]; omega) _ A1.out ?_ | refine wpList_store_v rfl 25 _ _ rfl (w.heap.size + 1) 0 25 (memC (zeros 101) false) (memC m s) rfl rfl hM.out.2.1 (by rw [ZL.out, C1.out]; omega) (by rw [C1.out]; exact size102) IO.out ?_)
      have hlv := loadVar_v PB.out.1 _ Try.underlying25 rfl (by rw [C1.out]; exact size102)
      refine bodyPost_ret (v := .tuple #[.agg (memC m s).toArray, _]) ?_ rfl FF.out
      simp [results, Try.results9, asAddr, Act.put, hlv]
set_option maxRecDepth 100000 in
theorem codErase_no (l : List Int) (s : Bool) (hl : l.length = 101) (hg : goodM l = false) (w : World) : Calls Try.prog 4 #[memV l s] w (MemE w (ersM l) (ersS l s) (ersL l) (ersE l)) := by
  have M0 := hide (MmS.new w l s)
  have GD := hide (fun wr => conGood_any l s hl wr)
  rw [hg] at GD
  have F := hide (show ∀ w', w.grownBy w' none → MemE w (ersM l) (ersS l s) (ersL l) (ersE l) (.returned (.tuple #[memV (zeros 101) false, .slice none 0 0, .int .i64 2])) w' from fun w' q => ⟨_, by rw [(ers_no (s := s) hg).1, (ers_no (s := s) hg).2.1, (ers_no (s := s) hg).2.2.2], by rw [(ers_no (s := s) hg).2.2.1]; exact Own_nil _ _, q⟩)
  have CL := hide (memC_len hl s)
  have AL := hide (BlkM.all s hl)
  have ZL := hide (memC_len (zeros_len 101) false)
  have ZO := hide (memC_one (zeros 101) false)
  have hz := zero_mem
  have ZB := hide (fun wr (h : MmS w l s wr) => h.fin (zeros 101) false (zeros_len 101))
  clear hg
  generalize MemE w (ersM l) (ersS l s) (ersL l) (ersE l) = T at *
  unfold memV at hz F GD ⊢
  go_enter Try.func4, Try.ntmps4
  go_upto_region 1 with fail
  generalize (w.alloc (.cells (memC l s).toArray 25)).alloc (.cells (memC (zeros 101) false).toArray 25) = W0 at *
  go_wp2_with (refine wpList_load_v rfl 25 _ rfl w.heap.size 0 102 rfl 25 (memC l s) M0.out.1 _ Try.underlying25 rfl size102 (by rw [CL.out]; omega) _ AL.out ?_)
  refine (GD.out W0).mono ?_
  rintro e W1 ⟨rfl, g1⟩
  have M1 := hide (M0.out.keep g1)
  have PB := hide (ZB.out W1 M1.out)
  have FF := hide (F.out _ PB.out.2)
  clear M0 g1 GD ZB F
  go_wp2_with (first | refine wpList_store_v rfl 25 _ _ rfl (w.heap.size + 1) 0 25 (memC (zeros 101) false) (memC (zeros 101) false) rfl rfl M1.out.2.1 (by rw [ZL.out]; omega) (by rw [ZL.out]; exact size102) ZO.out ?_)
  have hlv := loadVar_v PB.out.1 _ Try.underlying25 rfl (by rw [ZL.out]; exact size102)
  refine bodyPost_ret (v := .tuple #[.agg (memC (zeros 101) false).toArray, .slice none 0 0, .int .i64 2]) ?_ rfl FF.out
  simp [results, Try.results4, asAddr, Act.put, hlv]
set_option maxRecDepth 100000 in
theorem codErase_yes (l : List Int) (s : Bool) (hl : l.length = 101) (hg : goodM l = true) (w : World) : Calls Try.prog 4 #[memV l s] w (MemE w (ersM l) (ersS l s) (ersL l) (ersE l)) := by
  have M0 := hide (MmS.new w l s)
  have GD := hide (fun wr => conGood_any l s hl wr)
  rw [hg] at GD
  have MU := hide (fun wr => codMadeUp_any l s hl hg wr)
  have ML := hide (eaM_len (eaA l) l hl 2)
  have F := hide (show ∀ v' w', Own w.heap.size w' v' (eaO (eaA l) l 2) → w.grownBy w' none → MemE w (ersM l) (ersS l s) (ersL l) (ersE l) (.returned (.tuple #[memV (eaM (eaA l) l 2) s, v', .int .i64 0])) w' from fun v' w' o q =>
    ⟨v', by rw [(ers_yes (s := s) hg).1, (ers_yes (s := s) hg).2.1, (ers_yes (s := s) hg).2.2.2], by rw [(ers_yes (s := s) hg).2.2.1]; exact o, q⟩)
  have HL := hide hl
  have CL := hide (memC_len hl s)
  have AL := hide (BlkM.all s hl)
  have ZL := hide (memC_len (zeros_len 101) false)
  have hz := zero_mem
  clear hg hl
  generalize MemE w (ersM l) (ersS l s) (ersL l) (ersE l) = T at *
  generalize eaM (eaA l) l 2 = m at *
  generalize eaO (eaA l) l 2 = L at *
  unfold MmL at MU
  unfold memV at hz F GD MU ⊢
  go_enter Try.func4, Try.ntmps4
  go_upto_region 1 with fail
  generalize (w.alloc (.cells (memC l s).toArray 25)).alloc (.cells (memC (zeros 101) false).toArray 25) = W0 at *
  clear hz
  go_wp2_with (refine wpList_load_v rfl 25 _ rfl w.heap.size 0 102 rfl 25 (memC l s) M0.out.1 _ Try.underlying25 rfl size102 (by rw [CL.out]; omega) _ AL.out ?_)
  refine (GD.out W0).mono ?_
  rintro e W1 ⟨rfl, g1⟩
  have M1 := hide (M0.out.keep g1)
  clear M0 g1 GD
  go_wp2_with (refine wpList_load_v rfl 25 _ rfl w.heap.size 0 102 rfl 25 (memC l s) M1.out.1 _ Try.underlying25 rfl size102 (by rw [CL.out]; omega) _ AL.out ?_)
  refine (MU.out W1).mono ?_
  rintro e W2 ⟨v2, rfl, o2, g2⟩
  have M2 := hide (M1.out.keep g2)
  have O2 := hide (o2.base (b' := w.heap.size + 1 + 1) (show w.heap.size + 1 + 1 ≤ W1.heap.size from M1.out.2.1.lt))
  have MA := M2.out.allC (m := m) (t := s) HL.out ML.out
  have M3 := hide MA.1
  have O3 := hide (O2.out.keepLt MA.2 (by omega))
  have IO := hide (memC_one m s)
  have CM := hide (memC_len ML.out s)
  clear g2 o2 M1 O2 MA MU
  go_upto_region 4 with (first | refine wpList_store_v rfl 25 _ _ rfl w.heap.size 0 25 (memC l s) (memC m s) rfl rfl M2.out.1 (by rw [CM.out, CL.out]; omega) (by rw [CM.out]; exact size102) IO.out ?_)
  (try simp only [Act.put])
  clear M2
  generalize putV W2 w.heap.size 0 (memC m s) = W3 at *
  have A3 := hide (BlkM.all s ML.out)
  have PB := hide (M3.out.fin m s ML.out)
  have O6 := hide (O3.out.keepLt (M3.out.2.1.putAll (m := m) (t := s) (zeros_len 101) ML.out).2 (by omega))
  have FF := hide (F.out _ _ (O6.out.base (b' := w.heap.size) (by omega)) PB.out.2)
  clear F O3 O6
  go_wp2_with (first | refine wpList_load_v rfl 25 _ rfl w.heap.size 0 102 rfl 25 (memC m s) M3.out.1 _ Try.underlying25 rfl size102 (by rw [CM.out]; omega) _ A3.out ?_ | refine wpList_store_v rfl 25 _ _ rfl (w.heap.size + 1) 0 25 (memC (zeros 101) false) (memC m s) rfl rfl M3.out.2.1 (by rw [ZL.out, CM.out]; omega) (by rw [CM.out]; exact size102) IO.out ?_)
  have hlv := loadVar_v PB.out.1 _ Try.underlying25 rfl (by rw [CM.out]; exact size102)
  refine bodyPost_ret (v := .tuple #[.agg (memC m s).toArray, _, .int .i64 0]) ?_ rfl FF.out
  simp [results, Try.results4, asAddr, Act.put, hlv]
theorem codErase_any (l : List Int) (s : Bool) (hl : l.length = 101) (w : World) : Calls Try.prog 4 #[memV l s] w (MemE w (ersM l) (ersS l s) (ersL l) (ersE l)) := by
  rcases hg : goodM l with _ | _
  · exact codErase_no l s hl hg w
  · exact codErase_yes l s hl hg w
end Go.Proofs.Ytjepkgdejkifcaa

/- RefMemA -/
namespace Go.Proofs.Ytjepkgdejkifcaa
open Go.RowKit
set_option linter.unusedVariables false
set_option linter.unusedSimpArgs false
set_option maxHeartbeats 2000000
theorem inB_lag (x : Int) (h0 : -9223372036854775808 ≤ x) (h1 : x ≤ 9223372036854775807) : (0 ≤ wrap64 (x - 20) ∧ wrap64 (x - 20) ≤ 59) ↔ (20 ≤ x ∧ x ≤ 79) := by
  simp only [wrap64]
  omega
theorem refIn_yes (x m : Int) (h : 0 ≤ x ∧ x ≤ m) (w : World) : Calls Try.prog 22 #[.int .i64 x, .int .i64 m] w fun e w' => e = .returned (.bool true) ∧ w' = w := by
  obtain ⟨h1, h2⟩ := h
  go_enter Try.func22, Try.ntmps22
  go_wp2
  go_ret
  exact ⟨rfl, rfl⟩
theorem refIn_no (x m : Int) (h : ¬ (0 ≤ x ∧ x ≤ m)) (w : World) : Calls Try.prog 22 #[.int .i64 x, .int .i64 m] w fun e w' => e = .returned (.bool false) ∧ w' = w := by
  by_cases h1 : 0 ≤ x
  · have h2 : ¬ x ≤ m := by omega
    clear h
    go_enter Try.func22, Try.ntmps22
    go_wp2
    go_ret
    exact ⟨rfl, rfl⟩
  · clear h
    go_enter Try.func22, Try.ntmps22
    go_wp2
    go_ret
    exact ⟨rfl, rfl⟩
set_option maxRecDepth 100000 in
theorem refGoodM_any (l : List Int) (s : Bool) (hl : l.length = 101) (h64 : In64 l) (w : World) : Calls Try.prog 10 #[memV l s] w (AnsC w (.bool (goodM l))) := by
  have B0 := hide (BlkM.new w l s)
  have G0 := hide (grown_alloc w (.cells (memC l s).toArray 25) none)
  have HL := hide hl
  have H64 := hide h64
  have PT := hide (goodM_parts l)
  have RI := hide (reflB_iff l)
  obtain ⟨T, hT⟩ : ∃ T : Ending → World → Prop, AnsC w (.bool (goodM l)) = T := ⟨_, rfl⟩
  rw [hT]
  have FN := hide (fun (h : ¬ goodM l = true) w' (g : w.grownBy w' none) => (show T (.returned (.bool false)) w' from by rw [← hT]; exact ⟨by rw [show goodM l = false by simpa using h], g⟩))
  have FY := hide (fun (h : goodM l = true) w' (g : w.grownBy w' none) => (show T (.returned (.bool true)) w' from by rw [← hT]; exact ⟨by rw [h], g⟩))
  clear hT hl h64
  unfold memV
  have IX := hide (fun (m : Nat) (hm : m < 8) (u : World) => index_arr (T := 22) (prt l 0 8) Try.underlying22 m (by rw [prt_len]; omega) (prt_len _ _ _) u)
  generalize hcs : memC l s = cs at *
  have HCS := hide hcs
  clear hcs
  go_enter Try.func10, Try.ntmps10
  go_upto_region 1 with fail
  generalize w.alloc (.cells cs.toArray 25) = W0 at *
  have P8 := hide (show (cs.drop 0).take 8 = intsV (prt l 0 8) by rw [← HCS.out]; exact BlkM.part s 0 8 (by rw [HL.out]; omega))
  have CL := hide (show cs.length = 102 by rw [← HCS.out]; exact memC_len HL.out s)
  have BV := hide (show BlkV W0 w.heap.size 25 cs by rw [← HCS.out]; exact B0.out)
  go_wp2_with (refine wpList_load_v rfl 22 _ rfl w.heap.size 0 8 rfl 25 cs BV.out _ Try.underlying22 rfl size8 (by rw [CL.out]; omega) _ P8.out ?_)
  rw [show Value.agg (intsV (prt l 0 8)).toArray = .agg (arrI (prt l 0 8)) from rfl]
  clear P8 BV CL
  generalize Value.agg (arrI (prt l 0 8)) = AV at *
  go_loopw [8] (fun i wr => ∃ m : Nat, i = .int .i64 (m : Int) ∧ m ≤ 8 ∧ Hid (∀ j, j < m → -31000 ≤ nth l j ∧ nth l j ≤ 31000) ∧ wr = W0) (fun i _ => 8 - (intOf i).toNat)
  case atStart => exact ⟨0, rfl, Nat.zero_le _, fun j hj => by omega, rfl⟩
  case round =>
    obtain ⟨m, rfl, hm, hA, rfl⟩ := hrel
    by_cases hm8 : m < 8
    · have i1 : (m : Int) < 8 := by omega
      have ix := IX.out m hm8
      rw [prt_nth _ _ _ _ hm8, Nat.zero_add] at ix
      have NO := hide (fun (h : ¬ (-31000 ≤ nth l m ∧ nth l m ≤ 31000)) => (show ¬ goodM l = true from fun q => h ((RI.out.1 (PT.out.1 q).1) m hm8)))
      have YES := hide (fun (h : -31000 ≤ nth l m ∧ nth l m ≤ 31000) => (show ∀ j, j < m + 1 → -31000 ≤ nth l j ∧ nth l j ≤ 31000 from fun j hj => by
        by_cases e : j = m
        · subst e; exact h
        · exact hA.out j (by omega)))
      clear IX hA RI PT
      generalize nth l m = x at *
      by_cases hx : 31000 < x
      · have F := hide (FN.out (NO.out (by omega)) _ G0.out)
        clear NO YES FN FY
        go_wp2_with fail
        exact F.out
      · by_cases hy : x < -31000
        · have F := hide (FN.out (NO.out (by omega)) _ G0.out)
          clear NO YES FN FY
          go_wp2_with fail
          exact F.out
        · have NA := hide (YES.out (by omega))
          clear NO YES
          go_wp2_with fail
          go_roundw
          case rel => exact ⟨m + 1, by go_num, by omega, NA.out, trivial⟩
          case measure => first | (simp [intOf]; done) | (simp [intOf]; omega)
    · obtain rfl : m = 8 := by omega
      rw [show ((8 : Nat) : Int) = 8 from rfl]
      have RB := hide (RI.out.2 hA.out)
      clear IX hA RI
      have c98 := B0.out.cell 98 (by rw [HL.out]; omega)
      have c100 := B0.out.cell 100 (by rw [HL.out]; omega)
      have c96 := B0.out.cell 96 (by rw [HL.out]; omega)
      have c97 := B0.out.cell 97 (by rw [HL.out]; omega)
      have c99 := B0.out.cell 99 (by rw [HL.out]; omega)
      have IP := hide (B0.out.ints 8 8 8 (by rw [HL.out]; omega) (by omega))
      have IE := hide (B0.out.ints 16 80 80 (by rw [HL.out]; omega) (by omega))
      have LG := hide (inB_lag (nth l 98) (H64.out 98).1 (H64.out 98).2)
      clear B0
      go_wp2_with fail
      refine (refRight_any _ (prt l 8 8) _ IP.out (by rw [prt_len]; omega)).mono ?_
      rintro e w0 ⟨rfl, rfl⟩
      rcases hb0 : rightB (prt l 8 8) with _ | _
      · have F := hide (FN.out (fun q => by have := (PT.out.1 q).2.1; rw [hb0] at this; cases this) _ G0.out)
        clear FN FY
        go_wp2_with fail
        exact F.out
      go_wp2_with fail
      refine (refRight_any _ (prt l 16 80) _ IE.out (by rw [prt_len]; omega)).mono ?_
      rintro e w1 ⟨rfl, rfl⟩
      rcases hb1 : rightB (prt l 16 80) with _ | _
      · have F := hide (FN.out (fun q => by have := (PT.out.1 q).2.2.1; rw [hb1] at this; cases this) _ G0.out)
        clear FN FY
        go_wp2_with fail
        exact F.out
      go_wp2_with fail
      by_cases hb2 : 0 ≤ wrap64 (nth l 98 - 20) ∧ wrap64 (nth l 98 - 20) ≤ 59
      rotate_left
      · refine (refIn_no _ _ hb2 _).mono ?_
        rintro e w2 ⟨rfl, rfl⟩
        have F := hide (FN.out (fun q => hb2 (LG.out.2 (PT.out.1 q).2.2.2.2.2.1)) _ G0.out)
        clear FN FY
        go_wp2_with fail
        exact F.out
      refine (refIn_yes _ _ hb2 _).mono ?_
      rintro e w2 ⟨rfl, rfl⟩
      go_wp2_with fail
      by_cases hb3 : 0 ≤ nth l 100 ∧ nth l 100 ≤ 65535
      rotate_left
      · refine (refIn_no _ _ hb3 _).mono ?_
        rintro e w3 ⟨rfl, rfl⟩
        have F := hide (FN.out (fun q => hb3 (PT.out.1 q).2.2.2.2.2.2.2) _ G0.out)
        clear FN FY
        go_wp2_with fail
        exact F.out
      refine (refIn_yes _ _ hb3 _).mono ?_
      rintro e w3 ⟨rfl, rfl⟩
      go_wp2_with fail
      by_cases hb4 : 0 ≤ nth l 96 ∧ nth l 96 ≤ 32767
      rotate_left
      · refine (refIn_no _ _ hb4 _).mono ?_
        rintro e w4 ⟨rfl, rfl⟩
        have F := hide (FN.out (fun q => hb4 (PT.out.1 q).2.2.2.1) _ G0.out)
        clear FN FY
        go_wp2_with fail
        exact F.out
      refine (refIn_yes _ _ hb4 _).mono ?_
      rintro e w4 ⟨rfl, rfl⟩
      go_wp2_with fail
      by_cases hb5 : 0 ≤ nth l 97 ∧ nth l 97 ≤ 18022
      rotate_left
      · refine (refIn_no _ _ hb5 _).mono ?_
        rintro e w5 ⟨rfl, rfl⟩
        have F := hide (FN.out (fun q => hb5 (PT.out.1 q).2.2.2.2.1) _ G0.out)
        clear FN FY
        go_wp2_with fail
        exact F.out
      refine (refIn_yes _ _ hb5 _).mono ?_
      rintro e w5 ⟨rfl, rfl⟩
      go_wp2_with fail
      by_cases hb6 : 0 ≤ nth l 99 ∧ nth l 99 ≤ 6
      rotate_left
      · refine (refIn_no _ _ hb6 _).mono ?_
        rintro e w6 ⟨rfl, rfl⟩
        have F := hide (FN.out (fun q => hb6 (PT.out.1 q).2.2.2.2.2.2.1) _ G0.out)
        clear FN FY
        go_wp2_with fail
        exact F.out
      refine (refIn_yes _ _ hb6 _).mono ?_
      rintro e w6 ⟨rfl, rfl⟩
      have F := hide (FY.out (PT.out.2 ⟨RB.out, hb0, hb1, hb4, hb5, LG.out.1 hb2, hb6, hb3⟩) _ G0.out)
      clear FN FY
      go_wp2_with fail
      exact F.out
theorem run_build_fresh (w : World) : Sem.run Try.prog (Instr.build 25 #[(5, .int .i64 20), (7, .int .i64 21845)]) w = .ok (memV freL false) w := by kernel_rfl
theorem wpList_build_fresh {ops : Array Oper} {rest : List Oper} {op : Oper} {a : Act} {w : World} {Q : Exit → Act → World → Prop} (hgd : op.guard = none) (x y : Operand) (ho : op.op = .build 25 #[(5, x), (7, y)]) (hx : a.eval x = .int .i64 20) (hy : a.eval y = .int .i64 21845)
    (k : wpList Try.prog ops Q rest (a.put op.dst (memV freL false)) w) : wpList Try.prog ops Q (op :: rest) a w := by
  refine wpList_plain hgd fun _ hK => ?_
  unfold Oper.wp execOp
  have e : (#[(5, x), (7, y)] : Array (Nat × Operand)).map (fun (i, x) => (i, a.eval x)) = #[(5, .int .i64 20), (7, .int .i64 21845)] := by simp [hx, hy]
  simp only [ho, e, Sem.run_bind, run_build_fresh, Result.andThen_ok, Sem.run_pure]
  exact hK _ _ k
theorem refFresh_any (w : World) : Calls Try.prog 6 #[] w (AnsC w (memV freL false)) := by
  have B0 := hide (BlkM.new w (zeros 101) false)
  have PU := B0.out.putAll (m := freL) (t := false) (zeros_len 101) freL_len
  have PB := hide PU.1
  have PG := hide (grown_own (grown_alloc w (.cells (memC (zeros 101) false).toArray 25) none) PU.2 (Nat.le_refl _))
  have S1 := hide (show (memC freL false).length = 102 from memC_len freL_len false)
  have S0 := hide (show (memC (zeros 101) false).length = 102 from memC_len (zeros_len 101) false)
  have O1 := hide (memC_one freL false)
  have hz := zero_mem
  have F := hide (show AnsC w (memV freL false) (.returned (memV freL false)) (putV (w.alloc (.cells (memC (zeros 101) false).toArray 25)) w.heap.size 0 (memC freL false)) from ⟨rfl, PG.out⟩)
  clear PU PG
  generalize AnsC w (memV freL false) = T at *
  have BF := hide (fun ops rest op a w Q => @wpList_build_fresh ops rest op a w Q)
  unfold memV at hz F BF
  unfold BlkM at B0 PB
  generalize memC (zeros 101) false = Z at *
  generalize memC freL false = M at *
  go_enter Try.func6, Try.ntmps6
  go_wp2_with (first | refine BF.out _ _ _ _ _ _ rfl _ _ rfl rfl rfl ?_ | refine wpList_store_v rfl 25 _ _ rfl w.heap.size 0 25 Z M rfl rfl B0.out (by rw [S0.out, S1.out]; omega) (by rw [S1.out]; exact size102) O1.out ?_)
  have hlv := loadVar_v PB.out _ Try.underlying25 rfl (by rw [S1.out]; exact size102)
  refine bodyPost_ret (v := .agg M.toArray) ?_ rfl F.out
  simp [results, Try.results6, asAddr, Act.put, hlv]
end Go.Proofs.Ytjepkgdejkifcaa

/- BigM -/
namespace Go.Proofs.Ytjepkgdejkifcaa
open Go.RowKit
set_option linter.unusedVariables false
set_option maxHeartbeats 2000000
def MulAt (a b : List Int) (i : Nat) (rs : List Int) : Prop :=
  rs.length = a.length + b.length ∧ WF rs ∧ valTo rs (i + b.length) = valTo a i * val b ∧ ∀ k, i + b.length ≤ k → nth rs k = 0
def MulIn (a b : List Int) (i j : Nat) (c : Int) (R rs : List Int) : Prop :=
  rs.length = a.length + b.length ∧ WF rs ∧ 0 ≤ c ∧ c < 4294967296 ∧ valTo rs (i + j) + c * P (i + j) = valTo R (i + j) + nth a i * P i * valTo b j ∧ ∀ k, i + j ≤ k → nth rs k = nth R k
theorem mul_start (a b : List Int) : MulAt a b 0 (List.replicate (a.length + b.length) 0) :=
  ⟨by simp, WF_zeros _, by rw [valTo_zeros]; simp [valTo], fun k _ => getD_zeros _ _⟩
theorem mulIn_start (a b : List Int) (i : Nat) (R : List Int) (h : MulAt a b i R) : MulIn a b i 0 0 R R :=
  ⟨h.1, h.2.1, by omega, by omega, by simp [valTo], fun k _ => rfl⟩
theorem mul_bd (x y : Int) (hx : 0 ≤ x) (hx' : x < 4294967296) (hy : 0 ≤ y) (hy' : y < 4294967296) : 0 ≤ x * y ∧ x * y ≤ 18446744065119617025 :=
  ⟨Int.mul_nonneg hx hy, Int.mul_le_mul (a := x) (b := y) (c := 4294967295) (d := 4294967295) (by omega) (by omega) hy (by omega)⟩
theorem mulIn_round (a b : List Int) (i j : Nat) (c d : Int) (R rs : List Int) (wa : WF a) (wb : WF b) (hi : i < a.length) (hj : j < b.length) (h : MulIn a b i j c R rs) (hd : d = c + (nth a i * nth b j + nth rs (i + j))) :
    MulIn a b i (j + 1) (d / 4294967296) R (rs.set (i + j) (d % 4294967296)) := by
  obtain ⟨h1, h2, h3, h4, h5, h6⟩ := h
  obtain ⟨m1, m2⟩ := mul_bd (nth a i) (nth b j) (wa i).1 (wa i).2 (wb j).1 (wb j).2
  have x3 := h2 (i + j)
  have nn : ∀ k, nth (rs.set (i + j) (d % 4294967296)) k = if k = i + j then d % 4294967296 else nth rs k := fun k => set_getD _ _ _ _ (by omega)
  refine ⟨by simp; omega, WF_set _ _ _ h2 (by omega) (by omega) (by omega), by omega, by omega, ?_, fun k hk => by rw [nn, if_neg (by omega)]; exact h6 k (by omega)⟩
  rw [show i + (j + 1) = i + j + 1 by omega, valTo, nn, if_pos rfl, valTo_congr _ rs (i + j) (fun k hk => by rw [nn, if_neg (by omega)]), P_succ]
  have e1 : valTo R (i + j + 1) = valTo R (i + j) + nth rs (i + j) * P (i + j) := by rw [valTo, h6 (i + j) (by omega)]
  have e2 : nth a i * P i * valTo b (j + 1) = nth a i * P i * valTo b j + nth a i * nth b j * P (i + j) := by
    rw [valTo, Int.mul_add, P_add]
    congr 1
    rw [Int.mul_assoc, Int.mul_assoc, Int.mul_left_comm (P i)]
  rw [e1, e2]
  have e3 : d = d % 4294967296 + 4294967296 * (d / 4294967296) := (Int.emod_add_mul_ediv d 4294967296).symm
  have e4 : d * P (i + j) = d % 4294967296 * P (i + j) + d / 4294967296 * (P (i + j) * 4294967296) := by
    conv => lhs; rw [e3]
    rw [Int.add_mul, Int.mul_comm 4294967296, Int.mul_assoc, Int.mul_comm 4294967296]
  have e5 : d * P (i + j) = c * P (i + j) + (nth a i * nth b j * P (i + j) + nth rs (i + j) * P (i + j)) := by rw [hd, Int.add_mul, Int.add_mul]
  omega
theorem mul_round (a b : List Int) (i : Nat) (c : Int) (R rs : List Int) (wa : WF a) (wb : WF b) (hi : i < a.length) (hR : MulAt a b i R) (h : MulIn a b i b.length c R rs) :
    MulAt a b (i + 1) (rs.set (i + b.length) c) := by
  obtain ⟨h1, h2, h3, h4, h5, h6⟩ := h
  obtain ⟨r1, r2, r3, r4⟩ := hR
  have nn : ∀ k, nth (rs.set (i + b.length) c) k = if k = i + b.length then c else nth rs k := fun k => set_getD _ _ _ _ (by omega)
  refine ⟨by simp; omega, WF_set _ _ _ h2 (by omega) h3 h4, ?_, fun k hk => by rw [nn, if_neg (by omega), h6 k (by omega)]; exact r4 k (by omega)⟩
  rw [show i + 1 + b.length = i + b.length + 1 by omega, valTo, nn, if_pos rfl, valTo_congr _ rs (i + b.length) (fun k hk => by rw [nn, if_neg (by omega)]), h5, r3, valTo, Int.add_mul]
  rfl
theorem mul_end (a b : List Int) (rs : List Int) (h : MulAt a b a.length rs) : WF rs ∧ val rs = val a * val b ∧ rs.length = a.length + b.length := by
  obtain ⟨h1, h2, h3, h4⟩ := h
  refine ⟨h2, ?_, h1⟩
  rw [← valTo_all rs (a.length + b.length) (by omega), h3]
  rfl
theorem set_own (w : World) (rs : List Int) (n k : Nat) (v : Int) : ((w.alloc (.cells (arr rs) 83)).drewN n).setCell ⟨w.heap.size, k, none⟩ (.int .u32 v) = (w.alloc (.cells (arr (rs.set k v)) 83)).drewN n := by
  show ((w.alloc (.cells (arr rs) 83)).setCell ⟨w.heap.size, k, none⟩ (.int .u32 v)).drewN n = _
  rw [World.setCell_alloc_at _ _ _ _ _ rfl, arr_set]
theorem bmul_any (va vb : Value) (a b : List Int) (w : World) (ha : Sl w va a) (hb : Sl w vb b) (wa : WF a) (wb : WF b) (la : a.length ≤ 40) (lb : b.length ≤ 40) :
    Calls Try.prog 79 #[va, vb] w (Gives w (val a * val b) (a.length + b.length)) := by
  obtain ⟨ada, ca, rfl, hva⟩ := Sl_view ha
  obtain ⟨adb, cb, rfl, hvb⟩ := Sl_view hb
  clear ha hb
  by_cases ha0 : a.length = 0
  · have F := hide (show Gives w (val a * val b) (a.length + b.length) (.returned (.slice none 0 0)) w from ⟨_, [], rfl, Sl_nil _, WF_nil, Top_nil, by rw [List.length_eq_zero_iff.1 ha0]; simp [val_nil], by simp, grown_refl _ _⟩)
    have e0 : ((a.length : Int) == 0) = true := by simp [ha0]
    clear hva hvb ha0
    generalize Gives w _ _ = T at *
    go_enter Try.func79, Try.ntmps79
    go_wp2_with fail
    exact F.out
  · have e0 : ((a.length : Int) == 0) = false := beq_eq_false_iff_ne.2 (by omega)
    by_cases hb0 : b.length = 0
    · have F := hide (show Gives w (val a * val b) (a.length + b.length) (.returned (.slice none 0 0)) w from ⟨_, [], rfl, Sl_nil _, WF_nil, Top_nil, by rw [List.length_eq_zero_iff.1 hb0]; simp [val_nil], by simp, grown_refl _ _⟩)
      have e1 : ((b.length : Int) == 0) = true := by simp [hb0]
      clear hva hvb ha0 hb0
      generalize Gives w _ _ = T at *
      go_enter Try.func79, Try.ntmps79
      go_wp2_with fail
      exact F.out
    · have e1 : ((b.length : Int) == 0) = false := beq_eq_false_iff_ne.2 (by omega)
      obtain ⟨ba, rfl, hba, hca⟩ := hva (by omega)
      obtain ⟨bb, rfl, hbb, hcb⟩ := hvb (by omega)
      have hmk := fun u => make_u32 ((a.length : Int) + b.length) (by omega) (by omega) u
      have hn : ((a.length : Int) + b.length).toNat = a.length + b.length := by omega
      rw [hn] at hmk
      clear hn hva hvb ha0 hb0
      have HCA := hide hca
      have HCB := hide hcb
      clear hca hcb
      go_enter Try.func79, Try.ntmps79
      go_wp2_with fail
      go_loopw [6, 7, 8] (fun i c jj wr => ∃ (k n : Nat) (rs : List Int), i = .int .i64 k ∧ k ≤ a.length ∧ Hid (MulAt a b k rs) ∧ wr = (w.alloc (.cells (arr rs) 83)).drewN n) (fun i _ _ _ => a.length - (intOf i).toNat)
      case atStart => exact ⟨0, 0, _, rfl, Nat.zero_le _, mul_start a b, rfl⟩
      case round =>
        obtain ⟨k, n, R, rfl, hk, hR, rfl⟩ := hrel
        by_cases hka : k < a.length
        · have c1 := HCA.out k hka
          obtain ⟨x0, x1⟩ := wa k
          clear hmk
          go_wp2_with fail
          go_loopw [7, 8] (fun c jj wr => ∃ (j m : Nat) (z : Int) (rs : List Int), c = .int .u64 z ∧ jj = .int .i64 j ∧ j ≤ b.length ∧ Hid (MulIn a b k j z R rs) ∧ wr = (w.alloc (.cells (arr rs) 83)).drewN m) (fun _ jj _ => b.length - (intOf jj).toNat)
          case atStart => exact ⟨0, n, 0, _, rfl, rfl, Nat.zero_le _, mulIn_start a b k R hR.out, rfl⟩
          case round =>
            obtain ⟨j, m, z, rs, rfl, rfl, hj, hI, rfl⟩ := hrel
            have hlen : Hid (rs.length = a.length + b.length) := hI.out.1
            obtain ⟨z0, z1⟩ : 0 ≤ z ∧ z < 4294967296 := ⟨hI.out.2.2.1, hI.out.2.2.2.1⟩
            by_cases hjb : j < b.length
            · have c2 := HCB.out j hjb
              obtain ⟨y0, y1⟩ := wb j
              obtain ⟨t0, t1⟩ := hI.out.2.1 (k + j)
              have g1 := arr_get rs (k + j) (by rw [hlen.out]; omega)
              obtain ⟨m1, m2⟩ := mul_bd (nth a k) (nth b j) x0 x1 y0 y1
              have hI' := hide (mulIn_round a b k j z _ R rs wa wb hka hjb hI.out rfl)
              go_wp2_with fail
              go_quiet (fail)
              go_wp2_with fail
              go_roundw
              case rel => exact ⟨j + 1, _, _, _, rfl, by go_num, by omega, hI'.out, by rw [set_own]⟩
              case measure => simp [intOf]; omega
            · have hjj : j = b.length := by omega
              subst hjj
              have hA' := hide (mul_round a b k z R rs wa wb hka hR.out hI.out)
              have g1 := arr_get rs (k + b.length) (by rw [hlen.out]; omega)
              have hz : z % 4294967296 = z := by omega
              go_wp2_with fail
              go_roundw
              case rel => exact ⟨k + 1, _, _, by go_num, by omega, hA'.out, by rw [set_own]⟩
              case measure => simp [intOf]; omega
        · have hkk : k = a.length := by omega
          subst hkk
          have F := hide (mul_end a b R hR.out)
          have hsl := hide (Sl_new (Sl_own w R (a.length + b.length) F.out.2.2) (grown_drewN _ n none))
          clear hR hmk
          go_wp2_with fail
          refine (trim_any _ R _ hsl.out F.out.1 (by rw [F.out.2.2]; omega)).mono ?_
          rintro e w1 ⟨v', l', rfl, s1, s2, s3, s4, s5, rfl⟩
          have G := hide (show Gives w (val a * val b) (a.length + b.length) (.returned v') _ from ⟨v', l', rfl, s1, s2, s3, s4.trans F.out.2.1, by rw [F.out.2.2] at s5; exact s5, grown_none (grown_alloc _ _ _) (grown_drewN _ n none)⟩)
          clear s1 s2 s3 s4 s5 hsl F
          generalize Gives w (val a * val b) (a.length + b.length) = T at *
          go_wp2_with fail
          exact G.out
end Go.Proofs.Ytjepkgdejkifcaa

/- BigN -/
namespace Go.Proofs.Ytjepkgdejkifcaa
open Go.RowKit
set_option linter.unusedVariables false
set_option linter.unusedSimpArgs false
set_option maxHeartbeats 1000000
theorem sgn_mul (nx ny : Bool) (a b : Int) : sgn (nx != ny) (a * b) = sgn nx a * sgn ny b := by
  cases nx <;> cases ny <;> simp [sgn, Int.neg_mul, Int.mul_neg]
theorem bigMul_any (bz bx by' : Nat) (x y : Int) (w : World) (hz : Struct w bz) (hx : IsI w bx x) (hy : IsI w by' y) (h1 : -P 8 < x * y) (h2 : x * y < P 8) :
    Calls Try.prog 67 #[.pointer (some ⟨bz, 0, none⟩), .pointer (some ⟨bx, 0, none⟩), .pointer (some ⟨by', 0, none⟩)] w (Makes w bz (x * y)) := by
  obtain ⟨vx, lx, x0, x1, xb, xs, xw, xt, xv, xl⟩ := IsI_cells hx
  obtain ⟨vy, ly, y0, y1, yb, ys, yw, yt, yv, yl⟩ := IsI_cells hy
  have ex : sgn (decide (x < 0)) (val lx) = x := by rw [xv]; exact sgn_abs x
  have ey : sgn (decide (y < 0)) (val ly) = y := by rw [yv]; exact sgn_abs y
  clear hx hy xv yv
  generalize decide (x < 0) = nx at *
  generalize decide (y < 0) = ny at *
  have SUM := hide (bmul_any vx vy lx ly w.drew xs ys xw yw (by omega) (by omega))
  have HE : Hid (sgn (nx != ny) (val lx * val ly) = x * y) := by unfold Hid; rw [sgn_mul, ex, ey]
  have FIN := hide (show ∀ v' l' w1, Sl w1 v' l' → WF l' → Top l' → val l' = val lx * val ly → w.drew.grownBy w1 none →
      (w1.cell? ⟨bx, 0, none⟩ = some (.bool nx) ∧ w1.cell? ⟨bx, 1, none⟩ = some vx ∧ w1.cell? ⟨by', 0, none⟩ = some (.bool ny) ∧ w1.cell? ⟨by', 1, none⟩ = some vy) ∧ Calls Try.prog 61 #[.pointer (some ⟨bz, 0, none⟩), .bool (nx != ny), v'] w1 (fun e w2 => e = .returned (.pointer (some ⟨bz, 0, none⟩)) ∧ Makes w bz (x * y) e w2) from by
    intro v' l' w1 s1 s2 s3 s4 s6
    have g : w.grownBy w1 none := ⟨s6.os, s6.tape, s6.output, s6.size, s6.block⟩
    have hv : sgn (nx != ny) (val l') = x * y := by rw [s4]; exact HE.out
    refine ⟨⟨by rw [grown_cell g xb]; exact x0, by rw [grown_cell g xb]; exact x1, by rw [grown_cell g yb]; exact y0, by rw [grown_cell g yb]; exact y1⟩, ?_⟩
    refine (give_any bz (nx != ny) v' l' w1 (Struct_keep hz g (by simp)) s1 s2 s3 (len8 s2 s3 hv h1 h2)).mono ?_
    intro e w2 hm
    exact ⟨hm.1, Makes_of hm g hv⟩)
  have hS : w.drew.cell? ⟨bx, 0, none⟩ = some (.bool nx) ∧ w.drew.cell? ⟨bx, 1, none⟩ = some vx ∧ w.drew.cell? ⟨by', 0, none⟩ = some (.bool ny) ∧ w.drew.cell? ⟨by', 1, none⟩ = some vy := ⟨x0, x1, y0, y1⟩
  clear ex ey xs ys xw yw xt yt xl yl HE hz h1 h2 xb yb x0 x1 y0 y1
  generalize Makes w bz (x * y) = T at *
  go_enter Try.func67, Try.ntmps67
  go_wp2_with fail
  refine wp_region_G 19 (fun w' => w'.cell? ⟨bx, 0, none⟩ = some (.bool nx) ∧ w'.cell? ⟨bx, 1, none⟩ = some vx ∧ w'.cell? ⟨by', 0, none⟩ = some (.bool ny) ∧ w'.cell? ⟨by', 1, none⟩ = some vy) 21 (by rfl) #[false, false, false, false, false, false, false, false, false, false, false, false, false, false, false, false, false, false, false, false, false] (by rfl) (by kernel_rfl) (fun hcl => ?_)
  refine wpAnyG_take (i := 0) (v := ?v0) rfl (by kernel_rfl) hcl (fun _ _ _ h => h) (Or.inl ⟨by rfl, ?y0⟩) hS (fun hcl => ?r0)
  case y0 => (intro w' hSw; (try dsimp only at hSw); go_simp; try with_reducible rfl)
  (try simp only [Act.put, sL])
  refine wpAnyG_take (i := 1) (v := ?v1) rfl (by kernel_rfl) hcl (fun _ _ _ h => h) (Or.inl ⟨by rfl, ?y1⟩) hS (fun hcl => ?r1)
  case y1 => (intro w' hSw; (try dsimp only at hSw); go_simp; try with_reducible rfl)
  (try simp only [Act.put, sL])
  refine wpAnyG_take (i := 2) (v := ?v2) rfl (by kernel_rfl) hcl (fun _ _ _ h => h) (Or.inl ⟨by rfl, ?y2⟩) hS (fun hcl => ?r2)
  case y2 => (intro w' hSw; (try dsimp only at hSw); go_simp; try with_reducible rfl)
  (try simp only [Act.put, sL])
  refine wpAnyG_take (i := 3) (v := ?v3) rfl (by kernel_rfl) hcl (fun _ _ _ h => h) (Or.inl ⟨by rfl, ?y3⟩) hS (fun hcl => ?r3)
  case y3 => (intro w' hSw; (try dsimp only at hSw); go_simp; try with_reducible rfl)
  (try simp only [Act.put, sL])
  refine wpAnyG_take (i := 4) (v := ?v4) rfl (by kernel_rfl) hcl (fun _ _ _ h => h) (Or.inl ⟨by rfl, ?y4⟩) hS (fun hcl => ?r4)
  case y4 => (intro w' hSw; (try dsimp only at hSw); go_simp; try with_reducible rfl)
  (try simp only [Act.put, sL])
  refine wpAnyG_take (i := 5) (v := ?v5) rfl (by kernel_rfl) hcl (fun _ _ _ h => h) (Or.inl ⟨by rfl, ?y5⟩) hS (fun hcl => ?r5)
  case y5 => (intro w' hSw; (try dsimp only at hSw); go_simp; try with_reducible rfl)
  (try simp only [Act.put, sL])
  refine wpAnyG_take (i := 6) (v := ?v6) rfl (by kernel_rfl) hcl (fun _ _ _ h => h) (Or.inl ⟨by rfl, ?y6⟩) hS (fun hcl => ?r6)
  case y6 => (intro w' hSw; (try dsimp only at hSw); go_simp; try with_reducible rfl)
  (try simp only [Act.put, sL])
  refine wpAnyG_take (i := 7) (v := ?v7) rfl (by kernel_rfl) hcl (fun _ _ _ h => h) (Or.inl ⟨by rfl, ?y7⟩) hS (fun hcl => ?r7)
  case y7 => (intro w' hSw; (try dsimp only at hSw); go_simp; try with_reducible rfl)
  (try simp only [Act.put, sL])
  refine wpAnyG_take (i := 8) (v := ?v8) rfl (by kernel_rfl) hcl (fun _ _ _ h => h) (Or.inl ⟨by rfl, ?y8⟩) hS (fun hcl => ?r8)
  case y8 => (intro w' hSw; (try dsimp only at hSw); go_simp; try with_reducible rfl)
  (try simp only [Act.put, sL])
  refine wpAnyG_take (i := 9) (v := ?v9) rfl (by kernel_rfl) hcl (fun _ _ _ h => h) (Or.inl ⟨by rfl, ?y9⟩) hS (fun hcl => ?r9)
  case y9 => (intro w' hSw; (try dsimp only at hSw); go_simp; try with_reducible rfl)
  (try simp only [Act.put, sL])
  refine wpAnyG_take (i := 10) (v := ?v10) rfl (by kernel_rfl) hcl (fun _ _ _ h => h) (Or.inl ⟨by rfl, ?y10⟩) hS (fun hcl => ?r10)
  case y10 => (intro w' hSw; (try dsimp only at hSw); go_simp; try with_reducible rfl)
  (try simp only [Act.put, sL])
  refine wpAnyG_take (i := 11) (v := ?v11) rfl (by kernel_rfl) hcl (fun _ _ _ h => h) (Or.inl ⟨by rfl, ?y11⟩) hS (fun hcl => ?r11)
  case y11 => (intro w' hSw; (try dsimp only at hSw); go_simp; try with_reducible rfl)
  (try simp only [Act.put, sL])
  refine wpAnyG_take (i := 12) (v := ?v12) rfl (by kernel_rfl) hcl (fun _ _ _ h => h) (Or.inl ⟨by rfl, ?y12⟩) hS (fun hcl => ?r12)
  case y12 => (intro w' hSw; (try dsimp only at hSw); go_simp; try with_reducible rfl)
  (try simp only [Act.put, sL])
  refine wpAnyG_take (i := 13) (v := ?v13) rfl (by kernel_rfl) hcl (fun _ _ _ h => h) (Or.inl ⟨by rfl, ?y13⟩) hS (fun hcl => ?r13)
  case y13 => (intro w' hSw; (try dsimp only at hSw); go_simp; try with_reducible rfl)
  (try simp only [Act.put, sL])
  refine wpAnyG_take (i := 14) (v := ?v14) rfl (by kernel_rfl) hcl (fun _ _ _ h => h) (Or.inl ⟨by rfl, ?y14⟩) hS (fun hcl => ?r14)
  case y14 => (intro w' hSw; (try dsimp only at hSw); go_simp; try with_reducible rfl)
  (try simp only [Act.put, sL])
  refine wpAnyG_take (i := 15) (v := ?v15) rfl (by kernel_rfl) hcl (fun _ _ _ h => h) (Or.inl ⟨by rfl, ?y15⟩) hS (fun hcl => ?r15)
  case y15 => (intro w' hSw; (try dsimp only at hSw); go_simp; try with_reducible rfl)
  (try simp only [Act.put, sL])
  refine wpAnyG_take (i := 16) (v := ?v16) rfl (by kernel_rfl) hcl (fun _ _ _ h => h) (Or.inl ⟨by rfl, ?y16⟩) hS (fun hcl => ?r16)
  case y16 => (intro w' hSw; (try dsimp only at hSw); go_simp; try with_reducible rfl)
  (try simp only [Act.put, sL])
  refine wpAnyG_take (i := 17) (v := ?v17) rfl (by kernel_rfl) hcl (fun _ _ _ h => h) (Or.inl ⟨by rfl, ?y17⟩) hS (fun hcl => ?r17)
  case y17 => (intro w' hSw; (try dsimp only at hSw); go_simp; try with_reducible rfl)
  (try simp only [Act.put, sL])
  refine wpAnyG_exec (i := 18) rfl (by kernel_rfl) hcl (fun K hK => ?_)
  (try simp only [Act.put, sL])
  go_simp
  refine SUM.out.mono ?_
  rintro e w1 ⟨v', l', rfl, s1, s2, s3, s4, s5, s6⟩
  obtain ⟨k1, k2⟩ := FIN.out v' l' w1 s1 s2 s3 s4 s6
  have K1 := hide k1
  have K2 := hide k2
  clear s1 s2 s3 s4 s5 s6 k1 k2 FIN SUM hS
  go_wp2_with fail
  refine hK.out _ _ (fun _ => K1.out) (fun hcl => ?_)
  clear hK
  (try simp only [Act.put, sL])
  refine wpAnyG_exec (i := 19) rfl (by kernel_rfl) hcl (fun K hK => ?_)
  (try simp only [Act.put, sL])
  go_simp
  refine K2.out.mono ?_
  rintro e w2 ⟨rfl, hm⟩
  have HM := hide hm
  clear hm K1 K2
  go_wp2_with fail
  refine hK.out _ _ (fun h => by cases h) (fun hcl => ?_)
  clear hK
  (try simp only [Act.put, sL])
  refine wpAnyG_of_any _ _ _ _ (by rfl) ?_
  refine wpAny_take (i := 20) (v := ?v20) rfl (by kernel_rfl) (by kernel_rfl) (by kernel_rfl) (fun _ _ _ h => h) (Or.inl ⟨by rfl, ?y20⟩) ?r20
  case y20 => (intro w'; go_simp; try with_reducible rfl)
  (try simp only [Act.put, sL])
  refine wpAny_done (by kernel_rfl) ?_ _
  go_wp2_with fail
  exact HM.out
end Go.Proofs.Ytjepkgdejkifcaa

/- RefPit -/
namespace Go.Proofs.Ytjepkgdejkifcaa
open Go.RowKit
set_option linter.unusedVariables false
set_option linter.unusedSimpArgs false
set_option maxHeartbeats 1000000
set_option maxRecDepth 100000 in
theorem refPast_any (h : List Int) (hh : h.length = 80) (lag : Int) (w : World) :
    Calls Try.prog 50 #[.agg (arrI h), .int .i64 lag] w (ListE w (pasL h lag) (pasE lag)) := by
  have B0 := hide (Blk.new w 23 h)
  have G0 := hide (grown_alloc w (.cells (arrI h) 23) none)
  have N0 := hide (show w.heap.size + 1 ≤ (w.alloc (.cells (arrI h) 23)).heap.size by simp)
  by_cases hlag : 20 ≤ lag ∧ lag ≤ 79
  · obtain ⟨L, rfl⟩ : ∃ L : Nat, lag = (L : Int) := ⟨lag.toNat, by omega⟩
    obtain ⟨e1, e2⟩ := pasL_yes h L (by omega) (by omega)
    rw [e1, e2]
    obtain ⟨l1, l2⟩ := hlag
    clear e1 e2
    go_enter Try.func50, Try.ntmps50
    go_wp2_with fail
    generalize w.alloc (.cells (arrI h) 23) = W0 at *
    go_loopw [6, 7] (fun vo i wr => ∃ (m : Nat), i = .int .i64 m ∧ m ≤ 40 ∧ Hid (Own (w.heap.size + 1) wr vo (tab m (pasN h L))) ∧ Hid (Blk wr w.heap.size 23 h) ∧ Hid (w.grownBy wr none) ∧ Hid (w.heap.size + 1 ≤ wr.heap.size)) (fun _ i _ => 40 - (intOf i).toNat)
    case atStart => exact ⟨0, rfl, Nat.zero_le _, Own_nil _ _, B0.out, G0.out, N0.out⟩
    case round =>
      obtain ⟨m, rfl, hm, hO, hB, hG, hN⟩ := hrel
      clear B0 G0 N0
      by_cases hm40 : m < 40
      · have hj : 80 - L + m % L < 80 := by have := Nat.mod_lt m (show 0 < L by omega); omega
        have cx := hB.out.cell (80 - L + m % L) (by omega)
        rw [show nth h (80 - L + m % L) = pasN h L m from rfl] at cx
        have ES := hide (show tab (m + 1) (pasN h L) = tab m (pasN h L) ++ [pasN h L m] by unfold tab; rw [List.range_succ]; simp)
        have LN := hide (tab_len m (pasN h L))
        have i1 : (m : Int) < 40 := by omega
        generalize pasN h L m = z at *
        go_wp2_with (at_builtin; refine wpList_append_both (by rfl) _ _ rfl (w.heap.size + 1) _ (.slice (some ⟨wr.heap.size, 0, none⟩) 1 1) (tab m (pasN h L)) [z] rfl rfl (hO.out.keep (grown_alloc _ _ none)) (ints_lit wr z) (.inr ⟨_, _, rfl⟩) (by rw [LN.out]; simp; omega) (by have := hN.out; simp; omega) ?_)
        intro v5 w5 h5 g5
        rw [← ES.out] at h5
        have O5 := hide h5
        have ga := grown_alloc wr (.cells #[.int .i64 z] 3) none
        have hlt : ∀ b, u6.ownBlock = some b → w.heap.size + 1 ≤ b := fun b hb => (hO.out.lt b hb).1
        have B5 := hide (show Blk w5 w.heap.size 23 h from by
          have hB' := hB.out.keep ga
          rcases eb : u6.ownBlock with _ | b
          · rw [eb] at g5; exact hB'.keep g5
          · have := hlt b eb
            rw [eb] at g5; exact hB'.keepBut g5 (by omega))
        have G5 := hide (grown_own' (grown_none hG.out ga) g5 (fun b hb => by have := hlt b hb; omega))
        have N5 := hide (Nat.le_trans (Nat.le_trans hN.out ga.size) g5.size)
        clear h5 g5 ga hlt hO hB hG hN cx ES LN
        go_wp2_with fail
        go_roundw
        case rel => exact ⟨m + 1, by go_num, by omega, O5.out, B5.out, G5.out, N5.out⟩
        case measure => simp [intOf]; omega
      · obtain rfl : m = 40 := by omega
        have OF := hide (hO.out.base (b' := w.heap.size) (by omega))
        have GF := hG
        clear hO hB hG hN
        go_wp2_with fail
        go_ret2
        exact ⟨_, rfl, OF.out, GF.out⟩
  · rw [show pasL h lag = [] from if_neg hlag, show pasE lag = 2 from if_neg hlag]
    by_cases h1 : lag < 20
    · clear hlag
      go_enter Try.func50, Try.ntmps50
      go_wp2_with fail
      go_ret2
      exact ⟨_, rfl, Own_nil _ _, G0.out⟩
    · have h2 : 79 < lag := by omega
      clear hlag
      go_enter Try.func50, Try.ntmps50
      go_wp2_with fail
      go_ret2
      exact ⟨_, rfl, Own_nil _ _, G0.out⟩
end Go.Proofs.Ytjepkgdejkifcaa

/- BigQ -/
namespace Go.Proofs.Ytjepkgdejkifcaa
open Go.RowKit
set_option linter.unusedVariables false
set_option linter.unusedSimpArgs false
set_option maxHeartbeats 1000000
theorem plain_any (v : Value) (l : List Int) (w : World) (hs : Sl w v l) (hw : WF l) (hl : l.length ≤ 2) :
    Calls Try.prog 90 #[v] w (Says w (.int .u64 (val l))) := by
  obtain ⟨ad, c, rfl, hv⟩ := Sl_view hs
  have hlen : l.length = 0 ∨ l.length = 1 ∨ l.length = 2 := by omega
  clear hs hl
  rcases hlen with h | h | h
  · have e : val l = 0 := by rw [List.length_eq_zero_iff.1 h]; rfl
    rw [e, h]
    have F := hide (show Says w (.int .u64 0) (.returned (.int .u64 0)) w from ⟨rfl, rfl⟩)
    generalize Says w (.int .u64 0) = T at *
    clear e h hv
    go_enter Try.func90, Try.ntmps90
    go_wp2_with fail
    exact F.out
  · obtain ⟨b, rfl, hb, hc⟩ := hv (by omega)
    have c0 := hc 0 (by omega)
    have w0 := hw 0
    rw [val_len1 l h, h]
    have F := hide (show Says w (.int .u64 (nth l 0)) (.returned (.int .u64 (nth l 0))) w from ⟨rfl, rfl⟩)
    generalize Says w (.int .u64 (nth l 0)) = T at *
    obtain ⟨w0, w1⟩ := w0
    clear h hv hc hw
    go_enter Try.func90, Try.ntmps90
    go_wp2_with fail
    exact F.out
  · obtain ⟨b, rfl, hb, hc⟩ := hv (by omega)
    have c0 := hc 0 (by omega)
    have c1 := hc 1 (by omega)
    have w0 := hw 0
    have w1 := hw 1
    rw [val_len2 l h, h]
    have hor := or_add64 (nth l 0) (nth l 1) w0.1 w0.2 w1.1 w1.2
    have F := hide (show Says w (.int .u64 (nth l 0 + nth l 1 * 4294967296)) (.returned (.int .u64 (nth l 0 + nth l 1 * 4294967296))) w from ⟨rfl, rfl⟩)
    generalize Says w (.int .u64 (nth l 0 + nth l 1 * 4294967296)) = T at *
    obtain ⟨w00, w01⟩ := w0
    obtain ⟨w10, w11⟩ := w1
    clear h hv hc hw
    go_enter Try.func90, Try.ntmps90
    go_wp2_with fail
    exact F.out
def Divs (w : World) (x y : Int) (e : Ending) (w' : World) : Prop :=
  ∃ v1 l1 v2 l2, e = .returned (.tuple #[v1, v2]) ∧ Sl w' v1 l1 ∧ WF l1 ∧ Top l1 ∧ val l1 = x / y ∧ l1.length ≤ 2 ∧ Sl w' v2 l2 ∧ WF l2 ∧ Top l2 ∧ val l2 = x % y ∧ l2.length ≤ 2 ∧ w.grownBy w' none
set_option maxRecDepth 100000 in
theorem bdiv_any (va vb : Value) (a b : List Int) (w : World) (ha : Sl w va a) (hb : Sl w vb b) (wa : WF a) (wb : WF b) (ta : Top a) (tb : Top b) (la : a.length ≤ 2) (lb : b.length ≤ 40) (hb0 : val b ≠ 0) :
    Calls Try.prog 89 #[va, vb] w (Divs w (val a) (val b)) := by
  have hbp := (val_bd b wb).1
  have hap := val_bd a wa
  have hlb : b.length ≠ 0 := fun h => hb0 (by rw [List.length_eq_zero_iff.1 h]; rfl)
  have hbe : ((b.length : Int) == 0) = false := beq_eq_false_iff_ne.2 (by omega)
  have CMP := hide (bcmp_any va vb a b w ha hb wa wb ta tb (by omega) (by omega))
  by_cases hlt : val a < val b
  · have hc : cmp3 (val a) (val b) = -1 := by unfold cmp3; rw [if_pos hlt]
    have TW := hide (fun n => twin_any va a (w.drewN n) (Sl_new ha (grown_drewN w n none)) wa ta (by omega))
    have FIN := hide (show ∀ n v' l' w1, Sl w1 v' l' → WF l' → Top l' → val l' = val a → l'.length ≤ a.length → (w.drewN n).grownBy w1 none → Divs w (val a) (val b) (.returned (.tuple #[.slice none 0 0, v'])) w1 from
      fun n v' l' w1 s1 s2 s3 s4 s5 s6 => ⟨_, [], v', l', rfl, Sl_nil _, WF_nil, Top_nil, by rw [Int.ediv_eq_zero_of_lt (by omega) hlt]; rfl, by simp, s1, s2, s3, by rw [s4, Int.emod_eq_of_lt (by omega) hlt], by omega, grown_none (grown_drewN w n none) s6⟩)
    rw [hc] at CMP
    obtain ⟨ada, ca, rfl, -⟩ := Sl_view ha
    obtain ⟨adb, cb, rfl, -⟩ := Sl_view hb
    clear ha hb hc hlt wa wb ta tb hbp hap hb0
    generalize Divs w (val a) (val b) = T at *
    go_enter Try.func89, Try.ntmps89
    go_wp2_with fail
    refine CMP.out.mono ?_
    rintro e w1 ⟨rfl, n, rfl⟩
    go_wp2_with fail
    refine (TW.out n).mono ?_
    rintro e w1 ⟨v', l', rfl, s1, s2, s3, s4, s5, s6⟩
    have F := hide (FIN.out n v' l' w1 s1 s2 s3 s4 s5 s6)
    clear s1 s2 s3 s4 s5 s6 FIN TW CMP
    go_wp2_with fail
    exact F.out
  · have hc : 0 ≤ cmp3 (val a) (val b) := by unfold cmp3; rw [if_neg hlt]; split <;> omega
    have hsh := short_of_le a b wa wb tb (by omega)
    have PA := hide (fun n => plain_any va a (w.drewN n) (Sl_new ha (grown_drewN w n none)) wa la)
    have PB := hide (fun n => plain_any vb b (w.drewN n) (Sl_new hb (grown_drewN w n none)) wb (by omega))
    have hv2 : val a < 18446744073709551616 := by
      have := P_mono a.length 2 la; rw [P2] at this; omega
    have hw2 : val b < 18446744073709551616 := by
      have := P_mono b.length 2 (by omega); rw [P2] at this; have := (val_bd b wb).2; omega
    have hq0 : 0 ≤ val a / val b := Int.ediv_nonneg (by omega) (by omega)
    have hq1 : val a / val b ≤ val a := Int.ediv_le_self _ (by omega)
    have hr0 : 0 ≤ val a % val b := Int.emod_nonneg _ (by omega)
    have hr1 : val a % val b < val b := Int.emod_lt_of_pos _ (by omega)
    have W1 := hide (fun u => words_any (val a / val b) u hq0 (by omega))
    have W2 := hide (fun u => words_any (val a % val b) u hr0 (by omega))
    have FIN := hide (show ∀ n v1 l1 w1 v2 l2 w2, Sl w1 v1 l1 → WF l1 → Top l1 → val l1 = val a / val b → l1.length ≤ 2 → (w.drewN n).grownBy w1 none → Sl w2 v2 l2 → WF l2 → Top l2 → val l2 = val a % val b → l2.length ≤ 2 → w1.grownBy w2 none → Divs w (val a) (val b) (.returned (.tuple #[v1, v2])) w2 from
      fun n v1 l1 w1 v2 l2 w2 s1 s2 s3 s4 s5 s6 r1 r2 r3 r4 r5 r6 => ⟨v1, l1, v2, l2, rfl, Sl_new s1 r6, s2, s3, s4, s5, r1, r2, r3, r4, r5, grown_none (grown_none (grown_drewN w n none) s6) r6⟩)
    obtain ⟨z, hz⟩ : ∃ z : Int, Hid (z = cmp3 (val a) (val b)) := ⟨_, rfl⟩
    rw [← hz.out] at CMP hc
    obtain ⟨ada, ca, rfl, -⟩ := Sl_view ha
    obtain ⟨adb, cb, rfl, -⟩ := Sl_view hb
    have hvb0 : 0 < val b := by omega
    have hva0 : 0 ≤ val a := by omega
    clear ha hb hz hlt wa wb ta tb hap hbp hb0
    generalize Divs w (val a) (val b) = T at *
    generalize val a = A at *
    generalize val b = B at *
    go_enter Try.func89, Try.ntmps89
    go_wp2_with fail
    refine CMP.out.mono ?_
    rintro e w1 ⟨rfl, n, rfl⟩
    go_wp2_with fail
    refine (PA.out n).mono ?_
    rintro e w1 ⟨rfl, rfl⟩
    go_wp2_with fail
    refine (PB.out n).mono ?_
    rintro e w1 ⟨rfl, rfl⟩
    clear PA PB CMP hc
    go_wp2_with fail
    have hBne : ¬ B = 0 := by omega
    have htd : A.tdiv B = A / B := Int.tdiv_eq_ediv_of_nonneg hva0
    have htm : A.tmod B = A % B := Int.tmod_eq_emod_of_nonneg hva0
    have hwq : IntKind.u64.wrap (A / B) = A / B := by rw [IntKind.wrap_u64]; exact Int.emod_eq_of_lt hq0 (by omega)
    have hwr : IntKind.u64.wrap (A % B) = A % B := by rw [IntKind.wrap_u64]; exact Int.emod_eq_of_lt hr0 (by omega)
    refine wp_region_G 7 (fun _ => True) 10 (by rfl) #[false, false, false, false, false, false, false, false, false, false] (by rfl) (by kernel_rfl) (fun hcl => ?_)
    refine wpAnyG_take (i := 0) (v := ?v0) rfl (by kernel_rfl) hcl (fun _ _ _ h => h) (Or.inl ⟨by rfl, ?y0⟩) trivial (fun hcl => ?r0)
    case y0 => (intro w' hSw; (try dsimp only at hSw); go_simp; try with_reducible rfl)
    (try simp only [Act.put, sL])
    refine wpAnyG_take (i := 1) (v := ?v1) rfl (by kernel_rfl) hcl (fun _ _ _ h => h) (Or.inl ⟨by rfl, ?y1⟩) trivial (fun hcl => ?r1)
    case y1 => (intro w' hSw; (try dsimp only at hSw); go_simp; try with_reducible rfl)
    (try simp only [Act.put, sL])
    refine wpAnyG_take (i := 2) (v := ?v2) rfl (by kernel_rfl) hcl (fun _ _ _ h => h) (Or.inl ⟨by rfl, ?y2⟩) trivial (fun hcl => ?r2)
    case y2 => (intro w' hSw; (try dsimp only at hSw); go_simp; try with_reducible rfl)
    (try simp only [Act.put, sL])
    refine wpAnyG_take (i := 4) (v := ?v4) rfl (by kernel_rfl) hcl (fun _ _ _ h => h) (Or.inl ⟨by rfl, ?y4⟩) trivial (fun hcl => ?r4)
    case y4 => (intro w' hSw; (try dsimp only at hSw); go_simp; try with_reducible rfl)
    (try simp only [Act.put, sL])
    refine wpAnyG_take (i := 5) (v := ?v5) rfl (by kernel_rfl) hcl (fun _ _ _ h => h) (Or.inl ⟨by rfl, ?y5⟩) trivial (fun hcl => ?r5)
    case y5 => (intro w' hSw; (try dsimp only at hSw); go_simp; try with_reducible rfl)
    (try simp only [Act.put, sL])
    refine wpAnyG_take (i := 6) (v := ?v6) rfl (by kernel_rfl) hcl (fun _ _ _ h => h) (Or.inl ⟨by rfl, ?y6⟩) trivial (fun hcl => ?r6)
    case y6 => (intro w' hSw; (try dsimp only at hSw); go_simp; try with_reducible rfl)
    (try simp only [Act.put, sL])
    refine wpAnyG_exec (i := 3) rfl (by kernel_rfl) hcl (fun K hK => ?_)
    (try simp only [Act.put, sL])
    go_simp
    refine (W1.out _).mono ?_
    rintro e w1 ⟨v1, l1, rfl, s1, s2, s3, s4, s5, s6⟩
    have FIN2 := hide (fun v2 l2 w2 => FIN.out (n + 1) v1 l1 w1 v2 l2 w2 s1 s2 s3 s4 s5 s6)
    clear s1 s2 s3 s4 s5 s6 FIN W1
    go_wp2_with fail
    refine hK.out _ _ (fun _ => trivial) (fun hcl => ?_)
    clear hK
    (try simp only [Act.put, sL])
    refine wpAnyG_exec (i := 7) rfl (by kernel_rfl) hcl (fun K hK => ?_)
    (try simp only [Act.put, sL])
    go_simp
    refine (W2.out _).mono ?_
    rintro e w2 ⟨v2, l2, rfl, r1, r2, r3, r4, r5, r6⟩
    have F := hide (FIN2.out v2 l2 w2 r1 r2 r3 r4 r5 r6)
    clear r1 r2 r3 r4 r5 r6 FIN2 W2
    go_wp2_with fail
    refine hK.out _ _ (fun _ => trivial) (fun hcl => ?_)
    clear hK
    (try simp only [Act.put, sL])
    refine wpAnyG_of_any _ _ _ _ (by rfl) ?_
    refine wpAny_take (i := 8) (v := ?v8) rfl (by kernel_rfl) (by kernel_rfl) (by kernel_rfl) (fun _ _ _ h => h) (Or.inl ⟨by rfl, ?y8⟩) ?r8
    case y8 => (intro w'; go_simp; try with_reducible rfl)
    (try simp only [Act.put, sL])
    refine wpAny_take (i := 9) (v := ?v9) rfl (by kernel_rfl) (by kernel_rfl) (by kernel_rfl) (fun _ _ _ h => h) (Or.inl ⟨by rfl, ?y9⟩) ?r9
    case y9 => (intro w'; go_simp; try with_reducible rfl)
    (try simp only [Act.put, sL])
    refine wpAny_done (by kernel_rfl) ?_ _
    go_wp2_with fail
    exact F.out
end Go.Proofs.Ytjepkgdejkifcaa

/- BigR -/
namespace Go.Proofs.Ytjepkgdejkifcaa
open Go.RowKit
set_option linter.unusedVariables false
set_option maxHeartbeats 1000000
theorem quo_sgn (x y : Int) : sgn (decide (x < 0) != decide (y < 0)) ((x.natAbs : Int) / (y.natAbs : Int)) = x.tdiv y := by
  by_cases hx : x < 0 <;> by_cases hy : y < 0
  · have e1 : (x.natAbs : Int) = -x := by omega
    have e2 : (y.natAbs : Int) = -y := by omega
    rw [e1, e2]
    simp [hx, hy, sgn]
    rw [← Int.tdiv_eq_ediv_of_nonneg (by omega), Int.neg_tdiv, Int.neg_neg]
  · have e1 : (x.natAbs : Int) = -x := by omega
    have e2 : (y.natAbs : Int) = y := by omega
    rw [e1, e2]
    simp [hx, hy, sgn]
    rw [← Int.tdiv_eq_ediv_of_nonneg (by omega), Int.neg_tdiv, Int.neg_neg]
  · have e1 : (x.natAbs : Int) = x := by omega
    have e2 : (y.natAbs : Int) = -y := by omega
    rw [e1, e2]
    simp [hx, hy, sgn]
    rw [Int.tdiv_eq_ediv_of_nonneg (by omega)]
  · have e1 : (x.natAbs : Int) = x := by omega
    have e2 : (y.natAbs : Int) = y := by omega
    rw [e1, e2]
    simp [hx, hy, sgn]
    rw [Int.tdiv_eq_ediv_of_nonneg (by omega)]
theorem rem_sgn (x y : Int) : sgn (decide (x < 0)) ((x.natAbs : Int) % (y.natAbs : Int)) = x.tmod y := by
  have ey : ∀ z : Int, z % (y.natAbs : Int) = z % y := fun z => by
    by_cases hy : y < 0
    · rw [show (y.natAbs : Int) = -y by omega, Int.emod_neg]
    · rw [show (y.natAbs : Int) = y by omega]
  rw [ey]
  by_cases hx : x < 0
  · rw [show (x.natAbs : Int) = -x by omega, ← Int.tmod_eq_emod_of_nonneg (by omega), Int.neg_tmod]
    simp [hx, sgn]
  · rw [show (x.natAbs : Int) = x by omega, ← Int.tmod_eq_emod_of_nonneg (by omega)]
    simp [hx, sgn]
def Quots (w : World) (bz br : Nat) (q r : Int) (e : Ending) (w' : World) : Prop :=
  e = .returned (.tuple #[.pointer (some ⟨bz, 0, none⟩), .pointer (some ⟨br, 0, none⟩)]) ∧ IsI w' bz q ∧ IsI w' br r ∧ ∃ w1, w.grownBy w1 (some bz) ∧ w1.grownBy w' (some br) ∧ Struct w1 br
structure Turns (f : Nat → Prop) (w w' : World) : Prop where
  os : w'.os = w.os
  tape : w'.tape = w.tape
  output : w'.output = w.output
  size : w.heap.size ≤ w'.heap.size
  block : ∀ k, k < w.heap.size → ¬ f k → w'.heap[k]? = w.heap[k]?
theorem Turns.of {w w' : World} {r : Option Nat} {f : Nat → Prop} (h : w.grownBy w' r) (hf : ∀ k, r = some k → k < w.heap.size → f k) : Turns f w w' :=
  ⟨h.os, h.tape, h.output, h.size, fun k hk hn => h.block k hk (fun e => hn (hf k e.symm hk))⟩
theorem Turns.then {a b c : World} {f g : Nat → Prop} (h : Turns f a b) (k : Turns g b c) (hg : ∀ i, i < a.heap.size → g i → f i) : Turns f a c :=
  ⟨k.os.trans h.os, k.tape.trans h.tape, k.output.trans h.output, Nat.le_trans h.size k.size, fun i hi hn => by
    rw [k.block i (Nat.lt_of_lt_of_le hi h.size) (fun e => hn (hg i hi e)), h.block i hi hn]⟩
theorem Turns.grown {w w' : World} {f : Nat → Prop} (h : Turns f w w') (b : Nat) (hf : ∀ k, k < w.heap.size → f k → k = b) : w.grownBy w' (some b) :=
  ⟨h.os, h.tape, h.output, h.size, fun k hk hn => h.block k hk (fun e => hn (by rw [hf k hk e]))⟩
theorem div_of_tdiv (x y : Int) (hy : 0 < y) : x / y = (if x.tmod y < 0 then x.tdiv y - 1 else x.tdiv y) ∧ x % y = (if x.tmod y < 0 then x.tmod y + y else x.tmod y) := by
  have h1 : y * x.tdiv y + x.tmod y = x := Int.mul_tdiv_add_tmod x y
  have h2 := Int.tmod_lt_of_pos x hy
  have h3 : -y < x.tmod y := by
    have := Int.tmod_lt_of_pos (-x) hy
    rw [Int.neg_tmod] at this; omega
  by_cases h : x.tmod y < 0
  · rw [if_pos h, if_pos h]
    have e1 : y * (x.tdiv y - 1) + (x.tmod y + y) = x := by rw [Int.mul_sub]; omega
    have := Int.ediv_emod_unique hy (a := x) (r := x.tmod y + y) (q := x.tdiv y - 1)
    have := this.2 ⟨by omega, by omega, by omega⟩
    exact ⟨this.1, this.2⟩
  · rw [if_neg h, if_neg h]
    have := Int.ediv_emod_unique hy (a := x) (r := x.tmod y) (q := x.tdiv y)
    have := this.2 ⟨by omega, by omega, by omega⟩
    exact ⟨this.1, this.2⟩
def DivMods (w : World) (bz bm : Nat) (q r : Int) (e : Ending) (w' : World) : Prop :=
  e = .returned (.tuple #[.pointer (some ⟨bz, 0, none⟩), .pointer (some ⟨bm, 0, none⟩)]) ∧ IsI w' bz q ∧ IsI w' bm r ∧ Turns (fun k => k = bz ∨ k = bm) w w'
end Go.Proofs.Ytjepkgdejkifcaa

/- BigU -/
namespace Go.Proofs.Ytjepkgdejkifcaa
open Go.RowKit
set_option linter.unusedVariables false
set_option maxHeartbeats 1000000
theorem or_add64' (x y : Int) (hx : 0 ≤ x) (hx' : x < 4294967296) (hy : 0 ≤ y) (hy' : y < 4294967296) : bits .or .u64 (y * 4294967296) x = y * 4294967296 + x := by
  rw [u64_or (y * 4294967296) x (by omega) (by omega) hx (by omega)]
  obtain ⟨x, rfl⟩ := Int.eq_ofNat_of_zero_le hx
  obtain ⟨y, rfl⟩ := Int.eq_ofNat_of_zero_le hy
  have e : ((y : Int) * 4294967296).toNat = y * 4294967296 := by omega
  rw [e, Int.toNat_natCast]
  have h3 := Nat.shiftLeft_add_eq_or_of_lt (show x < 2 ^ 32 by omega) y
  rw [Nat.shiftLeft_eq] at h3
  rw [show y * 4294967296 = y * 2 ^ 32 by rfl, ← h3]
  omega
theorem valTo_set (rs : List Int) (j : Nat) (v : Int) (hj : j < rs.length) (n : Nat) (hn : j < n) : valTo (rs.set j v) n = valTo rs n + (v - nth rs j) * P j := by
  have nn : ∀ i, nth (rs.set j v) i = if i = j then v else nth rs i := fun i => set_getD _ _ _ _ hj
  obtain ⟨d, rfl⟩ : ∃ d, n = j + 1 + d := ⟨n - (j + 1), by omega⟩
  clear hn
  induction d with
  | zero =>
    show valTo (rs.set j v) j + _ = valTo rs j + _ + _
    rw [nn, if_pos rfl, valTo_congr _ rs j (fun i hi => by rw [nn, if_neg (by omega)]), Int.sub_mul]
    omega
  | succ d ih =>
    rw [← Nat.add_assoc, valTo, valTo, ih, nn, if_neg (by omega)]
    omega
theorem val_set (rs : List Int) (j : Nat) (v : Int) (hj : j < rs.length) : val (rs.set j v) = val rs + (v - nth rs j) * P j := by
  unfold val
  rw [List.length_set]
  exact valTo_set rs j v hj rs.length hj
def SmallAt (l : List Int) (d : Int) (k : Nat) (z : Int) (rs : List Int) : Prop :=
  rs.length = l.length ∧ WF rs ∧ val rs = P k * (upper l k / d) ∧ z = upper l k % d ∧ ∀ j, j < k → nth rs j = 0
theorem small_start (l : List Int) (d : Int) (hl : WF l) : SmallAt l d l.length 0 (List.replicate l.length 0) := by
  have h := upper_zero l l.length hl (Nat.le_refl _)
  refine ⟨by simp, WF_zeros _, ?_, by rw [h]; simp, fun j _ => getD_zeros _ _⟩
  rw [h]; unfold val; rw [valTo_zeros]; simp
theorem small_round (l : List Int) (d : Int) (j : Nat) (z : Int) (rs : List Int) (hl : WF l) (h0 : 0 < d) (h1 : d < 4294967296) (hj : j < l.length) (h : SmallAt l d (j + 1) z rs) :
    0 ≤ z ∧ z < d ∧ 0 ≤ (z * 4294967296 + nth l j) / d ∧ (z * 4294967296 + nth l j) / d < 4294967296 ∧ SmallAt l d j ((z * 4294967296 + nth l j) % d) (rs.set j ((z * 4294967296 + nth l j) / d)) := by
  obtain ⟨a1, a2, a3, a4, a5⟩ := h
  have z0 : 0 ≤ z := by rw [a4]; exact Int.emod_nonneg _ (by omega)
  have z1 : z < d := by rw [a4]; exact Int.emod_lt_of_pos _ h0
  have x := hl j
  have t0 : 0 ≤ (z * 4294967296 + nth l j) / d := Int.ediv_nonneg (by omega) (by omega)
  have t1 : (z * 4294967296 + nth l j) / d < 4294967296 := by
    apply Int.ediv_lt_of_lt_mul h0
    have : (z + 1) * 4294967296 ≤ d * 4294967296 := Int.mul_le_mul_of_nonneg_right (by omega) (by omega)
    omega
  refine ⟨z0, z1, t0, t1, ?_⟩
  have dig := upper_digit l hl j
  have dm := Int.emod_add_mul_ediv (upper l (j + 1)) d
  rw [← a4] at dm
  generalize hQ : upper l (j + 1) / d = Q at *
  generalize ht : z * 4294967296 + nth l j = t at *
  have eu : upper l j = t + d * (4294967296 * Q) := by
    rw [dig, ← dm, Int.mul_add, Int.mul_left_comm 4294967296 d]
    omega
  have q1 : upper l j / d = t / d + 4294967296 * Q := by rw [eu, Int.add_mul_ediv_left _ _ (by omega)]
  have q2 : upper l j % d = t % d := by rw [eu, Int.add_mul_emod_self_left]
  refine ⟨by simp; omega, WF_set _ _ _ a2 (by omega) t0 t1, ?_, q2.symm, fun i hi => by rw [set_getD _ _ _ _ (by omega), if_neg (by omega)]; exact a5 i (by omega)⟩
  rw [val_set _ _ _ (by omega), a3, a5 j (by omega), q1, P_succ, Int.mul_add, Int.mul_assoc, Int.sub_zero, Int.mul_comm (t / d)]
  omega
theorem small_end (l : List Int) (d : Int) (z : Int) (rs : List Int) (h : SmallAt l d 0 z rs) : WF rs ∧ val rs = val l / d ∧ z = val l % d ∧ rs.length = l.length := by
  obtain ⟨a1, a2, a3, a4, a5⟩ := h
  have e : upper l 0 = val l := by unfold upper; rw [P_zero]; exact Int.ediv_one _
  rw [e] at a3 a4
  rw [P_zero, Int.one_mul] at a3
  exact ⟨a2, a3, a4, a1⟩
def Smalls (w : World) (x d : Int) (n : Nat) (e : Ending) (w' : World) : Prop :=
  ∃ v1 l1, e = .returned (.tuple #[v1, .int .u32 (x % d)]) ∧ Sl w' v1 l1 ∧ WF l1 ∧ Top l1 ∧ val l1 = x / d ∧ l1.length ≤ n ∧ w.grownBy w' none
theorem small_any (v : Value) (l : List Int) (d : Int) (w : World) (hsl : Sl w v l) (hw : WF l) (hl : l.length ≤ 40) (h0 : 0 < d) (h1 : d < 4294967296) :
    Calls Try.prog 91 #[v, .int .u32 d] w (Smalls w (val l) d l.length) := by
  obtain ⟨ad, c, rfl, hv⟩ := Sl_view hsl
  have hmk := fun u => make_u32 (l.length : Int) (by omega) (by omega) u
  rw [Int.toNat_natCast] at hmk
  have HV := hide hv
  clear hsl hv
  go_enter Try.func91, Try.ntmps91
  go_wp2_with fail
  go_loopw [7, 8] (fun r i wr => ∃ (k : Nat) (z : Int) (rs : List Int), r = .int .u64 z ∧ i = .int .i64 ((k : Int) - 1) ∧ k ≤ l.length ∧ Hid (SmallAt l d k z rs) ∧ wr = w.alloc (.cells (arr rs) 83)) (fun _ i _ => (intOf i + 1).toNat)
  case atStart => exact ⟨l.length, 0, _, rfl, rfl, Nat.le_refl _, small_start l d hw, rfl⟩
  case round =>
    obtain ⟨k, z, rs, rfl, rfl, hk, hS, rfl⟩ := hrel
    have hlen : Hid (rs.length = l.length) := hS.out.1
    cases k with
    | zero =>
      have F := hide (small_end l d z rs hS.out)
      have z0 : 0 ≤ z := by rw [F.out.2.2.1]; exact Int.emod_nonneg _ (by omega)
      have z1 : z < d := by rw [F.out.2.2.1]; exact Int.emod_lt_of_pos _ h0
      have hz : z % 4294967296 = z := by omega
      have hsl := hide (Sl_own w rs l.length hlen.out)
      clear hS hmk HV
      go_wp2_with fail
      refine (trim_any _ rs _ hsl.out F.out.1 (by rw [hlen.out]; omega)).mono ?_
      rintro e w1 ⟨v', l', rfl, s1, s2, s3, s4, s5, rfl⟩
      have G := hide (show Smalls w (val l) d l.length (.returned (.tuple #[v', .int .u32 z])) _ from ⟨v', l', by rw [← F.out.2.2.1], s1, s2, s3, s4.trans F.out.2.1, by rw [hlen.out] at s5; exact s5, grown_alloc _ _ _⟩)
      clear s1 s2 s3 s4 s5 hsl F hlen
      generalize Smalls w (val l) d l.length = T at *
      go_wp2_with fail
      exact G.out
    | succ j =>
      obtain ⟨b, rfl, hb, hc⟩ := HV.out (by omega)
      have c1 := hc j (by omega)
      obtain ⟨x0, x1⟩ := hw j
      obtain ⟨z0, z1, t0, t1, hS'⟩ := small_round l d j z rs hw h0 h1 (by omega) hS.out
      have HS := hide hS'
      have g1 := arr_get rs j (by rw [hlen.out]; omega)
      have hor := or_add64' (nth l j) z x0 x1 z0 (by omega)
      have ej : (((j + 1 : Nat)) : Int) - 1 = (j : Int) := by omega
      have tt0 : 0 ≤ z * 4294967296 + nth l j := by omega
      have hd0 : ¬ d = 0 := by omega
      have htd : (z * 4294967296 + nth l j).tdiv d = (z * 4294967296 + nth l j) / d := Int.tdiv_eq_ediv_of_nonneg tt0
      have htm : (z * 4294967296 + nth l j).tmod d = (z * 4294967296 + nth l j) % d := Int.tmod_eq_emod_of_nonneg tt0
      have hwq : IntKind.u64.wrap ((z * 4294967296 + nth l j) / d) = (z * 4294967296 + nth l j) / d := by rw [IntKind.wrap_u64]; exact Int.emod_eq_of_lt t0 (by omega)
      have hm32 : (z * 4294967296 + nth l j) / d % 4294967296 = (z * 4294967296 + nth l j) / d := Int.emod_eq_of_lt t0 t1
      rw [ej]
      clear hS' hmk HV hc ej hS
      go_wp2_with fail
      go_roundw
      case rel => exact ⟨j, _, _, rfl, rfl, by omega, HS.out, by rw [arr_set]⟩
      case measure => simp [intOf]
end Go.Proofs.Ytjepkgdejkifcaa

/- BigZ -/
namespace Go.Proofs.Ytjepkgdejkifcaa
open Go.RowKit
set_option linter.unusedVariables false
set_option linter.unusedSimpArgs false
set_option maxHeartbeats 1000000
def Divs8 (w : World) (x y : Int) (e : Ending) (w' : World) : Prop :=
  ∃ v1 l1 v2 l2, e = .returned (.tuple #[v1, v2]) ∧ Sl w' v1 l1 ∧ WF l1 ∧ Top l1 ∧ val l1 = x / y ∧ l1.length ≤ 8 ∧ Sl w' v2 l2 ∧ WF l2 ∧ Top l2 ∧ val l2 = x % y ∧ l2.length ≤ 8 ∧ w.grownBy w' none
set_option maxRecDepth 100000 in
theorem bdivL_any (va vb : Value) (a b : List Int) (w : World) (ha : Sl w va a) (hb : Sl w vb b) (wa : WF a) (wb : WF b) (ta : Top a) (tb : Top b) (la : 3 ≤ a.length) (la8 : a.length ≤ 8) (lb : b.length = 1) (hb0 : val b ≠ 0) :
    Calls Try.prog 89 #[va, vb] w (Divs8 w (val a) (val b)) := by
  have hbp := (val_bd b wb).1
  have hbq := (val_bd b wb).2
  have hbv := val_len1 b lb
  obtain ⟨d0, d1⟩ := wb 0
  have hgt : val b ≤ val a := by
    have h1 := val_ge a wa ta (fun e => by rw [e] at la; simp at la)
    have h2 := P_mono 1 (a.length - 1) (by omega)
    rw [lb] at hbq
    omega
  have hc : 0 ≤ cmp3 (val a) (val b) := by unfold cmp3; rw [if_neg (by omega)]; split <;> omega
  have CMP := hide (bcmp_any va vb a b w ha hb wa wb ta tb (by omega) (by omega))
  have SM := hide (fun n => small_any va a (nth b 0) (w.drewN n) (Sl_new ha (grown_drewN w n none)) wa (by omega) (by omega) d1)
  have rw0 : 0 ≤ val a % nth b 0 := Int.emod_nonneg _ (by omega)
  have rw1 : val a % nth b 0 < nth b 0 := Int.emod_lt_of_pos _ (by omega)
  have WR : WF [val a % nth b 0] := fun i => by
    match i with
    | 0 => exact ⟨rw0, by show val a % nth b 0 < 4294967296; omega⟩
    | i + 1 => exact ⟨by simp [nth], by simp [nth]⟩
  have VR : val [val a % nth b 0] = val a % val b := by rw [val_len1 _ rfl, hbv]; rfl
  have TR := hide (fun w1 => trim_any (.slice (some ⟨w1.heap.size, 0, none⟩) 1 1) [val a % nth b 0] (w1.alloc (.cells #[.int .u32 (val a % nth b 0)] 83)) (Sl_own w1 [val a % nth b 0] 1 rfl) WR (by simp))
  have FIN := hide (show ∀ n v1 l1 w1 v2 l2, Sl w1 v1 l1 → WF l1 → Top l1 → val l1 = val a / nth b 0 → l1.length ≤ a.length → (w.drewN n).grownBy w1 none → Sl (w1.alloc (.cells #[.int .u32 (val a % nth b 0)] 83)) v2 l2 → WF l2 → Top l2 → val l2 = val [val a % nth b 0] → l2.length ≤ 1 → Divs8 w (val a) (val b) (.returned (.tuple #[v1, v2])) (w1.alloc (.cells #[.int .u32 (val a % nth b 0)] 83)) from
    fun n v1 l1 w1 v2 l2 s1 s2 s3 s4 s5 s6 r1 r2 r3 r4 r5 => ⟨v1, l1, v2, l2, rfl, Sl_new s1 (grown_alloc _ _ none), s2, s3, by rw [s4, hbv], by omega, r1, r2, r3, by rw [r4, VR], by omega, grown_none (grown_none (grown_drewN w n none) s6) (grown_alloc _ _ none)⟩)
  obtain ⟨z, hz⟩ : ∃ z : Int, Hid (z = cmp3 (val a) (val b)) := ⟨_, rfl⟩
  rw [← hz.out] at CMP hc
  obtain ⟨ada, ca, rfl, -⟩ := Sl_view ha
  obtain ⟨adb, cb, rfl, hvb⟩ := Sl_view hb
  obtain ⟨bb, rfl, hbb, hcb⟩ := hvb (by omega)
  have c0 := hcb 0 (by omega)
  have la' : (3 : Int) ≤ a.length := by omega
  have lb' : (b.length : Int) = 1 := by omega
  rw [lb] at CMP ⊢
  clear ha hb hz wa wb ta tb hbp hbq hb0 hbv hgt hcb hvb WR VR rw0 rw1 lb'
  generalize Divs8 w (val a) (val b) = T at *
  generalize nth b 0 = D at *
  generalize hR : val a % D = R at *
  have HR := hide hR
  clear lb hR
  go_enter Try.func89, Try.ntmps89
  go_wp2_with fail
  refine CMP.out.mono ?_
  rintro e w1 ⟨rfl, n, rfl⟩
  clear CMP
  go_wp2_with fail
  refine (SM.out n).mono ?_
  rintro e w1 ⟨v1, l1, rfl, s1, s2, s3, s4, s5, s6⟩
  have F1 := hide (fun v2 l2 => FIN.out n v1 l1 w1 v2 l2 s1 s2 s3 s4 s5 s6)
  have T1 := hide (TR.out w1)
  clear SM TR FIN s1 s2 s3 s4 s5 s6
  rw [HR.out]
  clear HR
  go_wp2_with fail
  refine T1.out.mono ?_
  rintro e w2 ⟨v2, l2, rfl, r1, r2, r3, r4, r5, rfl⟩
  have F := hide (F1.out v2 l2 r1 r2 r3 r4 r5)
  clear F1 T1 r1 r2 r3 r4 r5
  go_wp2_with fail
  exact F.out
theorem bdivW_any (va vb : Value) (a b : List Int) (w : World) (ha : Sl w va a) (hb : Sl w vb b) (wa : WF a) (wb : WF b) (ta : Top a) (tb : Top b) (la : a.length ≤ 8) (lb : b.length = 1) (hb0 : val b ≠ 0) :
    Calls Try.prog 89 #[va, vb] w (Divs8 w (val a) (val b)) := by
  by_cases h : a.length ≤ 2
  · refine (bdiv_any va vb a b w ha hb wa wb ta tb h (by omega) hb0).mono ?_
    rintro e w1 ⟨v1, l1, v2, l2, e1, s1, s2, s3, s4, s5, r1, r2, r3, r4, r5, g⟩
    exact ⟨v1, l1, v2, l2, e1, s1, s2, s3, s4, by omega, r1, r2, r3, r4, by omega, g⟩
  · exact bdivL_any va vb a b w ha hb wa wb ta tb (by omega) la lb hb0
theorem P1w : P 1 = 4294967296 := by decide
theorem quoRemW_any (bz bx by' br : Nat) (x y : Int) (w : World) (hz : Struct w bz) (hr : Struct w br) (hzr : bz ≠ br) (hx : IsI w bx x) (hy : IsI w by' y) (hy0 : 0 < y) (hy1 : y < 4294967296) :
    Calls Try.prog 88 #[.pointer (some ⟨bz, 0, none⟩), .pointer (some ⟨bx, 0, none⟩), .pointer (some ⟨by', 0, none⟩), .pointer (some ⟨br, 0, none⟩)] w (Quots w bz br (x.tdiv y) (x.tmod y)) := by
  obtain ⟨vx, lx, x0, x1, xb, xs, xw, xt, xv, xl⟩ := IsI_cells hx
  obtain ⟨vy, ly, y0, y1, yb, ys, yw, yt, yv, yl⟩ := IsI_cells hy
  have hl1 := len_le ly yw yt 1 (by rw [P1w, yv]; omega)
  have hl0 : ly.length ≠ 0 := fun h => by rw [List.length_eq_zero_iff.1 h, val_nil] at yv; omega
  have hyn : val ly ≠ 0 := by rw [yv]; omega
  have DV := hide (fun n => bdivW_any vx vy lx ly (w.drewN n) (Sl_new xs (grown_drewN w n none)) (Sl_new ys (grown_drewN w n none)) xw yw xt yt xl (by omega) hyn)
  have FIN := hide (show ∀ n v1 l1 v2 l2 w1, Sl w1 v1 l1 → WF l1 → Top l1 → val l1 = val lx / val ly → l1.length ≤ 8 → Sl w1 v2 l2 → WF l2 → Top l2 → val l2 = val lx % val ly → l2.length ≤ 8 → (w.drewN n).grownBy w1 none →
      (w1.cell? ⟨bx, 1, none⟩ = some vx ∧ w1.cell? ⟨by', 1, none⟩ = some vy) ∧
      Calls Try.prog 61 #[.pointer (some ⟨bz, 0, none⟩), .bool (decide (x < 0) != decide (y < 0)), v1] w1 (fun e w2 => e = .returned (.pointer (some ⟨bz, 0, none⟩)) ∧
        Calls Try.prog 61 #[.pointer (some ⟨br, 0, none⟩), .bool (decide (x < 0)), v2] w2 (fun e w3 => e = .returned (.pointer (some ⟨br, 0, none⟩)) ∧ Quots w bz br (x.tdiv y) (x.tmod y) (.returned (.tuple #[.pointer (some ⟨bz, 0, none⟩), .pointer (some ⟨br, 0, none⟩)])) w3)) from by
    intro n v1 l1 v2 l2 w1 s1 s2 s3 s4 s5 r1 r2 r3 r4 r5 g0
    have g : w.grownBy w1 none := grown_none (grown_drewN w n none) g0
    refine ⟨⟨by rw [grown_cell g xb]; exact x1, by rw [grown_cell g yb]; exact y1⟩, ?_⟩
    refine (give_any bz _ v1 l1 w1 (Struct_keep hz g (by simp)) s1 s2 s3 (by omega)).mono ?_
    rintro e w2 ⟨rfl, i2, g2⟩
    refine ⟨rfl, ?_⟩
    have hr2 : Struct w2 br := Struct_keep (Struct_keep hr g (by simp)) g2 (fun e => hzr (by cases e; rfl))
    refine (give_any br _ v2 l2 w2 hr2 (Sl_keep r1 g2 (fun k e => by cases e; exact Struct_keep hz g (by simp))) r2 r3 (by omega)).mono ?_
    rintro e w3 ⟨rfl, i3, g3⟩
    refine ⟨rfl, rfl, ?_, ?_, w2, grown_trans g g2 (some bz) (fun i e _ => by cases e) (fun i e _ => e), g3, hr2⟩
    · have := IsI_other i2 g3 hr2 hzr
      rw [s4, xv, yv, ← sgn, quo_sgn] at this
      exact this
    · have := i3
      rw [r4, xv, yv, ← sgn, rem_sgn] at this
      exact this)
  clear hx hy xs ys xw yw xt yt xv yv xl yl hz hr hl1 hl0 hyn hy0 hy1
  generalize decide (x < 0) = nx at *
  generalize decide (y < 0) = ny at *
  generalize Quots w bz br (x.tdiv y) (x.tmod y) = T at *
  go_enter Try.func88, Try.ntmps88
  go_wp2_with fail
  go_quiet (fail)
  go_wp2_with fail
  go_region_held3 (fun w' => w'.cell? ⟨bx, 1, none⟩ = some vx ∧ w'.cell? ⟨by', 1, none⟩ = some vy) (first | exact K1.out | simp [*])
    (first
      | (go_at_call 89; refine (DV.out _).mono ?_; rintro e w1 ⟨v1, l1, v2, l2, rfl, s1, s2, s3, s4, s5, r1, r2, r3, r4, r5, g1⟩; obtain ⟨k1, k2⟩ := FIN.out _ v1 l1 v2 l2 w1 s1 s2 s3 s4 s5 r1 r2 r3 r4 r5 g1; have K1 := hide k1; have K2 := hide k2; clear s1 s2 s3 s4 s5 r1 r2 r3 r4 r5 g1 k1 k2))
  go_wp2_with fail
  rw [show (!(nx == ny)) = (nx != ny) from rfl]
  refine K2.out.mono ?_
  rintro e w2 ⟨rfl, k3⟩
  have K3 := hide k3
  clear K1 K2 k3 DV FIN
  go_wp2_with fail
  refine K3.out.mono ?_
  rintro e w3 ⟨rfl, k4⟩
  have K4 := hide k4
  clear K3 k4
  go_wp2_with fail
  exact K4.out
theorem tdivW_bd (x y : Int) (hy : 0 < y) (h1 : -6277101735386680763835789423207666416102355444464034512896 < x) (h2 : x < 6277101735386680763835789423207666416102355444464034512896) : -6277101735386680763835789423207666416102355444464034512896 < x.tdiv y ∧ x.tdiv y < 6277101735386680763835789423207666416102355444464034512896 := by
  rw [← quo_sgn]
  have e1 : 0 ≤ (x.natAbs : Int) / (y.natAbs : Int) := Int.ediv_nonneg (by omega) (by omega)
  have e2 : (x.natAbs : Int) / (y.natAbs : Int) ≤ x.natAbs := Int.ediv_le_self _ (by omega)
  generalize (x.natAbs : Int) / (y.natAbs : Int) = q at *
  cases (decide (x < 0) != decide (y < 0)) <;> simp [sgn] <;> omega
theorem P8_wide : 6277101735386680763835789423207666416102355444464034512896 * 2 < P 8 := by decide +kernel
theorem divModW_any (bz bx by' bm : Nat) (x y : Int) (w : World) (hz : Struct w bz) (hm : Struct w bm) (hzm : bz ≠ bm) (hx : IsI w bx x) (hy : IsI w by' y) (hy0 : 0 < y) (hy1 : y < 4294967296) (h1 : -6277101735386680763835789423207666416102355444464034512896 < x) (h2 : x < 6277101735386680763835789423207666416102355444464034512896) :
    Calls Try.prog 81 #[.pointer (some ⟨bz, 0, none⟩), .pointer (some ⟨bx, 0, none⟩), .pointer (some ⟨by', 0, none⟩), .pointer (some ⟨bm, 0, none⟩)] w (DivMods w bz bm (x / y) (x % y)) := by
  obtain ⟨dq, dr⟩ := div_of_tdiv x y hy0
  obtain ⟨tq0, tq1⟩ := tdivW_bd x y hy0 h1 h2
  have tm1 := Int.tmod_lt_of_pos x hy0
  have tm0 : -y < x.tmod y := by
    have := Int.tmod_lt_of_pos (-x) hy0
    rw [Int.neg_tmod] at this; omega
  have h8 := P8_wide
  obtain ⟨_, _, zz⟩ := id hz
  obtain ⟨_, _, mm⟩ := id hm
  have zlt := lt_of_some zz
  have mlt := lt_of_some mm
  have xlt := IsI_lt hx
  have ylt := IsI_lt hy
  clear zz mm
  have ga := grown_alloc w int0 none
  have SE := hide (bigSet_any w.heap.size by' y (w.alloc int0) (struct_new w) (IsI_new hy ga) (by omega) (by omega))
  have FIN := hide (show ∀ w5 q r, IsI w5 bz q → IsI w5 bm r → q = x / y → r = x % y → Turns (fun k => k = bz ∨ k = bm) w w5 → DivMods w bz bm (x / y) (x % y) (.returned (.tuple #[.pointer (some ⟨bz, 0, none⟩), .pointer (some ⟨bm, 0, none⟩)])) w5 from fun w5 q r hq hr eq er ht => ⟨rfl, by rw [← eq]; exact hq, by rw [← er]; exact hr, ht⟩)
  have DD := hide (And.intro dq dr)
  clear dq dr
  generalize DivMods w bz bm (x / y) (x % y) = T at *
  go_enter Try.func81, Try.ntmps81
  go_wp2_with fail
  refine SE.out.mono ?_
  rintro e w1 ⟨rfl, d1, g1⟩
  have x1 := IsI_other (IsI_new hx ga) g1 (struct_new w) (by omega)
  have y1 := IsI_other (IsI_new hy ga) g1 (struct_new w) (by omega)
  have z1 := Struct_keep (Struct_keep hz ga (by simp)) g1 (fun e => by cases e; omega)
  have m1 := Struct_keep (Struct_keep hm ga (by simp)) g1 (fun e => by cases e; omega)
  have T1 := hide (show Turns (fun k => k = bz ∨ k = bm) w w1 from Turns.then (Turns.of ga (fun k e => by cases e)) (Turns.of (f := fun k => k = w.heap.size) g1 (fun k e _ => by cases e; rfl)) (fun i hi e => by omega))
  have QR := hide (quoRemW_any bz bx by' bm x y w1 z1 m1 hzm x1 y1 hy0 hy1)
  clear SE hx hy hz hm ga g1 x1 y1
  go_wp2_with fail
  refine QR.out.mono ?_
  rintro e w2 ⟨rfl, q2, r2, w1', ga, gb, sb⟩
  have d2 := IsI_other (IsI_other d1 ga z1 (by omega)) gb sb (by omega)
  have T2 := hide (show Turns (fun k => k = bz ∨ k = bm) w w2 from Turns.then (Turns.then T1.out (Turns.of (f := fun k => k = bz ∨ k = bm) ga (fun k e _ => by cases e; exact Or.inl rfl)) (fun i _ e => e)) (Turns.of (f := fun k => k = bz ∨ k = bm) gb (fun k e _ => by cases e; exact Or.inr rfl)) (fun i _ e => e))
  obtain ⟨vr, lr, rc0, rc1, -⟩ := IsI_cells r2
  obtain ⟨vd, ld, dc0, dc1, -⟩ := IsI_cells d2
  clear QR d1 z1 m1 T1 ga gb sb w1' rc1 dc1
  by_cases hneg : x.tmod y < 0
  · rw [decide_eq_true hneg] at rc0
    rw [decide_eq_false (by omega)] at dc0
    rw [if_pos hneg, if_pos hneg] at DD
    go_wp2_with fail
    refine (newInt_any 1 _ (by omega) (by omega)).mono ?_
    rintro e w3 ⟨b3, rfl, hb3, i3, g3⟩
    have q3 := IsI_new q2 g3
    have r3 := IsI_new r2 g3
    have d3 := IsI_new d2 g3
    have T3 := hide (show Turns (fun k => k = bz ∨ k = bm) w w3 from Turns.then T2.out (Turns.of (f := fun k => False) g3 (fun k e => by cases e)) (fun i _ e => e.elim))
    have SB := hide (bigSub_any bz bz b3 (x.tdiv y) 1 w3 (IsI_struct q3) q3 i3 (by omega) (by omega))
    clear q2 r2 d2 T2 g3 i3 rc0 dc0
    go_wp2_with fail
    refine SB.out.mono ?_
    rintro e w4 ⟨rfl, q4, g4⟩
    have r4 := IsI_other r3 g4 (IsI_struct q3) (fun e => hzm e.symm)
    have d4 := IsI_other d3 g4 (IsI_struct q3) (by omega)
    have T4 := hide (show Turns (fun k => k = bz ∨ k = bm) w w4 from Turns.then T3.out (Turns.of (f := fun k => k = bz ∨ k = bm) g4 (fun k e _ => by cases e; exact Or.inl rfl)) (fun i _ e => e))
    have AD := hide (bigAdd_any bm bm w.heap.size (x.tmod y) y w4 (IsI_struct r4) r4 d4 (by omega) (by omega))
    clear SB q3 r3 d3 T3 g4
    go_wp2_with fail
    refine AD.out.mono ?_
    rintro e w5 ⟨rfl, r5, g5⟩
    have q5 := IsI_other q4 g5 (IsI_struct r4) hzm
    have F := hide (FIN.out w5 _ _ q5 r5 DD.out.1.symm DD.out.2.symm (Turns.then T4.out (Turns.of (f := fun k => k = bz ∨ k = bm) g5 (fun k e _ => by cases e; exact Or.inr rfl)) (fun i _ e => e)))
    clear AD q4 r4 d4 T4 g5 q5 r5 FIN
    go_wp2_with fail
    exact F.out
  · rw [decide_eq_false hneg] at rc0
    rw [if_neg hneg, if_neg hneg] at DD
    have F := hide (FIN.out w2 _ _ q2 r2 DD.out.1.symm DD.out.2.symm T2.out)
    clear FIN T2 q2 r2 d2 dc0
    go_wp2_with fail
    exact F.out
theorem bigMod_any (bz bx by' : Nat) (x y : Int) (w : World) (hz : Struct w bz) (hx : IsI w bx x) (hy : IsI w by' y) (hy0 : 0 < y) (hy1 : y < 4294967296) (h1 : -6277101735386680763835789423207666416102355444464034512896 < x) (h2 : x < 6277101735386680763835789423207666416102355444464034512896) :
    Calls Try.prog 69 #[.pointer (some ⟨bz, 0, none⟩), .pointer (some ⟨bx, 0, none⟩), .pointer (some ⟨by', 0, none⟩)] w (Makes w bz (x % y)) := by
  have ga := grown_alloc w int0 none
  obtain ⟨_, _, zz⟩ := id hz
  have zlt := lt_of_some zz
  have DM := hide (divModW_any w.heap.size bx by' bz x y (w.alloc int0) (struct_new w) (Struct_keep hz ga (by simp)) (by omega) (IsI_new hx ga) (IsI_new hy ga) hy0 hy1 h1 h2)
  have FIN := hide (show ∀ e w1, DivMods (w.alloc int0) w.heap.size bz (x / y) (x % y) e w1 → Makes w bz (x % y) (.returned (.pointer (some ⟨bz, 0, none⟩))) w1 from by
    rintro e w1 ⟨-, -, hr, ht⟩
    refine ⟨rfl, hr, Turns.grown (f := fun k => k = bz) (Turns.then (Turns.of ga (fun k e => by cases e)) ht (fun i hi e => ?_)) bz (fun k _ e => e)⟩
    rcases e with e | e
    · omega
    · exact e)
  clear hz hx hy ga zz
  generalize Makes w bz (x % y) = T at *
  go_enter Try.func69, Try.ntmps69
  go_wp2_with fail
  refine DM.out.mono ?_
  intro e w1 hd
  have F := hide (FIN.out e w1 hd)
  obtain ⟨rfl, -⟩ := hd
  clear FIN DM
  go_wp2_with fail
  exact F.out
end Go.Proofs.Ytjepkgdejkifcaa

/- RefFad -/
namespace Go.Proofs.Ytjepkgdejkifcaa
open Go.RowKit
set_option linter.unusedVariables false
set_option linter.unusedSimpArgs false
set_option maxHeartbeats 1000000
theorem refFade_nat (g : Int) (hg : 0 ≤ g) : ∀ (n : Nat), n ≤ 5 → ∀ w : World, Calls Try.prog 28 #[.int .i64 g, .int .i64 (n : Int)] w (Tells w (.int .i64 (fdN g n)))
  | 0, _, w => by
    have e1 : min g 32767 = fdN g 0 := by show min g 32767 = (if 32767 < g then 32767 else g); split <;> omega
    have e2 : (if 32767 < g then 32767 else g) = fdN g 0 := rfl
    have F := hide (show Tells w (.int .i64 (fdN g 0)) (.returned (.int .i64 (fdN g 0))) w from ⟨rfl, grown_refl _ _⟩)
    generalize Tells w (.int .i64 (fdN g 0)) = T at *
    generalize fdN g 0 = z at *
    rw [show ((0 : Nat) : Int) = 0 from rfl]
    go_enter Try.func28, Try.ntmps28
    go_wp2_with fail
    first | exact F.out | (go_ret; exact F.out)
  | n + 1, h, w => by
    have IH := hide (refFade_nat g hg n (by omega) w)
    obtain ⟨b1, b2⟩ := fdN_bd g hg n
    have DN := hide (fun w' => down_any (fdN g n * 26214) 15 (by omega) (by omega) (by omega) w')
    rw [show (2 : Int) ^ 15 = 32768 by decide, show ((15 : Nat) : Int) = 15 from rfl] at DN
    have F := hide (show ∀ w', w.grownBy w' none → Tells w (.int .i64 (fdN g (n + 1))) (.returned (.int .i64 (fdN g n * 26214 / 32768))) w' from fun w' h => ⟨rfl, h⟩)
    generalize Tells w (.int .i64 (fdN g (n + 1))) = T at *
    generalize fdN g n = z at *
    have i1 : ((n + 1 : Nat) : Int) - 1 = (n : Int) := by omega
    have i2 : ((n + 1 : Nat) : Int) ≤ 5 := by omega
    have i3 : 0 < ((n + 1 : Nat) : Int) := by omega
    generalize ((n + 1 : Nat) : Int) = N at *
    clear h
    go_enter Try.func28, Try.ntmps28
    go_wp2_with fail
    refine IH.out.mono ?_
    rintro e w1 ⟨rfl, g1⟩
    have G1 := hide g1
    clear IH g1
    go_wp2_with fail
    refine (DN.out _).mono ?_
    rintro e w2 ⟨rfl, g2⟩
    have F1 := hide (F.out w2 (grown_none G1.out g2))
    clear DN F G1 g2
    go_wp2_with fail
    first | exact F1.out | (go_ret; exact F1.out)
theorem refFade_any (g k : Int) (w : World) : Calls Try.prog 28 #[.int .i64 g, .int .i64 k] w (Tells w (.int .i64 (fdV g k))) := by
  by_cases hg : g < 0
  · rw [show fdV g k = 0 from if_pos (.inl hg)]
    have F := hide (show Tells w (.int .i64 0) (.returned (.int .i64 0)) w from ⟨rfl, grown_refl _ _⟩)
    generalize Tells w (.int .i64 0) = T at *
    go_enter Try.func28, Try.ntmps28
    go_wp2_with fail
    first | exact F.out | (go_ret; exact F.out)
  · by_cases hk : 6 ≤ k
    · rw [show fdV g k = 0 from if_pos (.inr hk)]
      have F := hide (show Tells w (.int .i64 0) (.returned (.int .i64 0)) w from ⟨rfl, grown_refl _ _⟩)
      generalize Tells w (.int .i64 0) = T at *
      go_enter Try.func28, Try.ntmps28
      go_wp2_with fail
      first | exact F.out | (go_ret; exact F.out)
    · rw [show fdV g k = fdN g k.toNat from if_neg (by omega)]
      by_cases h0 : 0 ≤ k
      · obtain ⟨n, rfl⟩ : ∃ n : Nat, k = (n : Int) := ⟨k.toNat, by omega⟩
        rw [Int.toNat_natCast]
        exact refFade_nat g (by omega) n (by omega) w
      · rw [show k.toNat = 0 by omega]
        have e1 : min g 32767 = fdN g 0 := by show min g 32767 = (if 32767 < g then 32767 else g); split <;> omega
        have e2 : (if 32767 < g then 32767 else g) = fdN g 0 := rfl
        have F := hide (show Tells w (.int .i64 (fdN g 0)) (.returned (.int .i64 (fdN g 0))) w from ⟨rfl, grown_refl _ _⟩)
        generalize Tells w (.int .i64 (fdN g 0)) = T at *
        generalize fdN g 0 = z at *
        have hk1 : k ≤ 0 := by omega
        go_enter Try.func28, Try.ntmps28
        go_wp2_with fail
        first | exact F.out | (go_ret; exact F.out)
theorem refNoise_any (s x : Int) (w : World) (s0 : -9223372036854775808 ≤ s) (s9 : s ≤ 9223372036854775807) :
    Calls Try.prog 49 #[.int .i64 s, .int .i64 x] w (Tells w (.tuple #[.int .i64 (noS s), .int .i64 (noX s x)])) := by
  obtain ⟨a1, a2⟩ := noS_bd s
  obtain ⟨p1, p2⟩ := noP_bd s x
  have DN := hide (fun w' => down_any ((noS s - 32768) * noZ x) 15 (by omega) (by omega) (by omega) w')
  rw [show (2 : Int) ^ 15 = 32768 by decide, show ((15 : Nat) : Int) = 15 from rfl, show (noS s - 32768) * noZ x / 32768 = noX s x from rfl] at DN
  have F := hide (show ∀ w', w.grownBy w' none → Tells w (.tuple #[.int .i64 (noS s), .int .i64 (noX s x)]) (.returned (.tuple #[.int .i64 (noS s), .int .i64 (noX s x)])) w' from fun w' h => ⟨rfl, h⟩)
  generalize Tells w (.tuple #[.int .i64 (noS s), .int .i64 (noX s x)]) = T at *
  have ZS := hide (struct_new w)
  have GZ := hide (grown_alloc w int0 none)
  rw [show int0 = .cells #[.bool false, .slice none 0 0] 68 from rfl] at ZS GZ
  have EN := hide (show (s * 31821 + 13849) % 65536 = noS s from rfl)
  have m1 : max x 0 = (if x < 0 then 0 else x) := by split <;> omega
  have m2 : min (max x 0) 32767 = noZ x := by unfold noZ; split <;> (try split) <;> omega
  have EZ := hide m2
  clear m1 m2
  generalize noX s x = y at *
  generalize noS s = t at *
  go_enter Try.func49, Try.ntmps49
  go_wp2_with fail
  generalize hwz : w.alloc (.cells #[.bool false, .slice none 0 0] 68) = wz at *
  generalize hbs : w.heap.size = bs at *
  have BS := hide hbs
  clear hwz hbs
  refine (whole_any s _ s0 s9).mono ?_
  rintro ee wa ⟨bx, rfl, hb1, ix, g1⟩
  have IX := hide ix
  have ZS := hide (Struct_keep ZS.out g1 (by simp))
  have GZ := hide (grown_none GZ.out g1)
  clear ix g1 hb1
  go_wp2_with fail
  refine (newInt_any 31821 _ (by omega) (by omega)).mono ?_
  rintro ee wb ⟨by', rfl, hb2, iy, g2⟩
  have IY := hide iy
  have IX := hide (IsI_new IX.out g2)
  have ZS := hide (Struct_keep ZS.out g2 (by simp))
  have GZ := hide (grown_none GZ.out g2)
  clear iy g2 hb2
  go_wp2_with fail
  refine (bigMul_any bs bx by' s 31821 _ ZS.out IX.out IY.out (by rw [P8]; omega) (by rw [P8]; omega)).mono ?_
  rintro ee wc ⟨rfl, ip, g3⟩
  have IS := hide ip
  have hG := hide (grown_own GZ.out g3 (by rw [BS.out]; exact Nat.le_refl _))
  clear ip g3 IX IY ZS GZ
  go_wp2_with fail
  refine (newInt_any 13849 _ (by omega) (by omega)).mono ?_
  rintro ee wd ⟨bd, rfl, hb2, iy, g2⟩
  have IY := hide iy
  have IS := hide (IsI_new IS.out g2)
  have hG := hide (grown_none hG.out g2)
  clear iy g2 hb2
  go_wp2_with fail
  refine (bigAdd_any bs bs bd (s * 31821) 13849 _ (IsI_struct IS.out) IS.out IY.out (by rw [P8]; omega) (by rw [P8]; omega)).mono ?_
  rintro ee we ⟨rfl, ip, g3⟩
  have hG := hide (grown_own hG.out g3 (by rw [BS.out]; exact Nat.le_refl _))
  have IS := hide ip
  clear ip g3 IY
  go_wp2_with fail
  refine (newInt_any 65536 _ (by omega) (by omega)).mono ?_
  rintro ee wf ⟨bf, rfl, hb2, iy, g2⟩
  have IY := hide iy
  have IS := hide (IsI_new IS.out g2)
  have hG := hide (grown_none hG.out g2)
  clear iy g2 hb2
  go_wp2_with fail
  refine (bigMod_any bs bs bf (s * 31821 + 13849) 65536 _ (IsI_struct IS.out) IS.out IY.out (by omega) (by omega) (by omega) (by omega)).mono ?_
  rintro ee wg ⟨rfl, ip, g3⟩
  rw [EN.out] at ip
  have hG := hide (grown_own hG.out g3 (by rw [BS.out]; exact Nat.le_refl _))
  have I := hide (i64_any bs t wg ip (by omega) (by omega))
  clear ip g3 IY IS EN
  go_wp2_with fail
  refine I.out.mono ?_
  rintro ee wh ⟨rfl, rfl⟩
  clear I
  have W1 := hide (wrap_in _ (Int.le_trans (by omega) p1) (Int.le_trans p2 (by omega)))
  clear p1 p2
  go_wp2_with fail
  rw [EZ.out, W1.out]
  clear EZ W1
  refine (DN.out _).mono ?_
  rintro ee wi ⟨rfl, g2⟩
  have F1 := hide (F.out wi (grown_none hG.out g2))
  clear DN F hG g2
  go_wp2_with fail
  first | exact F1.out | (go_ret2; exact F1.out)
end Go.Proofs.Ytjepkgdejkifcaa
