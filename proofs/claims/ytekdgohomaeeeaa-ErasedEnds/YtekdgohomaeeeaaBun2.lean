/- Texts put together: CnpD, LCnK, Opens, OpensM. -/
import Derived.Test.YtekdgohomaeeeaaBun1
import Derived.OpenShut
import Derived.ProofKit
import Derived.SizedLaws
import Derived.Carry
/- CnpD -/
namespace Go.Proofs.Ytekdgohomaeeeaa
open Go.RowKit
set_option linter.unusedVariables false
set_option linter.unusedSimpArgs false
set_option maxHeartbeats 2000000
set_option maxRecDepth 100000 in
theorem conErased_no1 (l : List Int) (s : Bool) (half : Int) (hl : l.length = 101) (hg : goodM l = false) (w : World) : Calls Try.prog 19 #[memV l s, .int .i64 half] w (MemE w (erM l half) (erS l half s) (erL l half) (erE l half)) := by
  have M0 := hide (MmS.new w l s)
  have GD := hide (fun wr => conGood_any l s hl wr)
  rw [hg] at GD
  have hno : ¬ erO l half := by unfold erO; rintro ⟨k, _⟩; rw [hg] at k; cases k
  have F := hide (show ∀ w', w.grownBy w' none → MemE w (erM l half) (erS l half s) (erL l half) (erE l half) (.returned (.tuple #[memV (zeros 101) false, .slice none 0 0, .int .i64 2])) w' from fun w' q => ⟨_, by rw [(er_no (s := s) hno).1, (er_no (s := s) hno).2.1, (er_no (s := s) hno).2.2.2], by rw [(er_no (s := s) hno).2.2.1]; exact Own_nil _ _, q⟩)
  have CL := hide (memC_len hl s)
  have AL := hide (BlkM.all s hl)
  have ZL := hide (memC_len (zeros_len 101) false)
  have ZO := hide (memC_one (zeros 101) false)
  have hz := zero_mem
  have ZB := hide (fun wr (h : MmS w l s wr) => h.fin (zeros 101) false (zeros_len 101))
  clear hg hno
  generalize MemE w (erM l half) (erS l half s) (erL l half) (erE l half) = T at *
  unfold memV at hz F GD ⊢
  go_enter Try.func19, Try.ntmps19
  go_upto_region 1 with fail
  generalize (w.alloc (.cells (memC l s).toArray 25)).alloc (.cells (memC (zeros 101) false).toArray 25) = W0 at *
  go_wp2_with (refine wpList_load_v rfl 25 _ rfl w.heap.size 0 102 rfl 25 (memC l s) M0.out.1 _ Try.underlying25 rfl size102 (by rw [CL.out]; omega) _ AL.out ?_)
  refine (GD.out W0).mono ?_
  rintro e W1 ⟨rfl, g1⟩
  have M1 := hide (M0.out.keep g1)
  have PB := hide (ZB.out W1 M1.out)
  have FF := hide (F.out _ PB.out.2)
  clear M0 g1 GD ZB F
  go_wp2_with (first | refine wpList_store_v rfl 25 _ _ rfl (w.heap.size + 1) 0 25 (memC (zeros 101) false) (memC (zeros 101) false) rfl rfl M1.out.2.1 (by rw [ZL.out]; omega) (by rw [ZL.out]; exact size102) ZO.out ?_)
  have hlv := loadVar_v PB.out.1 _ Try.underlying25 rfl (by rw [ZL.out]; exact size102)
  refine bodyPost_ret (v := .tuple #[.agg (memC (zeros 101) false).toArray, .slice none 0 0, .int .i64 2]) ?_ rfl FF.out
  simp [results, Try.results19, asAddr, Act.put, hlv]
set_option maxRecDepth 100000 in
theorem conErased_no2 (l : List Int) (s : Bool) (half : Int) (hl : l.length = 101) (hg : goodM l = true) (hh : ¬ (0 ≤ half ∧ half ≤ 1)) (w : World) : Calls Try.prog 19 #[memV l s, .int .i64 half] w (MemE w (erM l half) (erS l half s) (erL l half) (erE l half)) := by
  have M0 := hide (MmS.new w l s)
  have GD := hide (fun wr => conGood_any l s hl wr)
  rw [hg] at GD
  have hno : ¬ erO l half := by unfold erO; exact fun k => hh k.2
  have F := hide (show ∀ w', w.grownBy w' none → MemE w (erM l half) (erS l half s) (erL l half) (erE l half) (.returned (.tuple #[memV (zeros 101) false, .slice none 0 0, .int .i64 2])) w' from fun w' q => ⟨_, by rw [(er_no (s := s) hno).1, (er_no (s := s) hno).2.1, (er_no (s := s) hno).2.2.2], by rw [(er_no (s := s) hno).2.2.1]; exact Own_nil _ _, q⟩)
  have CL := hide (memC_len hl s)
  have AL := hide (BlkM.all s hl)
  have ZL := hide (memC_len (zeros_len 101) false)
  have ZO := hide (memC_one (zeros 101) false)
  have hz := zero_mem
  have ZB := hide (fun wr (h : MmS w l s wr) => h.fin (zeros 101) false (zeros_len 101))
  have WI := hide (fun u => conWithin_any half 0 1 u)
  rw [decide_eq_false hh] at WI
  clear hh
  clear hg hno
  generalize MemE w (erM l half) (erS l half s) (erL l half) (erE l half) = T at *
  unfold memV at hz F GD ⊢
  go_enter Try.func19, Try.ntmps19
  go_upto_region 1 with fail
  generalize (w.alloc (.cells (memC l s).toArray 25)).alloc (.cells (memC (zeros 101) false).toArray 25) = W0 at *
  go_wp2_with (refine wpList_load_v rfl 25 _ rfl w.heap.size 0 102 rfl 25 (memC l s) M0.out.1 _ Try.underlying25 rfl size102 (by rw [CL.out]; omega) _ AL.out ?_)
  refine (GD.out W0).mono ?_
  rintro e W1 ⟨rfl, g1⟩
  have M1 := hide (M0.out.keep g1)
  have PB := hide (ZB.out W1 M1.out)
  have FF := hide (F.out _ PB.out.2)
  clear M0 g1 GD ZB F
  go_wp2_with fail
  refine (WI.out _).mono ?_
  rintro e W2 ⟨rfl, rfl⟩
  clear WI
  go_wp2_with (first | refine wpList_store_v rfl 25 _ _ rfl (w.heap.size + 1) 0 25 (memC (zeros 101) false) (memC (zeros 101) false) rfl rfl M1.out.2.1 (by rw [ZL.out]; omega) (by rw [ZL.out]; exact size102) ZO.out ?_)
  have hlv := loadVar_v PB.out.1 _ Try.underlying25 rfl (by rw [ZL.out]; exact size102)
  refine bodyPost_ret (v := .tuple #[.agg (memC (zeros 101) false).toArray, .slice none 0 0, .int .i64 2]) ?_ rfl FF.out
  simp [results, Try.results19, asAddr, Act.put, hlv]
set_option maxRecDepth 100000 in
theorem conErased_up (l : List Int) (s : Bool) (half : Int) (hl : l.length = 101) (hg : goodM l = true) (hh : half = 0) (h6 : nth l 99 < 6) (w : World) : Calls Try.prog 19 #[memV l s, .int .i64 half] w (MemE w (erM l half) (erS l half s) (erL l half) (erE l half)) := by
  have M0 := hide (MmS.new w l s)
  have GD := hide (fun wr => conGood_any l s hl wr)
  have h64 := good_64 hl hg
  have hk : erO l half := ⟨hg, by omega, by omega⟩
  have EB := erN_bd l half hg
  rw [hg] at GD
  have WI := hide (fun u => conWithin_any half 0 1 u)
  rw [decide_eq_true (show 0 ≤ half ∧ half ≤ 1 by omega)] at WI
  have hx3 : (half == 0) = true := beq_iff_eq.2 hh
  have h60 : 0 ≤ nth l 99 ∧ nth l 99 ≤ 6 := (goodM_iff l).1 hg 99 (by omega)
  obtain ⟨er, her⟩ : ∃ er, erN l half = er := ⟨_, rfl⟩
  obtain ⟨f1, hf1⟩ : ∃ f1, fdV (nth l 96) er = f1 := ⟨_, rfl⟩
  obtain ⟨f2, hf2⟩ : ∃ f2, fdV (nth l 97) er = f2 := ⟨_, rfl⟩
  obtain ⟨sz, hsz⟩ : ∃ sz, f1 / 4 = sz := ⟨_, rfl⟩
  obtain ⟨l1, hl1⟩ : ∃ l1, l.set 99 (nth l 99 + 1) = l1 := ⟨_, rfl⟩
  have E1 : l1 = l.set 99 er := by rw [← hl1, ← her]; unfold erN; rw [if_pos ⟨hh, h6⟩]
  have L1 := hide (show l1.length = 101 by rw [E1, List.length_set]; exact hl)
  have E96 := hide (show nth l1 96 = nth l 96 by rw [E1, setN _ _ _ (by omega), if_neg (by omega)])
  have E97 := hide (show nth l1 97 = nth l 97 by rw [E1, setN _ _ _ (by omega), if_neg (by omega)])
  have E98 := hide (show nth l1 98 = nth l 98 by rw [E1, setN _ _ _ (by omega), if_neg (by omega)])
  have E99 := hide (show nth l1 99 = er by rw [E1, setN _ _ _ (by omega), if_pos rfl])
  have E100 := hide (show nth l1 100 = nth l 100 by rw [E1, setN _ _ _ (by omega), if_neg (by omega)])
  have D97 := hide (show ∀ z, nth (l1.set 100 z) 97 = nth l 97 from fun z => by rw [setN _ _ _ (by rw [L1.out]; omega), if_neg (by omega)]; exact E97.out)
  have D98 := hide (show ∀ z, nth (l1.set 100 z) 98 = nth l 98 from fun z => by rw [setN _ _ _ (by rw [L1.out]; omega), if_neg (by omega)]; exact E98.out)
  have D99 := hide (show ∀ z, nth (l1.set 100 z) 99 = er from fun z => by rw [setN _ _ _ (by rw [L1.out]; omega), if_neg (by omega)]; exact E99.out)
  have NZ := hide (fun wr => conNoise_any l1 s sz L1.out wr)
  rw [E100.out] at NZ
  have EZ : nzL (nth l 100) sz 40 = erZ l half := by unfold erZ; rw [her, hf1, hsz]
  rw [EZ] at NZ
  have MO := er_mix l half hg
  rw [her, hf2] at MO
  have MX := hide (fun v wr (hv : Ints wr v (erZ l half)) => conMix_any (prt l 16 80) (nth l 98) f2 v (erZ l half) wr (prt_len _ _ _) hv (by rw [erZ_len]; omega))
  rw [(mxL_yes (h := prt l 16 80) MO).1, (mxL_yes (h := prt l 16 80) MO).2] at MX
  have EX : mxA (pasL (prt l 16 80) (nth l 98)) f2 (erZ l half) = erX l half := by unfold erX; rw [her, hf2]
  rw [EX] at MX
  have KP := hide (fun v wr (hv : Ints wr v (erX l half)) => conKeep_any (prt l 16 80) v (erX l half) wr (prt_len _ _ _) hv (by rw [erX_len]; omega))
  rw [(kpL_yes (h := prt l 16 80) (erX_len l half)).1, (kpL_yes (h := prt l 16 80) (erX_len l half)).2] at KP
  have KL := hide (kpA_len (prt l 16 80) (erX l half))
  have F := hide (show ∀ v' w', Own w.heap.size w' v' (erX l half) → w.grownBy w' none → MemE w (erM l half) (erS l half s) (erL l half) (erE l half) (.returned (.tuple #[memV (ovr (l1.set 100 (sdN (nth l 100) 40)) 16 (kpA (prt l 16 80) (erX l half))) s, v', .int .i64 0])) w' from fun v' w' o q =>
    ⟨v', by rw [(er_yes (s := s) hk).1, (er_yes (s := s) hk).2.1, (er_yes (s := s) hk).2.2.2]; unfold memT; rw [her, E1], by rw [(er_yes (s := s) hk).2.2.1]; exact o, q⟩)
  have PS := hide (show prt l1 16 80 = prt l 16 80 by rw [E1]; exact prt_set l 99 _ 16 80 (by omega) (.inr (by omega)))
  have PS2 := hide (fun z => prt_set l1 100 z 16 80 (by rw [L1.out]; omega) (.inr (by omega)))
  have CL := hide (memC_len hl s)
  have AL := hide (BlkM.all s hl)
  have C1 := hide (memC_len L1.out s)
  have A1 := hide (BlkM.all s L1.out)
  have ZL := hide (memC_len (zeros_len 101) false)
  have HL := hide hl
  have fb := fdV_bd (nth l 96) er
  rw [hf1] at fb
  have FD1 := hide hf1
  have FD2 := hide hf2
  have hsz1 : f1.tdiv 4 = sz := by rw [Int.tdiv_eq_ediv_of_nonneg fb.1]; exact hsz
  have hsz2 : f1 / 4 = sz := hsz
  have WSZ := wrapI sz (by omega) (by omega)
  have hz := zero_mem
  have HL1 := hide hl1
  clear hg h64 hl hf1 hf2 hsz EZ EX MO hk E1 hl1 fb hh her
  generalize MemE w (erM l half) (erS l half s) (erL l half) (erE l half) = T at *
  unfold NsE at NZ
  unfold memV at hz F GD NZ ⊢
  generalize erX l half = X at *
  generalize erZ l half = N at *
  generalize sdN (nth l 100) 40 = sd at *
  generalize nth l 96 = g0 at *
  generalize nth l 97 = p0 at *
  generalize nth l 98 = lg at *
  replace D97 := hide (D97.out sd)
  replace D98 := hide (D98.out sd)
  replace D99 := hide (D99.out sd)
  have L2 := hide (show (l1.set 100 sd).length = 101 by rw [List.length_set]; exact L1.out)
  have C2 := hide (memC_len L2.out s)
  have ON1 := hide (memC_one (l1.set 100 sd) s)
  have P2 := hide (BlkM.part (l := l1.set 100 sd) s 16 80 (by rw [L2.out]; omega))
  rw [PS2.out, PS.out] at P2
  go_enter Try.func19, Try.ntmps19
  go_upto_region 1 with fail
  generalize (w.alloc (.cells (memC l s).toArray 25)).alloc (.cells (memC (zeros 101) false).toArray 25) = W0 at *
  clear hz
  go_wp2_with (refine wpList_load_v rfl 25 _ rfl w.heap.size 0 102 rfl 25 (memC l s) M0.out.1 _ Try.underlying25 rfl size102 (by rw [CL.out]; omega) _ AL.out ?_)
  refine (GD.out W0).mono ?_
  rintro e W1 ⟨rfl, g1⟩
  have M1 := hide (M0.out.keep g1)
  clear M0 g1 GD
  go_wp2_with fail
  refine (WI.out _).mono ?_
  rintro e w1 ⟨rfl, rfl⟩
  clear WI
  have M2 := hide (show MmS w l1 s (w1.setCell ⟨w.heap.size, 99, none⟩ (.int .i64 (nth l 99 + 1))) from by rw [← HL1.out]; exact M1.out.set 99 ((nth l 99 + 1)) (by rw [HL.out]; omega))
  have c99 := M1.out.1.cell 99 (by rw [HL.out]; omega)
  have f99 := M1.out.1.free 99
  generalize hz9 : nth l 99 = z9 at *
  go_upto_region 5 with fail
  clear c99 f99 M1
  generalize w1.setCell ⟨w.heap.size, 99, none⟩ (.int .i64 (z9 + 1)) = W2 at *
  have B2 := hide (show w.heap.size + 1 < W2.heap.size from M2.out.2.1.lt)
  have B2' := hide (show w.heap.size ≤ W2.heap.size from M2.out.2.2.size)
  refine wp_region_G 11 (GrownW W2) 13 (by rfl) #[false, false, false, false, false, false, false, false, false, false, false, false, false] (by rfl) (by kernel_rfl) (fun hcl => ?_)
  have hHeld := (gw_start W2)
  refine wpAnyG_take (i := 0) (v := .agg (memC l1 s).toArray) rfl (by kernel_rfl) hcl (fun _ _ _ h => h) (Or.inl ⟨by rfl, ?yea0⟩) hHeld (fun hcl => ?rea0)
  case yea0 => (intro w' hSw; (try dsimp only at hSw); exact yields_load_v rfl rfl (M2.out.1.keep hSw) _ Try.underlying25 rfl size102 (by rw [C1.out]; omega) _ A1.out)
  (try simp only [Act.put, sL])
  refine wpAnyG_take (i := 1) (v := ?vea1) rfl (by kernel_rfl) hcl (fun _ _ _ h => h) (Or.inl ⟨by rfl, ?yea1⟩) hHeld (fun hcl => ?rea1)
  case yea1 => (intro w' hSw; (try dsimp only at hSw); go_simp; (try with_reducible rfl))
  (try simp only [Act.put, sL])
  refine wpAnyG_take (i := 2) (v := .int .i64 g0) rfl (by kernel_rfl) hcl (fun _ _ _ h => h) (Or.inl ⟨by rfl, ?yea2⟩) hHeld (fun hcl => ?rea2)
  case yea2 => (intro w' hSw; (try dsimp only at hSw); have cc := (M2.out.1.keep hSw).cell 96 (by rw [L1.out]; omega); rw [E96.out] at cc; go_simp; (try with_reducible rfl))
  (try simp only [Act.put, sL])
  refine wpAnyG_take (i := 3) (v := ?vea3) rfl (by kernel_rfl) hcl (fun _ _ _ h => h) (Or.inl ⟨by rfl, ?yea3⟩) hHeld (fun hcl => ?rea3)
  case yea3 => (intro w' hSw; (try dsimp only at hSw); go_simp; (try with_reducible rfl))
  (try simp only [Act.put, sL])
  refine wpAnyG_take (i := 4) (v := .int .i64 er) rfl (by kernel_rfl) hcl (fun _ _ _ h => h) (Or.inl ⟨by rfl, ?yea4⟩) hHeld (fun hcl => ?rea4)
  case yea4 => (intro w' hSw; (try dsimp only at hSw); have cc := (M2.out.1.keep hSw).cell 99 (by rw [L1.out]; omega); rw [E99.out] at cc; go_simp; (try with_reducible rfl))
  (try simp only [Act.put, sL])
  refine wpAnyG_exec (i := 5) rfl (by kernel_rfl) hcl (fun K hK => ?_)
  (try simp only [Act.put, sL])
  go_simp
  refine (gaiFade_any g0 er _).mono ?_
  rintro e w1 ⟨rfl, rfl⟩
  rw [FD1.out]
  go_wp2_with fail
  have hNew := hHeld
  refine hK.out _ _ (fun _ => hNew) (fun hcl => ?_)
  clear hK
  replace hHeld := hNew
  clear hNew
  (try simp only [Act.put, sL])
  refine wpAnyG_take (i := 6) (v := .int .i64 sz) rfl (by kernel_rfl) hcl (fun _ _ _ h => h) (Or.inl ⟨by rfl, ?yea6⟩) hHeld (fun hcl => ?rea6)
  case yea6 => (intro w' hSw; (try dsimp only at hSw); go_simp; (try simp only [hsz1, hsz2, WSZ]))
  (try simp only [Act.put, sL])
  refine wpAnyG_exec (i := 7) rfl (by kernel_rfl) hcl (fun K hK => ?_)
  (try simp only [Act.put, sL])
  go_simp
  refine (NZ.out _).mono ?_
  rintro e w2 ⟨v2, rfl, o2, q2⟩
  have Q2 := hide q2
  have O2 := hide (o2.base hHeld.size)
  clear q2 o2
  go_wp2_with fail
  have hNew := (gw_trans hHeld Q2.out)
  refine hK.out _ _ (fun _ => hNew) (fun hcl => ?_)
  clear hK
  replace hHeld := hNew
  clear hNew
  (try simp only [Act.put, sL])
  refine wpAnyG_take (i := 8) (v := ?vea8) rfl (by kernel_rfl) hcl (fun _ _ _ h => h) (Or.inl ⟨by rfl, ?yea8⟩) hHeld (fun hcl => ?rea8)
  case yea8 => (intro w' hSw; (try dsimp only at hSw); go_simp; (try with_reducible rfl))
  (try simp only [Act.put, sL])
  refine wpAnyG_take (i := 9) (v := ?vea9) rfl (by kernel_rfl) hcl (fun _ _ _ h => h) (Or.inl ⟨by rfl, ?yea9⟩) hHeld (fun hcl => ?rea9)
  case yea9 => (intro w' hSw; (try dsimp only at hSw); go_simp; (try with_reducible rfl))
  (try simp only [Act.put, sL])
  refine wpAnyG_takeF (i := 10) (v := ?vea10) rfl (by kernel_rfl) hcl (fun _ _ _ h => h) (Or.inl ⟨by rfl, ?yea10⟩) hHeld (fun hcl => ?rea10)
  case yea10 => (intro w' _; go_simp; (try with_reducible rfl))
  (try simp only [Act.put, sL])
  refine wpAnyG_exec (i := 11) rfl (by kernel_rfl) hcl (fun K hK => ?_)
  (try simp only [Act.put, sL])
  have M3p := hide (M2.out.keep hHeld)
  have M3' := M3p.out.all (l1.set 100 sd) s L1.out L2.out
  have M3 := hide M3'.1
  have O3 := hide (O2.out.keepLt M3'.2 (by have := B2.out; omega))
  clear O2 M3'
  refine step_store_v rfl 25 _ _ rfl w.heap.size 0 25 (memC l1 s) (memC (l1.set 100 sd) s) rfl rfl M3p.out.1 (by rw [C1.out, C2.out]; omega) (by rw [C2.out]; exact size102) ON1.out ?_
  refine hK.out _ _ (fun h => by cases h) (fun hcl => ?_)
  clear hK hHeld
  (try simp only [Act.put, sL])
  clear M3p M2 Q2
  generalize putV w2 w.heap.size 0 (memC (l1.set 100 sd) s) = W3 at *
  refine wpAnyG_of_any _ _ _ _ (by rfl) ?_
  refine wpAny_take (i := 12) (v := ?vea12) rfl (by kernel_rfl) (by kernel_rfl) (by kernel_rfl) (fun _ _ _ h => h) (Or.inl ⟨by rfl, ?yea12⟩) ?rea12
  case yea12 => (intro w'; go_simp; (try with_reducible rfl))
  (try simp only [Act.put, sL])
  refine wpAny_done (by kernel_rfl) ?_ _
  clear NZ
  go_upto_region 6 with fail
  refine wp_region_held_drew (S := GrownW W3) (by kernel_rfl) (gw_start _) (fun hHeld => ?_)
  refine wpAnyH_take (i := 0) (v := ?veb0) rfl (by kernel_rfl) (by kernel_rfl) (by kernel_rfl) (fun _ _ _ h => h) (Or.inl ⟨by rfl, ?yeb0⟩) hHeld ?reb0
  case yeb0 => (intro w' hSw; go_simp; (try with_reducible rfl))
  (try simp only [Act.put, sL])
  refine wpAnyH_take (i := 1) (v := .agg (intsV (prt l 16 80)).toArray) rfl (by kernel_rfl) (by kernel_rfl) (by kernel_rfl) (fun _ _ _ h => h) (Or.inl ⟨by rfl, ?yeb1⟩) hHeld ?reb1
  case yeb1 => (intro w' hSw; exact yields_load_v rfl rfl (M3.out.1.keep hSw) _ Try.underlying23 rfl size80c (by rw [C2.out]; omega) _ P2.out)
  (try simp only [Act.put, sL])
  refine wpAnyH_take (i := 2) (v := ?veb2) rfl (by kernel_rfl) (by kernel_rfl) (by kernel_rfl) (fun _ _ _ h => h) (Or.inl ⟨by rfl, ?yeb2⟩) hHeld ?reb2
  case yeb2 => (intro w' hSw; go_simp; (try with_reducible rfl))
  (try simp only [Act.put, sL])
  refine wpAnyH_take (i := 3) (v := .int .i64 lg) rfl (by kernel_rfl) (by kernel_rfl) (by kernel_rfl) (fun _ _ _ h => h) (Or.inl ⟨by rfl, ?yeb3⟩) hHeld ?reb3
  case yeb3 => (intro w' hSw; have cc := (M3.out.1.keep hSw).cell 98 (by rw [L2.out]; omega); rw [D98.out] at cc; go_simp; (try with_reducible rfl))
  (try simp only [Act.put, sL])
  refine wpAnyH_take (i := 4) (v := ?veb4) rfl (by kernel_rfl) (by kernel_rfl) (by kernel_rfl) (fun _ _ _ h => h) (Or.inl ⟨by rfl, ?yeb4⟩) hHeld ?reb4
  case yeb4 => (intro w' hSw; go_simp; (try with_reducible rfl))
  (try simp only [Act.put, sL])
  refine wpAnyH_take (i := 5) (v := .int .i64 p0) rfl (by kernel_rfl) (by kernel_rfl) (by kernel_rfl) (fun _ _ _ h => h) (Or.inl ⟨by rfl, ?yeb5⟩) hHeld ?reb5
  case yeb5 => (intro w' hSw; have cc := (M3.out.1.keep hSw).cell 97 (by rw [L2.out]; omega); rw [D97.out] at cc; go_simp; (try with_reducible rfl))
  (try simp only [Act.put, sL])
  refine wpAnyH_take (i := 6) (v := ?veb6) rfl (by kernel_rfl) (by kernel_rfl) (by kernel_rfl) (fun _ _ _ h => h) (Or.inl ⟨by rfl, ?yeb6⟩) hHeld ?reb6
  case yeb6 => (intro w' hSw; go_simp; (try with_reducible rfl))
  (try simp only [Act.put, sL])
  refine wpAnyH_take (i := 7) (v := .int .i64 er) rfl (by kernel_rfl) (by kernel_rfl) (by kernel_rfl) (fun _ _ _ h => h) (Or.inl ⟨by rfl, ?yeb7⟩) hHeld ?reb7
  case yeb7 => (intro w' hSw; have cc := (M3.out.1.keep hSw).cell 99 (by rw [L2.out]; omega); rw [D99.out] at cc; go_simp; (try with_reducible rfl))
  (try simp only [Act.put, sL])
  refine wpAnyH_take (i := 9) (v := ?veb9) rfl (by kernel_rfl) (by kernel_rfl) (by kernel_rfl) (fun _ _ _ h => h) (Or.inl ⟨by rfl, ?yeb9⟩) hHeld ?reb9
  case yeb9 => (intro w' hSw; go_simp; (try with_reducible rfl))
  (try simp only [Act.put, sL])
  refine wpAnyH_ready (rs := [8]) (by kernel_rfl) (by simp) (AllReadyH.cons rfl (fun K hK => ?_) AllReadyH.nil)
  (try simp only [Act.put, sL])
  go_simp
  refine (gaiFade_any p0 er _).mono ?_
  rintro e w3 ⟨rfl, rfl⟩
  rw [FD2.out]
  go_wp2_with fail
  refine hK.out _ _ hHeld (fun hHeld => ?_)
  clear hK
  (try simp only [Act.put, sL])
  refine wpAnyH_ready (rs := [10]) (by kernel_rfl) (by simp) (AllReadyH.cons rfl (fun K hK => ?_) AllReadyH.nil)
  (try simp only [Act.put, sL])
  go_simp
  refine (MX.out v2 _ (O3.out.keep hHeld).ints).mono ?_
  rintro e w4 ⟨v4, rfl, o4, q4⟩
  have Q4 := hide q4
  have O4 := hide (o4.base hHeld.size)
  clear q4 o4
  go_wp2_with fail
  refine hK.out _ _ (gw_trans hHeld Q4.out) (fun hHeld => ?_)
  clear hK
  (try simp only [Act.put, sL])
  clear Q4
  refine wpAnyH_take (i := 11) (v := ?veb11) rfl (by kernel_rfl) (by kernel_rfl) (by kernel_rfl) (fun _ _ _ h => h) (Or.inl ⟨by rfl, ?yeb11⟩) hHeld ?reb11
  case yeb11 => (intro w' hSw; go_simp; (try with_reducible rfl))
  (try simp only [Act.put, sL])
  refine wpAnyH_take (i := 12) (v := ?veb12) rfl (by kernel_rfl) (by kernel_rfl) (by kernel_rfl) (fun _ _ _ h => h) (Or.inl ⟨by rfl, ?yeb12⟩) hHeld ?reb12
  case yeb12 => (intro w' hSw; go_simp; (try with_reducible rfl))
  (try simp only [Act.put, sL])
  refine wpAnyH_take (i := 13) (v := ?veb13) rfl (by kernel_rfl) (by kernel_rfl) (by kernel_rfl) (fun _ _ _ h => h) (Or.inl ⟨by rfl, ?yeb13⟩) hHeld ?reb13
  case yeb13 => (intro w' hSw; go_simp; (try with_reducible rfl))
  (try simp only [Act.put, sL])
  refine wpAnyH_take (i := 14) (v := ?veb14) rfl (by kernel_rfl) (by kernel_rfl) (by kernel_rfl) (fun _ _ _ h => h) (Or.inl ⟨by rfl, ?yeb14⟩) hHeld ?reb14
  case yeb14 => (intro w' hSw; go_simp; (try with_reducible rfl))
  (try simp only [Act.put, sL])
  refine wpAnyH_take (i := 15) (v := ?veb15) rfl (by kernel_rfl) (by kernel_rfl) (by kernel_rfl) (fun _ _ _ h => h) (Or.inl ⟨by rfl, ?yeb15⟩) hHeld ?reb15
  case yeb15 => (intro w' hSw; go_simp; (try with_reducible rfl))
  (try simp only [Act.put, sL])
  refine wpAnyH_done (by kernel_rfl) ?_ _
  have M4' := hide (M3.out.keep hHeld)
  have O4' := hide O4.out
  have BL := hide (show w.heap.size + 1 < W3.heap.size from M3.out.2.1.lt)
  have B1 := hide (show w.heap.size ≤ W3.heap.size from M3.out.2.2.size)
  clear M3 O3 O4 hHeld MX P2
  go_upto_region 7 with fail
  have L1' := L2
  have P3 := hide (BlkM.part (l := l1.set 100 sd) s 16 80 (by rw [L1'.out]; omega))
  rw [PS2.out, PS.out] at P3
  have C3 := C2
  have KK := hide (KP.out v4 w4 O4'.out.ints)
  have M3 := M4'
  have O3 := O4'
  clear KP PS PS2 M4' O4' D97 D98 D99 E96 E97 E98 E99 E100
  go_wp2_with (first | refine wpList_load_v rfl 23 _ rfl w.heap.size 16 80 rfl 25 (memC (l1.set 100 sd) s) M3.out.1 _ Try.underlying23 rfl size80c (by rw [C3.out]; omega) _ P3.out ?_)
  refine KK.out.mono ?_
  rintro e W4 ⟨rfl, g4⟩
  have M4 := hide (M3.out.keep g4)
  have O4 := hide (O3.out.keep g4)
  clear KK M3 O3 g4 P3
  generalize kpA (prt l 16 80) X = R at *
  have M5 := hide (M4.out.put 16 R (by rw [KL.out, L1'.out]; omega))
  have O5 := hide (O4.out.keepLt (M4.out.1.put 16 R (by rw [KL.out, L1'.out]; omega)).2 (by have := BL.out; omega))
  have I_ := hide (intsV_one R)
  have IL := hide (show (intsV R).length = 80 by rw [intsV_len]; exact KL.out)
  clear O4
  go_upto_region 8 with (first | refine wpList_store_v rfl 23 _ _ rfl w.heap.size 16 25 (memC (l1.set 100 sd) s) (intsV R) rfl rfl M4.out.1 (by rw [IL.out, C3.out]; omega) (by rw [IL.out]; exact size80c) I_.out ?_)
  (try simp only [Act.put])
  clear M4 I_ IL C3
  generalize putV W4 w.heap.size 16 (intsV R) = W5 at *
  have L5 := hide (show (ovr (l1.set 100 sd) 16 R).length = 101 by rw [ovr_len]; exact L1'.out)
  generalize ovr (l1.set 100 sd) 16 R = m at *
  have A5 := hide (BlkM.all s L5.out)
  have C5 := hide (memC_len L5.out s)
  have ON := hide (memC_one m s)
  have PB := hide (M5.out.fin m s L5.out)
  have O6 := hide (O5.out.keepLt (M5.out.2.1.putAll (m := m) (t := s) (zeros_len 101) L5.out).2 BL.out)
  have FF := hide (F.out _ _ (O6.out.base B1.out) PB.out.2)
  clear F O5 O6
  go_wp2_with (first | refine wpList_load_v rfl 25 _ rfl w.heap.size 0 102 rfl 25 (memC m s) M5.out.1 _ Try.underlying25 rfl size102 (by rw [C5.out]; omega) _ A5.out ?_ | refine wpList_store_v rfl 25 _ _ rfl (w.heap.size + 1) 0 25 (memC (zeros 101) false) (memC m s) rfl rfl M5.out.2.1 (by rw [ZL.out, C5.out]; omega) (by rw [C5.out]; exact size102) ON.out ?_)
  have hlv := loadVar_v PB.out.1 _ Try.underlying25 rfl (by rw [C5.out]; exact size102)
  refine bodyPost_ret (v := .tuple #[.agg (memC m s).toArray, _, .int .i64 0]) ?_ rfl FF.out
  simp [results, Try.results19, asAddr, Act.put, hlv]
set_option maxRecDepth 100000 in
theorem conErased_top (l : List Int) (s : Bool) (half : Int) (hl : l.length = 101) (hg : goodM l = true) (hh : half = 0) (h6 : ¬ nth l 99 < 6) (w : World) : Calls Try.prog 19 #[memV l s, .int .i64 half] w (MemE w (erM l half) (erS l half s) (erL l half) (erE l half)) := by
  have M0 := hide (MmS.new w l s)
  have GD := hide (fun wr => conGood_any l s hl wr)
  have h64 := good_64 hl hg
  have hk : erO l half := ⟨hg, by omega, by omega⟩
  have EB := erN_bd l half hg
  rw [hg] at GD
  have WI := hide (fun u => conWithin_any half 0 1 u)
  rw [decide_eq_true (show 0 ≤ half ∧ half ≤ 1 by omega)] at WI
  have hx3 : (half == 0) = true := beq_iff_eq.2 hh
  have h60 : 0 ≤ nth l 99 ∧ nth l 99 ≤ 6 := (goodM_iff l).1 hg 99 (by omega)
  obtain ⟨er, her⟩ : ∃ er, erN l half = er := ⟨_, rfl⟩
  obtain ⟨f1, hf1⟩ : ∃ f1, fdV (nth l 96) er = f1 := ⟨_, rfl⟩
  obtain ⟨f2, hf2⟩ : ∃ f2, fdV (nth l 97) er = f2 := ⟨_, rfl⟩
  obtain ⟨sz, hsz⟩ : ∃ sz, f1 / 4 = sz := ⟨_, rfl⟩
  obtain ⟨l1, hl1⟩ : ∃ l1, l.set 99 6 = l1 := ⟨_, rfl⟩
  have E1 : l1 = l.set 99 er := by rw [← hl1, ← her]; unfold erN; rw [if_neg (fun k => h6 k.2), show nth l 99 = 6 by omega]
  have L1 := hide (show l1.length = 101 by rw [E1, List.length_set]; exact hl)
  have E96 := hide (show nth l1 96 = nth l 96 by rw [E1, setN _ _ _ (by omega), if_neg (by omega)])
  have E97 := hide (show nth l1 97 = nth l 97 by rw [E1, setN _ _ _ (by omega), if_neg (by omega)])
  have E98 := hide (show nth l1 98 = nth l 98 by rw [E1, setN _ _ _ (by omega), if_neg (by omega)])
  have E99 := hide (show nth l1 99 = er by rw [E1, setN _ _ _ (by omega), if_pos rfl])
  have E100 := hide (show nth l1 100 = nth l 100 by rw [E1, setN _ _ _ (by omega), if_neg (by omega)])
  have D97 := hide (show ∀ z, nth (l1.set 100 z) 97 = nth l 97 from fun z => by rw [setN _ _ _ (by rw [L1.out]; omega), if_neg (by omega)]; exact E97.out)
  have D98 := hide (show ∀ z, nth (l1.set 100 z) 98 = nth l 98 from fun z => by rw [setN _ _ _ (by rw [L1.out]; omega), if_neg (by omega)]; exact E98.out)
  have D99 := hide (show ∀ z, nth (l1.set 100 z) 99 = er from fun z => by rw [setN _ _ _ (by rw [L1.out]; omega), if_neg (by omega)]; exact E99.out)
  have NZ := hide (fun wr => conNoise_any l1 s sz L1.out wr)
  rw [E100.out] at NZ
  have EZ : nzL (nth l 100) sz 40 = erZ l half := by unfold erZ; rw [her, hf1, hsz]
  rw [EZ] at NZ
  have MO := er_mix l half hg
  rw [her, hf2] at MO
  have MX := hide (fun v wr (hv : Ints wr v (erZ l half)) => conMix_any (prt l 16 80) (nth l 98) f2 v (erZ l half) wr (prt_len _ _ _) hv (by rw [erZ_len]; omega))
  rw [(mxL_yes (h := prt l 16 80) MO).1, (mxL_yes (h := prt l 16 80) MO).2] at MX
  have EX : mxA (pasL (prt l 16 80) (nth l 98)) f2 (erZ l half) = erX l half := by unfold erX; rw [her, hf2]
  rw [EX] at MX
  have KP := hide (fun v wr (hv : Ints wr v (erX l half)) => conKeep_any (prt l 16 80) v (erX l half) wr (prt_len _ _ _) hv (by rw [erX_len]; omega))
  rw [(kpL_yes (h := prt l 16 80) (erX_len l half)).1, (kpL_yes (h := prt l 16 80) (erX_len l half)).2] at KP
  have KL := hide (kpA_len (prt l 16 80) (erX l half))
  have F := hide (show ∀ v' w', Own w.heap.size w' v' (erX l half) → w.grownBy w' none → MemE w (erM l half) (erS l half s) (erL l half) (erE l half) (.returned (.tuple #[memV (ovr (l1.set 100 (sdN (nth l 100) 40)) 16 (kpA (prt l 16 80) (erX l half))) s, v', .int .i64 0])) w' from fun v' w' o q =>
    ⟨v', by rw [(er_yes (s := s) hk).1, (er_yes (s := s) hk).2.1, (er_yes (s := s) hk).2.2.2]; unfold memT; rw [her, E1], by rw [(er_yes (s := s) hk).2.2.1]; exact o, q⟩)
  have PS := hide (show prt l1 16 80 = prt l 16 80 by rw [E1]; exact prt_set l 99 _ 16 80 (by omega) (.inr (by omega)))
  have PS2 := hide (fun z => prt_set l1 100 z 16 80 (by rw [L1.out]; omega) (.inr (by omega)))
  have CL := hide (memC_len hl s)
  have AL := hide (BlkM.all s hl)
  have C1 := hide (memC_len L1.out s)
  have A1 := hide (BlkM.all s L1.out)
  have ZL := hide (memC_len (zeros_len 101) false)
  have HL := hide hl
  have fb := fdV_bd (nth l 96) er
  rw [hf1] at fb
  have FD1 := hide hf1
  have FD2 := hide hf2
  have hsz1 : f1.tdiv 4 = sz := by rw [Int.tdiv_eq_ediv_of_nonneg fb.1]; exact hsz
  have hsz2 : f1 / 4 = sz := hsz
  have WSZ := wrapI sz (by omega) (by omega)
  have hz := zero_mem
  have HL1 := hide hl1
  clear hg h64 hl hf1 hf2 hsz EZ EX MO hk E1 hl1 fb hh her
  generalize MemE w (erM l half) (erS l half s) (erL l half) (erE l half) = T at *
  unfold NsE at NZ
  unfold memV at hz F GD NZ ⊢
  generalize erX l half = X at *
  generalize erZ l half = N at *
  generalize sdN (nth l 100) 40 = sd at *
  generalize nth l 96 = g0 at *
  generalize nth l 97 = p0 at *
  generalize nth l 98 = lg at *
  replace D97 := hide (D97.out sd)
  replace D98 := hide (D98.out sd)
  replace D99 := hide (D99.out sd)
  have L2 := hide (show (l1.set 100 sd).length = 101 by rw [List.length_set]; exact L1.out)
  have C2 := hide (memC_len L2.out s)
  have ON1 := hide (memC_one (l1.set 100 sd) s)
  have P2 := hide (BlkM.part (l := l1.set 100 sd) s 16 80 (by rw [L2.out]; omega))
  rw [PS2.out, PS.out] at P2
  go_enter Try.func19, Try.ntmps19
  go_upto_region 1 with fail
  generalize (w.alloc (.cells (memC l s).toArray 25)).alloc (.cells (memC (zeros 101) false).toArray 25) = W0 at *
  clear hz
  go_wp2_with (refine wpList_load_v rfl 25 _ rfl w.heap.size 0 102 rfl 25 (memC l s) M0.out.1 _ Try.underlying25 rfl size102 (by rw [CL.out]; omega) _ AL.out ?_)
  refine (GD.out W0).mono ?_
  rintro e W1 ⟨rfl, g1⟩
  have M1 := hide (M0.out.keep g1)
  clear M0 g1 GD
  go_wp2_with fail
  refine (WI.out _).mono ?_
  rintro e w1 ⟨rfl, rfl⟩
  clear WI
  have M2 := hide (show MmS w l1 s (w1.setCell ⟨w.heap.size, 99, none⟩ (.int .i64 6)) from by rw [← HL1.out]; exact M1.out.set 99 (6) (by rw [HL.out]; omega))
  have c99 := M1.out.1.cell 99 (by rw [HL.out]; omega)
  have f99 := M1.out.1.free 99
  generalize hz9 : nth l 99 = z9 at *
  obtain rfl : z9 = 6 := by omega
  go_upto_region 5 with fail
  clear c99 f99 M1
  generalize w1.setCell ⟨w.heap.size, 99, none⟩ (.int .i64 6) = W2 at *
  have B2 := hide (show w.heap.size + 1 < W2.heap.size from M2.out.2.1.lt)
  have B2' := hide (show w.heap.size ≤ W2.heap.size from M2.out.2.2.size)
  refine wp_region_G 11 (GrownW W2) 13 (by rfl) #[false, false, false, false, false, false, false, false, false, false, false, false, false] (by rfl) (by kernel_rfl) (fun hcl => ?_)
  have hHeld := (gw_start W2)
  refine wpAnyG_take (i := 0) (v := .agg (memC l1 s).toArray) rfl (by kernel_rfl) hcl (fun _ _ _ h => h) (Or.inl ⟨by rfl, ?yea0⟩) hHeld (fun hcl => ?rea0)
  case yea0 => (intro w' hSw; (try dsimp only at hSw); exact yields_load_v rfl rfl (M2.out.1.keep hSw) _ Try.underlying25 rfl size102 (by rw [C1.out]; omega) _ A1.out)
  (try simp only [Act.put, sL])
  refine wpAnyG_take (i := 1) (v := ?vea1) rfl (by kernel_rfl) hcl (fun _ _ _ h => h) (Or.inl ⟨by rfl, ?yea1⟩) hHeld (fun hcl => ?rea1)
  case yea1 => (intro w' hSw; (try dsimp only at hSw); go_simp; (try with_reducible rfl))
  (try simp only [Act.put, sL])
  refine wpAnyG_take (i := 2) (v := .int .i64 g0) rfl (by kernel_rfl) hcl (fun _ _ _ h => h) (Or.inl ⟨by rfl, ?yea2⟩) hHeld (fun hcl => ?rea2)
  case yea2 => (intro w' hSw; (try dsimp only at hSw); have cc := (M2.out.1.keep hSw).cell 96 (by rw [L1.out]; omega); rw [E96.out] at cc; go_simp; (try with_reducible rfl))
  (try simp only [Act.put, sL])
  refine wpAnyG_take (i := 3) (v := ?vea3) rfl (by kernel_rfl) hcl (fun _ _ _ h => h) (Or.inl ⟨by rfl, ?yea3⟩) hHeld (fun hcl => ?rea3)
  case yea3 => (intro w' hSw; (try dsimp only at hSw); go_simp; (try with_reducible rfl))
  (try simp only [Act.put, sL])
  refine wpAnyG_take (i := 4) (v := .int .i64 er) rfl (by kernel_rfl) hcl (fun _ _ _ h => h) (Or.inl ⟨by rfl, ?yea4⟩) hHeld (fun hcl => ?rea4)
  case yea4 => (intro w' hSw; (try dsimp only at hSw); have cc := (M2.out.1.keep hSw).cell 99 (by rw [L1.out]; omega); rw [E99.out] at cc; go_simp; (try with_reducible rfl))
  (try simp only [Act.put, sL])
  refine wpAnyG_exec (i := 5) rfl (by kernel_rfl) hcl (fun K hK => ?_)
  (try simp only [Act.put, sL])
  go_simp
  refine (gaiFade_any g0 er _).mono ?_
  rintro e w1 ⟨rfl, rfl⟩
  rw [FD1.out]
  go_wp2_with fail
  have hNew := hHeld
  refine hK.out _ _ (fun _ => hNew) (fun hcl => ?_)
  clear hK
  replace hHeld := hNew
  clear hNew
  (try simp only [Act.put, sL])
  refine wpAnyG_take (i := 6) (v := .int .i64 sz) rfl (by kernel_rfl) hcl (fun _ _ _ h => h) (Or.inl ⟨by rfl, ?yea6⟩) hHeld (fun hcl => ?rea6)
  case yea6 => (intro w' hSw; (try dsimp only at hSw); go_simp; (try simp only [hsz1, hsz2, WSZ]))
  (try simp only [Act.put, sL])
  refine wpAnyG_exec (i := 7) rfl (by kernel_rfl) hcl (fun K hK => ?_)
  (try simp only [Act.put, sL])
  go_simp
  refine (NZ.out _).mono ?_
  rintro e w2 ⟨v2, rfl, o2, q2⟩
  have Q2 := hide q2
  have O2 := hide (o2.base hHeld.size)
  clear q2 o2
  go_wp2_with fail
  have hNew := (gw_trans hHeld Q2.out)
  refine hK.out _ _ (fun _ => hNew) (fun hcl => ?_)
  clear hK
  replace hHeld := hNew
  clear hNew
  (try simp only [Act.put, sL])
  refine wpAnyG_take (i := 8) (v := ?vea8) rfl (by kernel_rfl) hcl (fun _ _ _ h => h) (Or.inl ⟨by rfl, ?yea8⟩) hHeld (fun hcl => ?rea8)
  case yea8 => (intro w' hSw; (try dsimp only at hSw); go_simp; (try with_reducible rfl))
  (try simp only [Act.put, sL])
  refine wpAnyG_take (i := 9) (v := ?vea9) rfl (by kernel_rfl) hcl (fun _ _ _ h => h) (Or.inl ⟨by rfl, ?yea9⟩) hHeld (fun hcl => ?rea9)
  case yea9 => (intro w' hSw; (try dsimp only at hSw); go_simp; (try with_reducible rfl))
  (try simp only [Act.put, sL])
  refine wpAnyG_takeF (i := 10) (v := ?vea10) rfl (by kernel_rfl) hcl (fun _ _ _ h => h) (Or.inl ⟨by rfl, ?yea10⟩) hHeld (fun hcl => ?rea10)
  case yea10 => (intro w' _; go_simp; (try with_reducible rfl))
  (try simp only [Act.put, sL])
  refine wpAnyG_exec (i := 11) rfl (by kernel_rfl) hcl (fun K hK => ?_)
  (try simp only [Act.put, sL])
  have M3p := hide (M2.out.keep hHeld)
  have M3' := M3p.out.all (l1.set 100 sd) s L1.out L2.out
  have M3 := hide M3'.1
  have O3 := hide (O2.out.keepLt M3'.2 (by have := B2.out; omega))
  clear O2 M3'
  refine step_store_v rfl 25 _ _ rfl w.heap.size 0 25 (memC l1 s) (memC (l1.set 100 sd) s) rfl rfl M3p.out.1 (by rw [C1.out, C2.out]; omega) (by rw [C2.out]; exact size102) ON1.out ?_
  refine hK.out _ _ (fun h => by cases h) (fun hcl => ?_)
  clear hK hHeld
  (try simp only [Act.put, sL])
  clear M3p M2 Q2
  generalize putV w2 w.heap.size 0 (memC (l1.set 100 sd) s) = W3 at *
  refine wpAnyG_of_any _ _ _ _ (by rfl) ?_
  refine wpAny_take (i := 12) (v := ?vea12) rfl (by kernel_rfl) (by kernel_rfl) (by kernel_rfl) (fun _ _ _ h => h) (Or.inl ⟨by rfl, ?yea12⟩) ?rea12
  case yea12 => (intro w'; go_simp; (try with_reducible rfl))
  (try simp only [Act.put, sL])
  refine wpAny_done (by kernel_rfl) ?_ _
  clear NZ
  go_upto_region 6 with fail
  refine wp_region_held_drew (S := GrownW W3) (by kernel_rfl) (gw_start _) (fun hHeld => ?_)
  refine wpAnyH_take (i := 0) (v := ?veb0) rfl (by kernel_rfl) (by kernel_rfl) (by kernel_rfl) (fun _ _ _ h => h) (Or.inl ⟨by rfl, ?yeb0⟩) hHeld ?reb0
  case yeb0 => (intro w' hSw; go_simp; (try with_reducible rfl))
  (try simp only [Act.put, sL])
  refine wpAnyH_take (i := 1) (v := .agg (intsV (prt l 16 80)).toArray) rfl (by kernel_rfl) (by kernel_rfl) (by kernel_rfl) (fun _ _ _ h => h) (Or.inl ⟨by rfl, ?yeb1⟩) hHeld ?reb1
  case yeb1 => (intro w' hSw; exact yields_load_v rfl rfl (M3.out.1.keep hSw) _ Try.underlying23 rfl size80c (by rw [C2.out]; omega) _ P2.out)
  (try simp only [Act.put, sL])
  refine wpAnyH_take (i := 2) (v := ?veb2) rfl (by kernel_rfl) (by kernel_rfl) (by kernel_rfl) (fun _ _ _ h => h) (Or.inl ⟨by rfl, ?yeb2⟩) hHeld ?reb2
  case yeb2 => (intro w' hSw; go_simp; (try with_reducible rfl))
  (try simp only [Act.put, sL])
  refine wpAnyH_take (i := 3) (v := .int .i64 lg) rfl (by kernel_rfl) (by kernel_rfl) (by kernel_rfl) (fun _ _ _ h => h) (Or.inl ⟨by rfl, ?yeb3⟩) hHeld ?reb3
  case yeb3 => (intro w' hSw; have cc := (M3.out.1.keep hSw).cell 98 (by rw [L2.out]; omega); rw [D98.out] at cc; go_simp; (try with_reducible rfl))
  (try simp only [Act.put, sL])
  refine wpAnyH_take (i := 4) (v := ?veb4) rfl (by kernel_rfl) (by kernel_rfl) (by kernel_rfl) (fun _ _ _ h => h) (Or.inl ⟨by rfl, ?yeb4⟩) hHeld ?reb4
  case yeb4 => (intro w' hSw; go_simp; (try with_reducible rfl))
  (try simp only [Act.put, sL])
  refine wpAnyH_take (i := 5) (v := .int .i64 p0) rfl (by kernel_rfl) (by kernel_rfl) (by kernel_rfl) (fun _ _ _ h => h) (Or.inl ⟨by rfl, ?yeb5⟩) hHeld ?reb5
  case yeb5 => (intro w' hSw; have cc := (M3.out.1.keep hSw).cell 97 (by rw [L2.out]; omega); rw [D97.out] at cc; go_simp; (try with_reducible rfl))
  (try simp only [Act.put, sL])
  refine wpAnyH_take (i := 6) (v := ?veb6) rfl (by kernel_rfl) (by kernel_rfl) (by kernel_rfl) (fun _ _ _ h => h) (Or.inl ⟨by rfl, ?yeb6⟩) hHeld ?reb6
  case yeb6 => (intro w' hSw; go_simp; (try with_reducible rfl))
  (try simp only [Act.put, sL])
  refine wpAnyH_take (i := 7) (v := .int .i64 er) rfl (by kernel_rfl) (by kernel_rfl) (by kernel_rfl) (fun _ _ _ h => h) (Or.inl ⟨by rfl, ?yeb7⟩) hHeld ?reb7
  case yeb7 => (intro w' hSw; have cc := (M3.out.1.keep hSw).cell 99 (by rw [L2.out]; omega); rw [D99.out] at cc; go_simp; (try with_reducible rfl))
  (try simp only [Act.put, sL])
  refine wpAnyH_take (i := 9) (v := ?veb9) rfl (by kernel_rfl) (by kernel_rfl) (by kernel_rfl) (fun _ _ _ h => h) (Or.inl ⟨by rfl, ?yeb9⟩) hHeld ?reb9
  case yeb9 => (intro w' hSw; go_simp; (try with_reducible rfl))
  (try simp only [Act.put, sL])
  refine wpAnyH_ready (rs := [8]) (by kernel_rfl) (by simp) (AllReadyH.cons rfl (fun K hK => ?_) AllReadyH.nil)
  (try simp only [Act.put, sL])
  go_simp
  refine (gaiFade_any p0 er _).mono ?_
  rintro e w3 ⟨rfl, rfl⟩
  rw [FD2.out]
  go_wp2_with fail
  refine hK.out _ _ hHeld (fun hHeld => ?_)
  clear hK
  (try simp only [Act.put, sL])
  refine wpAnyH_ready (rs := [10]) (by kernel_rfl) (by simp) (AllReadyH.cons rfl (fun K hK => ?_) AllReadyH.nil)
  (try simp only [Act.put, sL])
  go_simp
  refine (MX.out v2 _ (O3.out.keep hHeld).ints).mono ?_
  rintro e w4 ⟨v4, rfl, o4, q4⟩
  have Q4 := hide q4
  have O4 := hide (o4.base hHeld.size)
  clear q4 o4
  go_wp2_with fail
  refine hK.out _ _ (gw_trans hHeld Q4.out) (fun hHeld => ?_)
  clear hK
  (try simp only [Act.put, sL])
  clear Q4
  refine wpAnyH_take (i := 11) (v := ?veb11) rfl (by kernel_rfl) (by kernel_rfl) (by kernel_rfl) (fun _ _ _ h => h) (Or.inl ⟨by rfl, ?yeb11⟩) hHeld ?reb11
  case yeb11 => (intro w' hSw; go_simp; (try with_reducible rfl))
  (try simp only [Act.put, sL])
  refine wpAnyH_take (i := 12) (v := ?veb12) rfl (by kernel_rfl) (by kernel_rfl) (by kernel_rfl) (fun _ _ _ h => h) (Or.inl ⟨by rfl, ?yeb12⟩) hHeld ?reb12
  case yeb12 => (intro w' hSw; go_simp; (try with_reducible rfl))
  (try simp only [Act.put, sL])
  refine wpAnyH_take (i := 13) (v := ?veb13) rfl (by kernel_rfl) (by kernel_rfl) (by kernel_rfl) (fun _ _ _ h => h) (Or.inl ⟨by rfl, ?yeb13⟩) hHeld ?reb13
  case yeb13 => (intro w' hSw; go_simp; (try with_reducible rfl))
  (try simp only [Act.put, sL])
  refine wpAnyH_take (i := 14) (v := ?veb14) rfl (by kernel_rfl) (by kernel_rfl) (by kernel_rfl) (fun _ _ _ h => h) (Or.inl ⟨by rfl, ?yeb14⟩) hHeld ?reb14
  case yeb14 => (intro w' hSw; go_simp; (try with_reducible rfl))
  (try simp only [Act.put, sL])
  refine wpAnyH_take (i := 15) (v := ?veb15) rfl (by kernel_rfl) (by kernel_rfl) (by kernel_rfl) (fun _ _ _ h => h) (Or.inl ⟨by rfl, ?yeb15⟩) hHeld ?reb15
  case yeb15 => (intro w' hSw; go_simp; (try with_reducible rfl))
  (try simp only [Act.put, sL])
  refine wpAnyH_done (by kernel_rfl) ?_ _
  have M4' := hide (M3.out.keep hHeld)
  have O4' := hide O4.out
  have BL := hide (show w.heap.size + 1 < W3.heap.size from M3.out.2.1.lt)
  have B1 := hide (show w.heap.size ≤ W3.heap.size from M3.out.2.2.size)
  clear M3 O3 O4 hHeld MX P2
  go_upto_region 7 with fail
  have L1' := L2
  have P3 := hide (BlkM.part (l := l1.set 100 sd) s 16 80 (by rw [L1'.out]; omega))
  rw [PS2.out, PS.out] at P3
  have C3 := C2
  have KK := hide (KP.out v4 w4 O4'.out.ints)
  have M3 := M4'
  have O3 := O4'
  clear KP PS PS2 M4' O4' D97 D98 D99 E96 E97 E98 E99 E100
  go_wp2_with (first | refine wpList_load_v rfl 23 _ rfl w.heap.size 16 80 rfl 25 (memC (l1.set 100 sd) s) M3.out.1 _ Try.underlying23 rfl size80c (by rw [C3.out]; omega) _ P3.out ?_)
  refine KK.out.mono ?_
  rintro e W4 ⟨rfl, g4⟩
  have M4 := hide (M3.out.keep g4)
  have O4 := hide (O3.out.keep g4)
  clear KK M3 O3 g4 P3
  generalize kpA (prt l 16 80) X = R at *
  have M5 := hide (M4.out.put 16 R (by rw [KL.out, L1'.out]; omega))
  have O5 := hide (O4.out.keepLt (M4.out.1.put 16 R (by rw [KL.out, L1'.out]; omega)).2 (by have := BL.out; omega))
  have I_ := hide (intsV_one R)
  have IL := hide (show (intsV R).length = 80 by rw [intsV_len]; exact KL.out)
  clear O4
  go_upto_region 8 with (first | refine wpList_store_v rfl 23 _ _ rfl w.heap.size 16 25 (memC (l1.set 100 sd) s) (intsV R) rfl rfl M4.out.1 (by rw [IL.out, C3.out]; omega) (by rw [IL.out]; exact size80c) I_.out ?_)
  (try simp only [Act.put])
  clear M4 I_ IL C3
  generalize putV W4 w.heap.size 16 (intsV R) = W5 at *
  have L5 := hide (show (ovr (l1.set 100 sd) 16 R).length = 101 by rw [ovr_len]; exact L1'.out)
  generalize ovr (l1.set 100 sd) 16 R = m at *
  have A5 := hide (BlkM.all s L5.out)
  have C5 := hide (memC_len L5.out s)
  have ON := hide (memC_one m s)
  have PB := hide (M5.out.fin m s L5.out)
  have O6 := hide (O5.out.keepLt (M5.out.2.1.putAll (m := m) (t := s) (zeros_len 101) L5.out).2 BL.out)
  have FF := hide (F.out _ _ (O6.out.base B1.out) PB.out.2)
  clear F O5 O6
  go_wp2_with (first | refine wpList_load_v rfl 25 _ rfl w.heap.size 0 102 rfl 25 (memC m s) M5.out.1 _ Try.underlying25 rfl size102 (by rw [C5.out]; omega) _ A5.out ?_ | refine wpList_store_v rfl 25 _ _ rfl (w.heap.size + 1) 0 25 (memC (zeros 101) false) (memC m s) rfl rfl M5.out.2.1 (by rw [ZL.out, C5.out]; omega) (by rw [C5.out]; exact size102) ON.out ?_)
  have hlv := loadVar_v PB.out.1 _ Try.underlying25 rfl (by rw [C5.out]; exact size102)
  refine bodyPost_ret (v := .tuple #[.agg (memC m s).toArray, _, .int .i64 0]) ?_ rfl FF.out
  simp [results, Try.results19, asAddr, Act.put, hlv]
set_option maxRecDepth 100000 in
theorem conErased_two (l : List Int) (s : Bool) (half : Int) (hl : l.length = 101) (hg : goodM l = true) (hh : half = 1) (w : World) : Calls Try.prog 19 #[memV l s, .int .i64 half] w (MemE w (erM l half) (erS l half s) (erL l half) (erE l half)) := by
  have M0 := hide (MmS.new w l s)
  have GD := hide (fun wr => conGood_any l s hl wr)
  have h64 := good_64 hl hg
  have hk : erO l half := ⟨hg, by omega, by omega⟩
  have EB := erN_bd l half hg
  rw [hg] at GD
  have WI := hide (fun u => conWithin_any half 0 1 u)
  rw [decide_eq_true (show 0 ≤ half ∧ half ≤ 1 by omega)] at WI
  have hx3 : (half == 0) = false := beq_eq_false_iff_ne.2 (by omega)
  have h60 : 0 ≤ nth l 99 ∧ nth l 99 ≤ 6 := (goodM_iff l).1 hg 99 (by omega)
  obtain ⟨er, her⟩ : ∃ er, erN l half = er := ⟨_, rfl⟩
  obtain ⟨f1, hf1⟩ : ∃ f1, fdV (nth l 96) er = f1 := ⟨_, rfl⟩
  obtain ⟨f2, hf2⟩ : ∃ f2, fdV (nth l 97) er = f2 := ⟨_, rfl⟩
  obtain ⟨sz, hsz⟩ : ∃ sz, f1 / 4 = sz := ⟨_, rfl⟩
  obtain ⟨l1, hl1⟩ : ∃ l1, l = l1 := ⟨_, rfl⟩
  have E1 : l1 = l.set 99 er := by rw [← hl1, ← her]; unfold erN; rw [if_neg (fun k => by omega), set_self l 99 (by omega)]
  have L1 := hide (show l1.length = 101 by rw [E1, List.length_set]; exact hl)
  have E96 := hide (show nth l1 96 = nth l 96 by rw [E1, setN _ _ _ (by omega), if_neg (by omega)])
  have E97 := hide (show nth l1 97 = nth l 97 by rw [E1, setN _ _ _ (by omega), if_neg (by omega)])
  have E98 := hide (show nth l1 98 = nth l 98 by rw [E1, setN _ _ _ (by omega), if_neg (by omega)])
  have E99 := hide (show nth l1 99 = er by rw [E1, setN _ _ _ (by omega), if_pos rfl])
  have E100 := hide (show nth l1 100 = nth l 100 by rw [E1, setN _ _ _ (by omega), if_neg (by omega)])
  have D97 := hide (show ∀ z, nth (l1.set 100 z) 97 = nth l 97 from fun z => by rw [setN _ _ _ (by rw [L1.out]; omega), if_neg (by omega)]; exact E97.out)
  have D98 := hide (show ∀ z, nth (l1.set 100 z) 98 = nth l 98 from fun z => by rw [setN _ _ _ (by rw [L1.out]; omega), if_neg (by omega)]; exact E98.out)
  have D99 := hide (show ∀ z, nth (l1.set 100 z) 99 = er from fun z => by rw [setN _ _ _ (by rw [L1.out]; omega), if_neg (by omega)]; exact E99.out)
  have NZ := hide (fun wr => conNoise_any l1 s sz L1.out wr)
  rw [E100.out] at NZ
  have EZ : nzL (nth l 100) sz 40 = erZ l half := by unfold erZ; rw [her, hf1, hsz]
  rw [EZ] at NZ
  have MO := er_mix l half hg
  rw [her, hf2] at MO
  have MX := hide (fun v wr (hv : Ints wr v (erZ l half)) => conMix_any (prt l 16 80) (nth l 98) f2 v (erZ l half) wr (prt_len _ _ _) hv (by rw [erZ_len]; omega))
  rw [(mxL_yes (h := prt l 16 80) MO).1, (mxL_yes (h := prt l 16 80) MO).2] at MX
  have EX : mxA (pasL (prt l 16 80) (nth l 98)) f2 (erZ l half) = erX l half := by unfold erX; rw [her, hf2]
  rw [EX] at MX
  have KP := hide (fun v wr (hv : Ints wr v (erX l half)) => conKeep_any (prt l 16 80) v (erX l half) wr (prt_len _ _ _) hv (by rw [erX_len]; omega))
  rw [(kpL_yes (h := prt l 16 80) (erX_len l half)).1, (kpL_yes (h := prt l 16 80) (erX_len l half)).2] at KP
  have KL := hide (kpA_len (prt l 16 80) (erX l half))
  have F := hide (show ∀ v' w', Own w.heap.size w' v' (erX l half) → w.grownBy w' none → MemE w (erM l half) (erS l half s) (erL l half) (erE l half) (.returned (.tuple #[memV (ovr (l1.set 100 (sdN (nth l 100) 40)) 16 (kpA (prt l 16 80) (erX l half))) s, v', .int .i64 0])) w' from fun v' w' o q =>
    ⟨v', by rw [(er_yes (s := s) hk).1, (er_yes (s := s) hk).2.1, (er_yes (s := s) hk).2.2.2]; unfold memT; rw [her, E1], by rw [(er_yes (s := s) hk).2.2.1]; exact o, q⟩)
  have PS := hide (show prt l1 16 80 = prt l 16 80 by rw [E1]; exact prt_set l 99 _ 16 80 (by omega) (.inr (by omega)))
  have PS2 := hide (fun z => prt_set l1 100 z 16 80 (by rw [L1.out]; omega) (.inr (by omega)))
  have CL := hide (memC_len hl s)
  have AL := hide (BlkM.all s hl)
  have C1 := hide (memC_len L1.out s)
  have A1 := hide (BlkM.all s L1.out)
  have ZL := hide (memC_len (zeros_len 101) false)
  have HL := hide hl
  have fb := fdV_bd (nth l 96) er
  rw [hf1] at fb
  have FD1 := hide hf1
  have FD2 := hide hf2
  have hsz1 : f1.tdiv 4 = sz := by rw [Int.tdiv_eq_ediv_of_nonneg fb.1]; exact hsz
  have hsz2 : f1 / 4 = sz := hsz
  have WSZ := wrapI sz (by omega) (by omega)
  have hz := zero_mem
  have HL1 := hide hl1
  clear hg h64 hl hf1 hf2 hsz EZ EX MO hk E1 hl1 fb hh her
  generalize MemE w (erM l half) (erS l half s) (erL l half) (erE l half) = T at *
  unfold NsE at NZ
  unfold memV at hz F GD NZ ⊢
  generalize erX l half = X at *
  generalize erZ l half = N at *
  generalize sdN (nth l 100) 40 = sd at *
  generalize nth l 96 = g0 at *
  generalize nth l 97 = p0 at *
  generalize nth l 98 = lg at *
  replace D97 := hide (D97.out sd)
  replace D98 := hide (D98.out sd)
  replace D99 := hide (D99.out sd)
  have L2 := hide (show (l1.set 100 sd).length = 101 by rw [List.length_set]; exact L1.out)
  have C2 := hide (memC_len L2.out s)
  have ON1 := hide (memC_one (l1.set 100 sd) s)
  have P2 := hide (BlkM.part (l := l1.set 100 sd) s 16 80 (by rw [L2.out]; omega))
  rw [PS2.out, PS.out] at P2
  go_enter Try.func19, Try.ntmps19
  go_upto_region 1 with fail
  generalize (w.alloc (.cells (memC l s).toArray 25)).alloc (.cells (memC (zeros 101) false).toArray 25) = W0 at *
  clear hz
  go_wp2_with (refine wpList_load_v rfl 25 _ rfl w.heap.size 0 102 rfl 25 (memC l s) M0.out.1 _ Try.underlying25 rfl size102 (by rw [CL.out]; omega) _ AL.out ?_)
  refine (GD.out W0).mono ?_
  rintro e W1 ⟨rfl, g1⟩
  have M1 := hide (M0.out.keep g1)
  clear M0 g1 GD
  go_wp2_with fail
  refine (WI.out _).mono ?_
  rintro e w1 ⟨rfl, rfl⟩
  clear WI
  go_upto_region 5 with fail
  have M2 := hide (show MmS w l1 s w1 from by rw [← HL1.out]; exact M1.out)
  clear M1
  generalize hW2 : w1 = W2 at *
  clear hW2
  have B2 := hide (show w.heap.size + 1 < W2.heap.size from M2.out.2.1.lt)
  have B2' := hide (show w.heap.size ≤ W2.heap.size from M2.out.2.2.size)
  refine wp_region_G 11 (GrownW W2) 13 (by rfl) #[false, false, false, false, false, false, false, false, false, false, false, false, false] (by rfl) (by kernel_rfl) (fun hcl => ?_)
  have hHeld := (gw_start W2)
  refine wpAnyG_take (i := 0) (v := .agg (memC l1 s).toArray) rfl (by kernel_rfl) hcl (fun _ _ _ h => h) (Or.inl ⟨by rfl, ?yea0⟩) hHeld (fun hcl => ?rea0)
  case yea0 => (intro w' hSw; (try dsimp only at hSw); exact yields_load_v rfl rfl (M2.out.1.keep hSw) _ Try.underlying25 rfl size102 (by rw [C1.out]; omega) _ A1.out)
  (try simp only [Act.put, sL])
  refine wpAnyG_take (i := 1) (v := ?vea1) rfl (by kernel_rfl) hcl (fun _ _ _ h => h) (Or.inl ⟨by rfl, ?yea1⟩) hHeld (fun hcl => ?rea1)
  case yea1 => (intro w' hSw; (try dsimp only at hSw); go_simp; (try with_reducible rfl))
  (try simp only [Act.put, sL])
  refine wpAnyG_take (i := 2) (v := .int .i64 g0) rfl (by kernel_rfl) hcl (fun _ _ _ h => h) (Or.inl ⟨by rfl, ?yea2⟩) hHeld (fun hcl => ?rea2)
  case yea2 => (intro w' hSw; (try dsimp only at hSw); have cc := (M2.out.1.keep hSw).cell 96 (by rw [L1.out]; omega); rw [E96.out] at cc; go_simp; (try with_reducible rfl))
  (try simp only [Act.put, sL])
  refine wpAnyG_take (i := 3) (v := ?vea3) rfl (by kernel_rfl) hcl (fun _ _ _ h => h) (Or.inl ⟨by rfl, ?yea3⟩) hHeld (fun hcl => ?rea3)
  case yea3 => (intro w' hSw; (try dsimp only at hSw); go_simp; (try with_reducible rfl))
  (try simp only [Act.put, sL])
  refine wpAnyG_take (i := 4) (v := .int .i64 er) rfl (by kernel_rfl) hcl (fun _ _ _ h => h) (Or.inl ⟨by rfl, ?yea4⟩) hHeld (fun hcl => ?rea4)
  case yea4 => (intro w' hSw; (try dsimp only at hSw); have cc := (M2.out.1.keep hSw).cell 99 (by rw [L1.out]; omega); rw [E99.out] at cc; go_simp; (try with_reducible rfl))
  (try simp only [Act.put, sL])
  refine wpAnyG_exec (i := 5) rfl (by kernel_rfl) hcl (fun K hK => ?_)
  (try simp only [Act.put, sL])
  go_simp
  refine (gaiFade_any g0 er _).mono ?_
  rintro e w1 ⟨rfl, rfl⟩
  rw [FD1.out]
  go_wp2_with fail
  have hNew := hHeld
  refine hK.out _ _ (fun _ => hNew) (fun hcl => ?_)
  clear hK
  replace hHeld := hNew
  clear hNew
  (try simp only [Act.put, sL])
  refine wpAnyG_take (i := 6) (v := .int .i64 sz) rfl (by kernel_rfl) hcl (fun _ _ _ h => h) (Or.inl ⟨by rfl, ?yea6⟩) hHeld (fun hcl => ?rea6)
  case yea6 => (intro w' hSw; (try dsimp only at hSw); go_simp; (try simp only [hsz1, hsz2, WSZ]))
  (try simp only [Act.put, sL])
  refine wpAnyG_exec (i := 7) rfl (by kernel_rfl) hcl (fun K hK => ?_)
  (try simp only [Act.put, sL])
  go_simp
  refine (NZ.out _).mono ?_
  rintro e w2 ⟨v2, rfl, o2, q2⟩
  have Q2 := hide q2
  have O2 := hide (o2.base hHeld.size)
  clear q2 o2
  go_wp2_with fail
  have hNew := (gw_trans hHeld Q2.out)
  refine hK.out _ _ (fun _ => hNew) (fun hcl => ?_)
  clear hK
  replace hHeld := hNew
  clear hNew
  (try simp only [Act.put, sL])
  refine wpAnyG_take (i := 8) (v := ?vea8) rfl (by kernel_rfl) hcl (fun _ _ _ h => h) (Or.inl ⟨by rfl, ?yea8⟩) hHeld (fun hcl => ?rea8)
  case yea8 => (intro w' hSw; (try dsimp only at hSw); go_simp; (try with_reducible rfl))
  (try simp only [Act.put, sL])
  refine wpAnyG_take (i := 9) (v := ?vea9) rfl (by kernel_rfl) hcl (fun _ _ _ h => h) (Or.inl ⟨by rfl, ?yea9⟩) hHeld (fun hcl => ?rea9)
  case yea9 => (intro w' hSw; (try dsimp only at hSw); go_simp; (try with_reducible rfl))
  (try simp only [Act.put, sL])
  refine wpAnyG_takeF (i := 10) (v := ?vea10) rfl (by kernel_rfl) hcl (fun _ _ _ h => h) (Or.inl ⟨by rfl, ?yea10⟩) hHeld (fun hcl => ?rea10)
  case yea10 => (intro w' _; go_simp; (try with_reducible rfl))
  (try simp only [Act.put, sL])
  refine wpAnyG_exec (i := 11) rfl (by kernel_rfl) hcl (fun K hK => ?_)
  (try simp only [Act.put, sL])
  have M3p := hide (M2.out.keep hHeld)
  have M3' := M3p.out.all (l1.set 100 sd) s L1.out L2.out
  have M3 := hide M3'.1
  have O3 := hide (O2.out.keepLt M3'.2 (by have := B2.out; omega))
  clear O2 M3'
  refine step_store_v rfl 25 _ _ rfl w.heap.size 0 25 (memC l1 s) (memC (l1.set 100 sd) s) rfl rfl M3p.out.1 (by rw [C1.out, C2.out]; omega) (by rw [C2.out]; exact size102) ON1.out ?_
  refine hK.out _ _ (fun h => by cases h) (fun hcl => ?_)
  clear hK hHeld
  (try simp only [Act.put, sL])
  clear M3p M2 Q2
  generalize putV w2 w.heap.size 0 (memC (l1.set 100 sd) s) = W3 at *
  refine wpAnyG_of_any _ _ _ _ (by rfl) ?_
  refine wpAny_take (i := 12) (v := ?vea12) rfl (by kernel_rfl) (by kernel_rfl) (by kernel_rfl) (fun _ _ _ h => h) (Or.inl ⟨by rfl, ?yea12⟩) ?rea12
  case yea12 => (intro w'; go_simp; (try with_reducible rfl))
  (try simp only [Act.put, sL])
  refine wpAny_done (by kernel_rfl) ?_ _
  clear NZ
  go_upto_region 6 with fail
  refine wp_region_held_drew (S := GrownW W3) (by kernel_rfl) (gw_start _) (fun hHeld => ?_)
  refine wpAnyH_take (i := 0) (v := ?veb0) rfl (by kernel_rfl) (by kernel_rfl) (by kernel_rfl) (fun _ _ _ h => h) (Or.inl ⟨by rfl, ?yeb0⟩) hHeld ?reb0
  case yeb0 => (intro w' hSw; go_simp; (try with_reducible rfl))
  (try simp only [Act.put, sL])
  refine wpAnyH_take (i := 1) (v := .agg (intsV (prt l 16 80)).toArray) rfl (by kernel_rfl) (by kernel_rfl) (by kernel_rfl) (fun _ _ _ h => h) (Or.inl ⟨by rfl, ?yeb1⟩) hHeld ?reb1
  case yeb1 => (intro w' hSw; exact yields_load_v rfl rfl (M3.out.1.keep hSw) _ Try.underlying23 rfl size80c (by rw [C2.out]; omega) _ P2.out)
  (try simp only [Act.put, sL])
  refine wpAnyH_take (i := 2) (v := ?veb2) rfl (by kernel_rfl) (by kernel_rfl) (by kernel_rfl) (fun _ _ _ h => h) (Or.inl ⟨by rfl, ?yeb2⟩) hHeld ?reb2
  case yeb2 => (intro w' hSw; go_simp; (try with_reducible rfl))
  (try simp only [Act.put, sL])
  refine wpAnyH_take (i := 3) (v := .int .i64 lg) rfl (by kernel_rfl) (by kernel_rfl) (by kernel_rfl) (fun _ _ _ h => h) (Or.inl ⟨by rfl, ?yeb3⟩) hHeld ?reb3
  case yeb3 => (intro w' hSw; have cc := (M3.out.1.keep hSw).cell 98 (by rw [L2.out]; omega); rw [D98.out] at cc; go_simp; (try with_reducible rfl))
  (try simp only [Act.put, sL])
  refine wpAnyH_take (i := 4) (v := ?veb4) rfl (by kernel_rfl) (by kernel_rfl) (by kernel_rfl) (fun _ _ _ h => h) (Or.inl ⟨by rfl, ?yeb4⟩) hHeld ?reb4
  case yeb4 => (intro w' hSw; go_simp; (try with_reducible rfl))
  (try simp only [Act.put, sL])
  refine wpAnyH_take (i := 5) (v := .int .i64 p0) rfl (by kernel_rfl) (by kernel_rfl) (by kernel_rfl) (fun _ _ _ h => h) (Or.inl ⟨by rfl, ?yeb5⟩) hHeld ?reb5
  case yeb5 => (intro w' hSw; have cc := (M3.out.1.keep hSw).cell 97 (by rw [L2.out]; omega); rw [D97.out] at cc; go_simp; (try with_reducible rfl))
  (try simp only [Act.put, sL])
  refine wpAnyH_take (i := 6) (v := ?veb6) rfl (by kernel_rfl) (by kernel_rfl) (by kernel_rfl) (fun _ _ _ h => h) (Or.inl ⟨by rfl, ?yeb6⟩) hHeld ?reb6
  case yeb6 => (intro w' hSw; go_simp; (try with_reducible rfl))
  (try simp only [Act.put, sL])
  refine wpAnyH_take (i := 7) (v := .int .i64 er) rfl (by kernel_rfl) (by kernel_rfl) (by kernel_rfl) (fun _ _ _ h => h) (Or.inl ⟨by rfl, ?yeb7⟩) hHeld ?reb7
  case yeb7 => (intro w' hSw; have cc := (M3.out.1.keep hSw).cell 99 (by rw [L2.out]; omega); rw [D99.out] at cc; go_simp; (try with_reducible rfl))
  (try simp only [Act.put, sL])
  refine wpAnyH_take (i := 9) (v := ?veb9) rfl (by kernel_rfl) (by kernel_rfl) (by kernel_rfl) (fun _ _ _ h => h) (Or.inl ⟨by rfl, ?yeb9⟩) hHeld ?reb9
  case yeb9 => (intro w' hSw; go_simp; (try with_reducible rfl))
  (try simp only [Act.put, sL])
  refine wpAnyH_ready (rs := [8]) (by kernel_rfl) (by simp) (AllReadyH.cons rfl (fun K hK => ?_) AllReadyH.nil)
  (try simp only [Act.put, sL])
  go_simp
  refine (gaiFade_any p0 er _).mono ?_
  rintro e w3 ⟨rfl, rfl⟩
  rw [FD2.out]
  go_wp2_with fail
  refine hK.out _ _ hHeld (fun hHeld => ?_)
  clear hK
  (try simp only [Act.put, sL])
  refine wpAnyH_ready (rs := [10]) (by kernel_rfl) (by simp) (AllReadyH.cons rfl (fun K hK => ?_) AllReadyH.nil)
  (try simp only [Act.put, sL])
  go_simp
  refine (MX.out v2 _ (O3.out.keep hHeld).ints).mono ?_
  rintro e w4 ⟨v4, rfl, o4, q4⟩
  have Q4 := hide q4
  have O4 := hide (o4.base hHeld.size)
  clear q4 o4
  go_wp2_with fail
  refine hK.out _ _ (gw_trans hHeld Q4.out) (fun hHeld => ?_)
  clear hK
  (try simp only [Act.put, sL])
  clear Q4
  refine wpAnyH_take (i := 11) (v := ?veb11) rfl (by kernel_rfl) (by kernel_rfl) (by kernel_rfl) (fun _ _ _ h => h) (Or.inl ⟨by rfl, ?yeb11⟩) hHeld ?reb11
  case yeb11 => (intro w' hSw; go_simp; (try with_reducible rfl))
  (try simp only [Act.put, sL])
  refine wpAnyH_take (i := 12) (v := ?veb12) rfl (by kernel_rfl) (by kernel_rfl) (by kernel_rfl) (fun _ _ _ h => h) (Or.inl ⟨by rfl, ?yeb12⟩) hHeld ?reb12
  case yeb12 => (intro w' hSw; go_simp; (try with_reducible rfl))
  (try simp only [Act.put, sL])
  refine wpAnyH_take (i := 13) (v := ?veb13) rfl (by kernel_rfl) (by kernel_rfl) (by kernel_rfl) (fun _ _ _ h => h) (Or.inl ⟨by rfl, ?yeb13⟩) hHeld ?reb13
  case yeb13 => (intro w' hSw; go_simp; (try with_reducible rfl))
  (try simp only [Act.put, sL])
  refine wpAnyH_take (i := 14) (v := ?veb14) rfl (by kernel_rfl) (by kernel_rfl) (by kernel_rfl) (fun _ _ _ h => h) (Or.inl ⟨by rfl, ?yeb14⟩) hHeld ?reb14
  case yeb14 => (intro w' hSw; go_simp; (try with_reducible rfl))
  (try simp only [Act.put, sL])
  refine wpAnyH_take (i := 15) (v := ?veb15) rfl (by kernel_rfl) (by kernel_rfl) (by kernel_rfl) (fun _ _ _ h => h) (Or.inl ⟨by rfl, ?yeb15⟩) hHeld ?reb15
  case yeb15 => (intro w' hSw; go_simp; (try with_reducible rfl))
  (try simp only [Act.put, sL])
  refine wpAnyH_done (by kernel_rfl) ?_ _
  have M4' := hide (M3.out.keep hHeld)
  have O4' := hide O4.out
  have BL := hide (show w.heap.size + 1 < W3.heap.size from M3.out.2.1.lt)
  have B1 := hide (show w.heap.size ≤ W3.heap.size from M3.out.2.2.size)
  clear M3 O3 O4 hHeld MX P2
  go_upto_region 7 with fail
  have L1' := L2
  have P3 := hide (BlkM.part (l := l1.set 100 sd) s 16 80 (by rw [L1'.out]; omega))
  rw [PS2.out, PS.out] at P3
  have C3 := C2
  have KK := hide (KP.out v4 w4 O4'.out.ints)
  have M3 := M4'
  have O3 := O4'
  clear KP PS PS2 M4' O4' D97 D98 D99 E96 E97 E98 E99 E100
  go_wp2_with (first | refine wpList_load_v rfl 23 _ rfl w.heap.size 16 80 rfl 25 (memC (l1.set 100 sd) s) M3.out.1 _ Try.underlying23 rfl size80c (by rw [C3.out]; omega) _ P3.out ?_)
  refine KK.out.mono ?_
  rintro e W4 ⟨rfl, g4⟩
  have M4 := hide (M3.out.keep g4)
  have O4 := hide (O3.out.keep g4)
  clear KK M3 O3 g4 P3
  generalize kpA (prt l 16 80) X = R at *
  have M5 := hide (M4.out.put 16 R (by rw [KL.out, L1'.out]; omega))
  have O5 := hide (O4.out.keepLt (M4.out.1.put 16 R (by rw [KL.out, L1'.out]; omega)).2 (by have := BL.out; omega))
  have I_ := hide (intsV_one R)
  have IL := hide (show (intsV R).length = 80 by rw [intsV_len]; exact KL.out)
  clear O4
  go_upto_region 8 with (first | refine wpList_store_v rfl 23 _ _ rfl w.heap.size 16 25 (memC (l1.set 100 sd) s) (intsV R) rfl rfl M4.out.1 (by rw [IL.out, C3.out]; omega) (by rw [IL.out]; exact size80c) I_.out ?_)
  (try simp only [Act.put])
  clear M4 I_ IL C3
  generalize putV W4 w.heap.size 16 (intsV R) = W5 at *
  have L5 := hide (show (ovr (l1.set 100 sd) 16 R).length = 101 by rw [ovr_len]; exact L1'.out)
  generalize ovr (l1.set 100 sd) 16 R = m at *
  have A5 := hide (BlkM.all s L5.out)
  have C5 := hide (memC_len L5.out s)
  have ON := hide (memC_one m s)
  have PB := hide (M5.out.fin m s L5.out)
  have O6 := hide (O5.out.keepLt (M5.out.2.1.putAll (m := m) (t := s) (zeros_len 101) L5.out).2 BL.out)
  have FF := hide (F.out _ _ (O6.out.base B1.out) PB.out.2)
  clear F O5 O6
  go_wp2_with (first | refine wpList_load_v rfl 25 _ rfl w.heap.size 0 102 rfl 25 (memC m s) M5.out.1 _ Try.underlying25 rfl size102 (by rw [C5.out]; omega) _ A5.out ?_ | refine wpList_store_v rfl 25 _ _ rfl (w.heap.size + 1) 0 25 (memC (zeros 101) false) (memC m s) rfl rfl M5.out.2.1 (by rw [ZL.out, C5.out]; omega) (by rw [C5.out]; exact size102) ON.out ?_)
  have hlv := loadVar_v PB.out.1 _ Try.underlying25 rfl (by rw [C5.out]; exact size102)
  refine bodyPost_ret (v := .tuple #[.agg (memC m s).toArray, _, .int .i64 0]) ?_ rfl FF.out
  simp [results, Try.results19, asAddr, Act.put, hlv]
theorem conErased_any (l : List Int) (s : Bool) (half : Int) (hl : l.length = 101) (w : World) : Calls Try.prog 19 #[memV l s, .int .i64 half] w (MemE w (erM l half) (erS l half s) (erL l half) (erE l half)) := by
  rcases hg : goodM l with _ | _
  · exact conErased_no1 l s half hl hg w
  · by_cases h1 : 0 ≤ half ∧ half ≤ 1
    · by_cases h3 : half = 0
      · by_cases h6 : nth l 99 < 6
        · exact conErased_up l s half hl hg h3 h6 w
        · exact conErased_top l s half hl hg h3 h6 w
      · exact conErased_two l s half hl hg (by omega) w
    · exact conErased_no2 l s half hl hg h1 w
end Go.Proofs.Ytekdgohomaeeeaa

/- LCnK -/
namespace Go.Proofs.Ytekdgohomaeeeaa
open Go.RowKit
set_option linter.unusedVariables false
theorem win_erasedEnds (W : World) (l : List Int) (s : Bool) (hl : l.length = 101) (h64 : In64 l) : Calls Try.prog 8 #[memV l s] W fun e w' => e = .returned (.bool true) ∧ Below W.heap.size W w' :=
  law_erasedEnds W (fun wr g => conFresh_any wr) (fun l s half hl h64 h1 wr g => conErased_any l s half hl wr) (fun l s hl h64 wr g => conGood_any l s hl wr) l s hl h64
end Go.Proofs.Ytekdgohomaeeeaa

/- Opens -/
namespace Go.Proofs.Ytekdgohomaeeeaa
set_option maxRecDepth 100000
open Go.ChangeShapes Go.WideShapes Go.ChangeAt Go.RowKit
set_option linter.unusedVariables false
set_option linter.unusedSimpArgs false
theorem o_own : ownKnob Try.prog.godebug = none := by kernel_rfl
theorem o_laidOut : laidOutB Try.prog = true := by kernel_rfl
theorem cell_int {W : World} {base : Nat} {v : Value} (h : Cell.okWide Try.prog W .any base 3 v) : ∃ n : Int, v = .int .i64 n ∧ -9223372036854775808 ≤ n ∧ n ≤ 9223372036854775807 := by
  simp only [Cell.okWide, Try.underlying3] at h
  cases v <;> simp_all [Cell.ok, Try.underlying3, IntKind.has, IntKind.min, IntKind.max, IntKind.signed, IntKind.bits]
theorem ints_of_cells : ∀ cs : List Value, (∀ v ∈ cs, ∃ n : Int, v = .int .i64 n ∧ -9223372036854775808 ≤ n ∧ n ≤ 9223372036854775807) → ∃ l : List Int, cs = l.map (Value.int .i64) ∧ In64 l
  | [], _ => ⟨[], rfl, fun i => by simp [nth]⟩
  | c :: cs, h => by
    obtain ⟨n, rfl, n1, n2⟩ := h c (List.mem_cons_self ..)
    obtain ⟨l, rfl, hl⟩ := ints_of_cells cs (fun v hv => h v (List.mem_cons_of_mem _ hv))
    refine ⟨n :: l, rfl, fun i => ?_⟩
    match i with
    | 0 => exact ⟨n1, n2⟩
    | i + 1 => exact hl i
end Go.Proofs.Ytekdgohomaeeeaa

/- OpensM -/
namespace Go.Proofs.Ytekdgohomaeeeaa
set_option maxRecDepth 100000
open Go.ChangeShapes Go.WideShapes Go.ChangeAt Go.RowKit
set_option linter.unusedVariables false
set_option linter.unusedSimpArgs false
theorem cell_bool {W : World} {base : Nat} {v : Value} (h : Cell.okWide Try.prog W .any base 4 v) : ∃ b : Bool, v = .bool b := by
  simp only [Cell.okWide, Try.underlying4] at h
  cases v <;> simp_all [Cell.ok, Try.underlying4]
theorem mem_types : Try.prog.cellTypes Try.prog.depth 25 = some (List.replicate 101 3 ++ [4]) := by kernel_rfl
theorem mem_cells : Try.prog.cellsOf 25 = 102 := by kernel_rfl
theorem mem_row : (match Try.prog.underlying 25 with | some (.struct _) | some (.array _ _) => true | _ => false) = true := by kernel_rfl
theorem open_mem {W : World} {base : Nat} {v : Value} (h : Value.okWide Try.prog W .any base 25 v) : ∃ (l : List Int) (s : Bool), v = memV l s ∧ l.length = 101 ∧ In64 l := by
  have hu := mem_row
  have hr : ∃ cs, v = .agg cs ∧ cs.size = Try.prog.cellsOf 25 ∧ Row.okWide Try.prog W .any base 25 cs := by
    unfold Value.okWide at h
    revert hu
    split at h
    · intro _; exact h
    · intro _; exact h
    · rename_i h1 h2
      intro hu
      split at hu
      · rename_i fs e; exact absurd e (h1 fs)
      · rename_i n e he; exact absurd he (h2 n e)
      · cases hu
  obtain ⟨cs, rfl, hs, ts, hts, _, hcell⟩ := hr
  rw [mem_types] at hts
  obtain rfl := Option.some.inj hts
  rw [mem_cells] at hs
  have hl : cs.toList.length = 102 := by simpa using hs
  obtain ⟨l, hl2, hb⟩ := ints_of_cells (cs.toList.take 101) (fun v hv => by
    obtain ⟨i, hi, rfl⟩ := List.getElem_of_mem hv
    have hi' : i < 101 := by simp at hi; omega
    rw [List.getElem_take]
    obtain ⟨u, hu1, hu2⟩ := hcell i cs.toList[i] (by rw [← Array.getElem?_toList, List.getElem?_eq_getElem (by omega)])
    have : u = 3 := by
      rw [List.getElem?_append_left (by simp; omega)] at hu1
      exact (List.mem_replicate.1 (List.mem_of_getElem? hu1)).2
    subst this
    exact cell_int hu2)
  obtain ⟨u, hu1, hu2⟩ := hcell 101 (cs.toList[101]'(by omega)) (by rw [← Array.getElem?_toList, List.getElem?_eq_getElem (by omega)])
  have : u = 4 := by
    rw [List.getElem?_append_right (by simp), List.length_replicate] at hu1
    simpa using hu1.symm
  subst this
  obtain ⟨s, hsb⟩ := cell_bool hu2
  refine ⟨l, s, ?_, ?_, hb⟩
  · unfold memV memC mixC intsV
    congr 1
    have e : cs.toList = cs.toList.take 101 ++ [cs.toList[101]'(by omega)] := by
      apply List.ext_getElem
      · simp; omega
      · intro i h1 h2
        by_cases k : i < 101
        · rw [List.getElem_append_left (by simp; omega), List.getElem_take]
        · obtain rfl : i = 101 := by omega
          rw [List.getElem_append_right (by simp; omega)]
          simp
    rw [hsb, hl2] at e
    rw [← e]
  · have := congrArg List.length hl2
    simp at this
    omega
end Go.Proofs.Ytekdgohomaeeeaa
