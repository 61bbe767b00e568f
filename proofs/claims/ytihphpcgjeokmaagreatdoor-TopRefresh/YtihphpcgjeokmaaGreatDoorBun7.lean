/- Texts put together: CodD, CodG, RefDown, IntsA, SameU, LConA, LDec, LCdT, EncT, CodK, CodI, CodJ. -/
import Derived.Test.YtihphpcgjeokmaaGreatDoorBun6
import Derived.Test.YtihphpcgjeokmaaGreatDoorBun3
import Derived.Test.YtihphpcgjeokmaaGreatDoorBun2
import Derived.BigQuiet
import Derived.Deep.QuietTactic
import Derived.Test.YtihphpcgjeokmaaGreatDoorBun1
import Derived.Shelf.Small.Bits
import Derived.OwnWalk
import Derived.Test.YtihphpcgjeokmaaGreatDoorBun4
/- CodD -/
namespace Go.Proofs.YtihphpcgjeokmaaGreatDoor
open Go.RowKit
set_option linter.unusedVariables false
set_option linter.unusedSimpArgs false
set_option maxHeartbeats 4000000
theorem make_roomD (n : Nat) (h1 : n ≤ 35184372088832) (u : World) : (Instr.makeSlice 36 (.int .i64 0) (.int .i64 n)).run Tryz.prog u = .ok (.slice (some ⟨u.heap.size, 0, none⟩) 0 n) (u.alloc (.cells (arrI (zeros n)) 3)) := by
  obtain ⟨i0, hi, hz0, hz1, hz2⟩ := info_parts infoI64
  have h := run_make (P := Tryz.prog) u 36 3 i0 (.int .i64 0) Tryz.underlying36 hi hz0 .i64 .i64 0 n (Int.le_refl _) (by omega) (by rw [hz2]; omega) (by omega)
  have m := made_arrI (n := n)
  rw [show zeros n = List.replicate n 0 by unfold zeros; rfl, ← m]
  simpa [hz1, Value.cells] using h
theorem own_roomD {w : World} {b base n : Nat} (h : Blk w b 3 (zeros n)) (hb : base ≤ b) (hl : n ≤ 35184372088832) : Own base w (.slice (some ⟨b, 0, none⟩) 0 n) [] :=
  ⟨by simp, .inr ⟨b, n, arrI (zeros n), rfl, hb, h, Nat.zero_le _, by unfold maxLen; omega, by simp [arrI, zeros_len], by simp⟩⟩
theorem size9x : (Tryz.prog.info? 89).map (·.size) = some 9 := by kernel_rfl
theorem index_prd (L : List Int) (hL : L.length = 18) (k : Nat) (hk : k < 2) (w : World) : Sem.run Tryz.prog (Instr.index 98 (.agg (arrI L)) (.int .i64 k)) w = .ok (.agg (arrI (prt L (9 * k) 9))) w := by
  have hs := size9x
  have hb : (0 : Int) ≤ k ∧ (k : Int) < 2 := by omega
  have he : (arrI L).extract (k * 9) (k * 9 + 9) = arrI (prt L (9 * k) 9) := by
    apply Array.toList_inj.1
    rw [Array.toList_extract]
    have := ints_partC L (9 * k) 9 (by omega)
    rw [show (arrI L).toList = intsV L from rfl, show (arrI (prt L (9 * k) 9)).toList = intsV (prt L (9 * k) 9) from rfl, ← this]
    rw [List.extract_eq_take_drop, Nat.mul_comm k 9, Nat.add_sub_cancel_left]
  cases hq : Tryz.prog.info? 89 with
  | none => simp [hq] at hs
  | some i =>
    have hi : i.size = 9 := by simpa [hq] using hs
    simp [Instr.index, run_underlying Tryz.underlying98, run_underlying Tryz.underlying89, asIntOf, hb, go_sem, sizeOf, typeInfo, hq, hi, part, isAgg, he]
    intro h
    omega
def CPy (f : Nat) (w : World) : Prop := ∀ (l : List Int) (s : Bool), l.length = 101 → goodM l = true → ∀ (p : List Int), p.length = 25 → gudP p = true → ∀ wr, w.grownBy wr none → Calls Tryz.prog f #[memV l s, .agg (arrI p)] wr (MmL wr (plyM l p) (plyS p) (plyL l p))
set_option maxRecDepth 100000 in
theorem codPlayed_any (w : World) (hW : Wide w) (hT : TabA w 1 gains 8) (hG : Grows w) (l : List Int) (s : Bool) (hl : l.length = 101) (hg : goodM l = true) (p : List Int) (hp : p.length = 25) (gp : gudP p = true) :
    Calls Tryz.prog 26 #[memV l s, .agg (arrI p)] w (MmL w (plyM l p) (plyS p) (plyL l p)) := by
  have M0 := hide (PlQ.new w l s p)
  obtain ⟨kd, hkd⟩ : ∃ kd, nth p 0 = kd := ⟨_, rfl⟩
  obtain ⟨l0, hl0⟩ : ∃ l0, plF l p = l0 := ⟨_, rfl⟩
  obtain ⟨f1, f2⟩ := plF_good (p := p) hl hg
  rw [hl0] at f1 f2
  obtain ⟨now, hnow⟩ : ∃ now, vlL p = now := ⟨_, rfl⟩
  have nl : now.length = 8 := by rw [← hnow]; exact vlL_len p
  have ns : steadyB now = true := by rw [← hnow]; exact vlL_steady p gp
  obtain ⟨sil, hsil⟩ : ∃ sil, plyS p = sil := ⟨_, rfl⟩
  have es : decide (kd = 2) = sil := by rw [← hsil, ← hkd]; rfl
  have AH := hide (fun wr => codAhead_any l s kd hl wr)
  rw [show (if kd = 1 then freL else l) = l0 from by rw [← hl0, ← hkd]; rfl] at AH
  obtain ⟨s0, hs0⟩ : ∃ s0 : Bool, (if kd = 1 then false else s) = s0 := ⟨_, rfl⟩
  rw [hs0] at AH
  have VA := hide (fun wr (g : w.grownBy wr none) => Values_any (prt p 1 8) (prt_len _ _ _) wr (Wide_keep hW g))
  rw [(vals_eq gp).1, (vals_eq gp).2, hnow] at VA
  have PR := hide (fun wr => codPredictors_any (prt l0 0 8) now (prt_len _ _ _) nl (reflM_steady f2) ns wr)
  have IX' := hide (fun k (hk : k < 2) u => index_prd (prL (prt l0 0 8) now 2) (prL_len _ _ 2) k hk u)
  have IE := hide (fun k (hk : k < 2) => prL_part (prt l0 0 8) now k hk)
  have LL := hide (fun k => plM_len sil now p f1 k)
  have OL := hide (fun k (hk : k ≤ 2) => (plO_right sil f1 f2 nl ns gp k hk).1)
  have AL' := hide (fun k => prdP_len (prt l0 0 8) now k)
  have SP := hide (show ∀ (k : Nat), k < 2 → ∀ wr, w.grownBy wr none → Calls Tryz.prog 44 #[memV (plM sil now l0 p k) s0, .agg (arrI (prdP (prt l0 0 8) now k)), .int .i64 kd, .agg (arrI (subL p k))] wr (MmL wr (plM sil now l0 p (k + 1)) s0 (hfL (prdP (prt l0 0 8) now k) sil (plM sil now l0 p k) (subL p k))) from fun k hk wr q => by
    have c := codHalf_any (prdP (prt l0 0 8) now k) (plM sil now l0 p k) (subL p k) s0 kd (AL'.out k) (LL.out k) (plM_good sil f1 f2 nl ns gp k (by omega)) (subL_good p gp k hk) wr (TabA_keep hT q) (growsC_keep hG q)
    rw [es, plM_half sil f1 f2 nl ns gp k hk] at c
    exact c)
  have SN := hide (fun (k : Nat) (hk : k < 2) => hfL_le (prdP (prt l0 0 8) now k) sil (plM_good sil f1 f2 nl ns gp k (by omega)) (subL_good p gp k hk))
  have S2 := hide (fun (k : Nat) (hk : k < 2) => plO_half sil f1 f2 nl ns gp k hk)
  have E0 := hide (show plM sil now l0 p 0 = l0 from rfl)
  have E1 := hide (show plO sil now l0 p 0 = [] from rfl)
  have F := hide (show ∀ v' w', Own w.heap.size w' v' (plO sil now l0 p 2) → w.grownBy w' none → MmL w (plyM l p) (plyS p) (plyL l p) (.returned (.tuple #[memV ((ovr (plM sil now l0 p 2) 0 now).set 99 0) sil, v'])) w' from fun v' w' o q =>
    ⟨v', by unfold plyM; rw [hsil, hnow, hl0], by unfold plyL; rw [hsil, hnow, hl0]; exact o, q⟩)
  have NL := hide nl
  have HP := hide hp
  have HL := hide hl
  have HL0 := hide f1
  have CL := hide (memC_len hl s)
  have C0 := hide (memC_len f1 s0)
  have AL0 := hide (BlkM.all s hl)
  have PS := hide (fun k (hk : k < 2) => ints_partC p (9 + 8 * k) 8 (by omega))
  have PV := hide (ints_partC p 1 8 (by omega))
  have P0 := hide (BlkM.part (l := l0) s0 0 8 (by omega))
  have ZL := hide (memC_len (zeros_len 101) false)
  have hz := zero_mem
  have hmk := make_roomD 80 (by omega)
  rw [show ((80 : Nat) : Int) = 80 from rfl] at hmk
  have hk2 : (kd == 2) = sil := by
    rw [← es]
    by_cases e : kd = 2
    · rw [decide_eq_true e]; exact beq_iff_eq.2 e
    · rw [decide_eq_false e]; exact beq_eq_false_iff_ne.2 e
  have KD := hide hkd
  clear hg hl gp hp f1 f2 nl ns hnow hsil hkd hl0 hs0 es hW hT hG
  generalize MmL w (plyM l p) (plyS p) (plyL l p) = T at *
  generalize plM sil now l0 p = LM at *
  generalize plO sil now l0 p = LO at *
  generalize prL (prt l0 0 8) now 2 = PRL at *
  unfold AnsC at AH PR
  unfold memV at hz F SP AH ⊢
  go_enter Tryz.func26, Tryz.ntmps26
  go_upto_region 1 with fail
  generalize ((w.alloc (.cells (memC l s).toArray 30)).alloc (.cells (arrI p) 59)).alloc (.cells (memC (zeros 101) false).toArray 30) = W0 at *
  clear hz
  have cp := M0.out.num 0 (by rw [HP.out]; omega)
  rw [KD.out] at cp
  go_wp2_with (first | refine wpList_load_v rfl 30 _ rfl w.heap.size 0 102 rfl 30 (memC l s) M0.out.1 _ Tryz.underlying30 rfl size102 (by rw [CL.out]; omega) _ AL0.out ?_)
  refine (AH.out W0).mono ?_
  rintro e W1 ⟨rfl, g1⟩
  have M1 := hide (M0.out.keep g1)
  have MA := M1.out.all (m := l0) (t := s0) HL.out HL0.out
  have M2 := hide MA.1
  have I0 := hide (memC_one l0 s0)
  clear MA M0 g1 AH cp AL0
  go_upto_region 2 with (first | refine wpList_store_v rfl 30 _ _ rfl w.heap.size 0 30 (memC l s) (memC l0 s0) rfl rfl M1.out.1 (by rw [CL.out, C0.out]; omega) (by rw [C0.out]; exact size102) I0.out ?_)
  (try simp only [Act.put])
  clear M1 I0 CL
  generalize putV W1 w.heap.size 0 (memC l0 s0) = W2 at *
  go_wp2_with (first | refine wpList_load_v rfl 27 _ rfl (w.heap.size + 1) 1 8 rfl 59 (intsV p) M2.out.2.1 _ Tryz.underlying27 rfl size8 (by rw [intsV_len, HP.out]; omega) _ PV.out ?_)
  refine (VA.out _ M2.out.2.2.2).mono ?_
  rintro e W3 ⟨rfl, g3⟩
  obtain ⟨b1, b2, b3⟩ := fresh_arr W3 27 8 now NL.out
  have B1 := hide b1
  have B2 := hide b2
  have M3 := hide ((M2.out.keep g3).keep b3)
  have NB := hide (show w.heap.size + 1 + 1 + 1 ≤ W3.heap.size from (M2.out.keep g3).2.2.1.lt)
  rw [z8'] at B1 B2 M3
  clear g3 VA b1 b2 b3 M2 PV
  go_upto_region 3 with (first | refine wpList_store_arr rfl 27 _ _ rfl _ (zeros 8) now rfl rfl B1.out (by rw [NL.out, zeros_len]) (by rw [zeros_len]; exact size8) ?_)
  (try simp only [Act.put])
  clear B1
  generalize putArr _ W3.heap.size now = W4 at *
  generalize W3.heap.size = ba at *
  have N4 := hide (show ba + 1 ≤ W4.heap.size from B2.out.lt)
  have OZ := hide (own_roomD (base := ba + 1) (n := 80) (Blk.new W4 3 (zeros 80)) N4.out (by omega))
  have GZ := grown_alloc W4 (.cells (arrI (zeros 80)) 3) none
  have M5 := hide (M3.out.keep GZ)
  have B5 := hide (B2.out.keep GZ)
  have N5 := hide (Nat.le_trans N4.out GZ.size)
  clear GZ M3 B2 N4
  go_upto_region 4 with fail
  clear hmk
  generalize W4.alloc (.cells (arrI (zeros 80)) 3) = W5 at *
  generalize W4.heap.size = bo at *
  have PR1 := hide (PR.out W5)
  clear PR
  go_wp2_with (first | refine wpList_load_v rfl 27 _ rfl w.heap.size 0 8 rfl 30 (memC l0 s0) M5.out.1 _ Tryz.underlying27 rfl size8 (by rw [C0.out]; omega) _ P0.out ?_ | refine wpList_load_arr rfl 27 _ rfl _ rfl _ B5.out _ Tryz.underlying27 rfl (by rw [NL.out]; exact size8) ?_)
  refine PR1.out.mono ?_
  rintro e W6 ⟨rfl, g6⟩
  have M6 := hide (M5.out.keep g6)
  have B6 := hide (B5.out.keep g6)
  have O6 := hide (OZ.out.keep g6)
  have N6 := hide (Nat.le_trans N5.out g6.size)
  clear g6 PR1 M5 B5 OZ N5 P0
  go_wp2_with fail
  go_loopw [8, 27] (fun va i wr => ∃ k : Nat, i = .int .i64 (k : Int) ∧ k ≤ 2 ∧ Hid (Own (ba + 1) wr va (LO k)) ∧ Hid (PlQ w (LM k) s0 p wr) ∧ Hid (Blk wr ba 27 now) ∧ Hid (ba + 1 ≤ wr.heap.size)) (fun _ i _ => 2 - (intOf i).toNat)
  case atStart => exact ⟨0, rfl, Nat.zero_le _, by rw [E1.out]; exact O6.out, by rw [E0.out]; exact M6.out, B6.out, N6.out⟩
  case round =>
    obtain ⟨k, rfl, hk, hO, hM, hB, hN⟩ := hrel
    clear M6 B6 O6 N6
    by_cases hkl : k < 2
    · have hk3 : (k : Int) < 2 := by omega
      have A1 := hide (BlkM.all s0 (LL.out k))
      have C1 := hide (memC_len (LL.out k) s0)
      have CK := hide (memC_len (LL.out (k + 1)) s0)
      have IK := hide (memC_one (LM (k + 1)) s0)
      have Q2 := hide (S2.out k hkl)
      have OK := hide (OL.out k hk)
      have SK := hide (SN.out k hkl)
      have SP1 := hide (SP.out k hkl)
      have AL := hide (AL'.out k)
      have PU := hide (PS.out k hkl)
      have hix := IX'.out k hkl
      rw [IE.out k hkl] at hix
      rw [show prt p (9 + 8 * k) 8 = subL p k from rfl] at PU
      clear S2 OL SN SP PS AL' F IX' IE hk2
      generalize hfL (prdP (prt l0 0 8) now k) sil (LM k) (subL p k) = LX at *
      generalize prdP (prt l0 0 8) now k = AK at *
      obtain ⟨b1, b2, b3⟩ := fresh_arr wr 89 9 AK AL.out
      have B1 := hide b1
      have BA := hide b2
      have M1 := hide (hM.out.keep b3)
      have O1 := hide (hO.out.keep b3)
      have BN := hide (hB.out.keep b3)
      have N1 := hide (Nat.le_trans hN.out b3.size)
      rw [z9'] at B1 BA M1 O1 BN N1
      clear b1 b2 b3 hM hO hB hN
      go_upto_region 7 with (first | refine wpList_store_arr rfl 89 _ _ rfl _ (zeros 9) AK rfl rfl B1.out (by rw [AL.out, zeros_len]) (by rw [zeros_len]; exact size9') ?_)
      (try simp only [Act.put])
      clear B1 hix
      generalize putArr _ wr.heap.size AK = wq at *
      generalize wr.heap.size = bq at *
      go_upto_region 8 with fail
      have hM := M1
      have hO := O1
      have hB := BN
      have hN := N1
      clear M1 O1 BN N1
      refine wp_region_G 12 (GrownW wq) 14 (by rfl) #[false, false, false, false, false, false, false, false, false, false, false, false, false, false] (by rfl) (by kernel_rfl) (fun hcl => ?_)
      have hHeld := (gw_start wq)
      refine wpAnyG_take (i := 0) (v := .agg (memC (LM k) s0).toArray) rfl (by kernel_rfl) hcl (fun _ _ _ h => h) (Or.inl ⟨by rfl, ?ypa0⟩) hHeld (fun hcl => ?rpa0)
      case ypa0 => (intro w' hSw; (try dsimp only at hSw); exact yields_load_v rfl rfl (hM.out.1.keep hSw) _ Tryz.underlying30 rfl size102 (by rw [C1.out]; omega) _ A1.out)
      (try simp only [Act.put, sL])
      refine wpAnyG_take (i := 1) (v := .agg (arrI AK)) rfl (by kernel_rfl) hcl (fun _ _ _ h => h) (Or.inl ⟨by rfl, ?ypa1⟩) hHeld (fun hcl => ?rpa1)
      case ypa1 => (intro w' hSw; (try dsimp only at hSw); exact yields_load_arr rfl rfl (BA.out.keep hSw) _ Tryz.underlying89 rfl (by rw [AL.out]; exact size9'))
      (try simp only [Act.put, sL])
      refine wpAnyG_take (i := 2) (v := ?vpa2) rfl (by kernel_rfl) hcl (fun _ _ _ h => h) (Or.inl ⟨by rfl, ?ypa2⟩) hHeld (fun hcl => ?rpa2)
      case ypa2 => (intro w' hSw; (try dsimp only at hSw); go_simp; (try with_reducible rfl))
      (try simp only [Act.put, sL])
      refine wpAnyG_take (i := 3) (v := .int .i64 kd) rfl (by kernel_rfl) hcl (fun _ _ _ h => h) (Or.inl ⟨by rfl, ?ypa3⟩) hHeld (fun hcl => ?rpa3)
      case ypa3 => (intro w' hSw; (try dsimp only at hSw); have cc := ((hM.out.2.1.keep hSw).cell 0).trans (ints_getC p 0 (by rw [HP.out]; omega)); rw [KD.out] at cc; go_simp; (try with_reducible rfl))
      (try simp only [Act.put, sL])
      refine wpAnyG_take (i := 4) (v := ?vpa4) rfl (by kernel_rfl) hcl (fun _ _ _ h => h) (Or.inl ⟨by rfl, ?ypa4⟩) hHeld (fun hcl => ?rpa4)
      case ypa4 => (intro w' hSw; (try dsimp only at hSw); go_simp; (try with_reducible rfl))
      (try simp only [Act.put, sL])
      refine wpAnyG_take (i := 5) (v := ?vpa5) rfl (by kernel_rfl) hcl (fun _ _ _ h => h) (Or.inl ⟨by rfl, ?ypa5⟩) hHeld (fun hcl => ?rpa5)
      case ypa5 => (intro w' hSw; (try dsimp only at hSw); go_simp; (try with_reducible rfl))
      (try simp only [Act.put, sL])
      refine wpAnyG_take (i := 6) (v := .pointer (some ⟨w.heap.size + 1, 9 + 8 * k, none⟩)) rfl (by kernel_rfl) hcl (fun _ _ _ h => h) (Or.inl ⟨by rfl, ?ypa6⟩) hHeld (fun hcl => ?rpa6)
      case ypa6 => (intro w' hSw; (try dsimp only at hSw); go_simp; (try simp only [Nat.mul_comm]); (try with_reducible rfl))
      (try simp only [Act.put, sL])
      refine wpAnyG_take (i := 7) (v := .agg (intsV (subL p k)).toArray) rfl (by kernel_rfl) hcl (fun _ _ _ h => h) (Or.inl ⟨by rfl, ?ypa7⟩) hHeld (fun hcl => ?rpa7)
      case ypa7 => (intro w' hSw; (try dsimp only at hSw); exact yields_load_v rfl rfl (hM.out.2.1.keep hSw) _ Tryz.underlying56 rfl size8sub (by rw [intsV_len, HP.out]; omega) _ PU.out)
      (try simp only [Act.put, sL])
      refine wpAnyG_exec (i := 8) rfl (by kernel_rfl) hcl (fun K hK => ?_)
      (try simp only [Act.put, sL])
      go_simp
      refine (SP1.out _ (grown_none hM.out.2.2.2 hHeld)).mono ?_
      rintro e w2 ⟨v2, rfl, o2, q2⟩
      have Q2 := hide q2
      have X2 := hide (o2.base (Nat.le_trans hN.out hHeld.size))
      clear q2 o2
      unfold memV
      go_wp2_with fail
      have hNew := (gw_trans hHeld Q2.out)
      refine hK.out _ _ (fun _ => hNew) (fun hcl => ?_)
      clear hK
      replace hHeld := hNew
      clear hNew
      (try simp only [Act.put, sL])
      refine wpAnyG_take (i := 9) (v := ?vpa9) rfl (by kernel_rfl) hcl (fun _ _ _ h => h) (Or.inl ⟨by rfl, ?ypa9⟩) hHeld (fun hcl => ?rpa9)
      case ypa9 => (intro w' hSw; (try dsimp only at hSw); go_simp; (try with_reducible rfl))
      (try simp only [Act.put, sL])
      refine wpAnyG_take (i := 10) (v := ?vpa10) rfl (by kernel_rfl) hcl (fun _ _ _ h => h) (Or.inl ⟨by rfl, ?ypa10⟩) hHeld (fun hcl => ?rpa10)
      case ypa10 => (intro w' hSw; (try dsimp only at hSw); go_simp; (try with_reducible rfl))
      (try simp only [Act.put, sL])
      refine wpAnyG_takeF (i := 11) (v := ?vpa11) rfl (by kernel_rfl) hcl (fun _ _ _ h => h) (Or.inl ⟨by rfl, ?ypa11⟩) hHeld (fun hcl => ?rpa11)
      case ypa11 => (intro w' _; go_simp; (try with_reducible rfl))
      (try simp only [Act.put, sL])
      refine wpAnyG_exec (i := 12) rfl (by kernel_rfl) hcl (fun K hK => ?_)
      (try simp only [Act.put, sL])
      have M2 := hide (hM.out.keep hHeld)
      have MA := M2.out.all (m := LM (k + 1)) (t := s0) (LL.out k) (LL.out (k + 1))
      have M3 := hide MA.1
      have O3 := hide ((hO.out.keep hHeld).keepLt MA.2 (by have := NB.out; omega))
      have X3 := hide (X2.out.keepLt MA.2 (by have := NB.out; omega))
      have B3 := hide ((hB.out.keep hHeld).keepBut MA.2 (by have := NB.out; omega))
      have N3 := hide (Nat.le_trans (Nat.le_trans hN.out hHeld.size) MA.2.size)
      clear MA X2
      refine step_store_v rfl 30 _ _ rfl w.heap.size 0 30 (memC (LM k) s0) (memC (LM (k + 1)) s0) rfl rfl M2.out.1 (by rw [C1.out, CK.out]; omega) (by rw [CK.out]; exact size102) IK.out ?_
      refine hK.out _ _ (fun h => by cases h) (fun hcl => ?_)
      clear hK hHeld
      (try simp only [Act.put, sL])
      clear M2 Q2 hM hO hB
      generalize putV w2 w.heap.size 0 (memC (LM (k + 1)) s0) = w3 at *
      refine wpAnyG_of_any _ _ _ _ (by rfl) ?_
      refine wpAny_take (i := 13) (v := ?vpa13) rfl (by kernel_rfl) (by kernel_rfl) (by kernel_rfl) (fun _ _ _ h => h) (Or.inl ⟨by rfl, ?ypa13⟩) ?rpa13
      case ypa13 => (intro w'; go_simp; (try with_reducible rfl))
      (try simp only [Act.put, sL])
      refine wpAny_done (by kernel_rfl) ?_ _
      clear A1 C1 SP1 PU hkl BA
      go_upto_region 9 with fail
      have LB := hide (show ((LO k).length + LX.length) * 8 ≤ 140737488355328 by rw [OK.out]; have := SK.out; omega)
      have XI := hide X3.out.ints
      have XS := hide X3.out.shp
      go_wp2_with (at_builtin; refine wpList_append_both (by rfl) _ _ rfl (ba + 1) _ _ (LO k) LX rfl rfl O3.out XI.out XS.out LB.out N3.out ?_)
      intro v7 w7 h7 g7
      rw [Q2.out] at h7
      have O7 := hide h7
      have M7 := hide (M3.out.own g7 (fun x e => by have := (O3.out.lt x e).1; have := NB.out; omega))
      have B7 := hide (BlkV.toBlk (BlkV.own (BlkV.ofBlk B3.out) g7 (fun x e => by have := (O3.out.lt x e).1; omega)))
      have N7 := hide (Nat.le_trans N3.out g7.size)
      clear h7 g7 O3 M3 B3 N3 X3 Q2 XI XS
      go_wp2_with fail
      go_roundw
      case rel => exact ⟨k + 1, by go_num, by omega, O7.out, M7.out, B7.out, N7.out⟩
      case measure => simp [intOf]; omega
    · obtain rfl : k = 2 := by omega
      have C2 := hide (memC_len (LL.out 2) s0)
      clear S2 OL SN SP PS AL' IX' IE
      go_upto_region 11 with fail
      refine wp_region_held_drew (S := fun u => BlkV u (w.heap.size + 1) 59 (intsV p) ∧ Blk u ba 27 now) (by kernel_rfl) ⟨hM.out.2.1.keep (gw_start wr), hB.out.keep (gw_start wr)⟩ (fun hHeld => ?_)
      refine wpAnyH_take (i := 0) (v := .agg (arrI now)) rfl (by kernel_rfl) (by kernel_rfl) (by kernel_rfl) (fun _ _ _ h => h) (Or.inl ⟨by rfl, ?ypc0⟩) hHeld ?rpc0
      case ypc0 => (intro w' hSw; exact yields_load_arr rfl rfl hSw.2 _ Tryz.underlying27 rfl (by rw [NL.out]; exact size8))
      (try simp only [Act.put, sL])
      refine wpAnyH_take (i := 1) (v := ?vpc1) rfl (by kernel_rfl) (by kernel_rfl) (by kernel_rfl) (fun _ _ _ h => h) (Or.inl ⟨by rfl, ?ypc1⟩) hHeld ?rpc1
      case ypc1 => (intro w' hSw; go_simp; (try with_reducible rfl))
      (try simp only [Act.put, sL])
      refine wpAnyH_take (i := 2) (v := .int .i64 kd) rfl (by kernel_rfl) (by kernel_rfl) (by kernel_rfl) (fun _ _ _ h => h) (Or.inl ⟨by rfl, ?ypc2⟩) hHeld ?rpc2
      case ypc2 => (intro w' hSw; have cc := (hSw.1.cell 0).trans (ints_getC p 0 (by rw [HP.out]; omega)); rw [KD.out] at cc; go_simp; (try with_reducible rfl))
      (try simp only [Act.put, sL])
      refine wpAnyH_take (i := 3) (v := .bool sil) rfl (by kernel_rfl) (by kernel_rfl) (by kernel_rfl) (fun _ _ _ h => h) (Or.inl ⟨by rfl, ?ypc3⟩) hHeld ?rpc3
      case ypc3 => (intro w' hSw; go_simp; (try simp only [hk2]); (try with_reducible rfl))
      (try simp only [Act.put, sL])
      refine wpAnyH_take (i := 4) (v := ?vpc4) rfl (by kernel_rfl) (by kernel_rfl) (by kernel_rfl) (fun _ _ _ h => h) (Or.inl ⟨by rfl, ?ypc4⟩) hHeld ?rpc4
      case ypc4 => (intro w' hSw; go_simp; (try with_reducible rfl))
      (try simp only [Act.put, sL])
      refine wpAnyH_ready (rs := [5]) (by kernel_rfl) (by simp) (AllReadyH.cons rfl (fun K hK => ?_) AllReadyH.nil)
      (try simp only [Act.put, sL])
      have MD := hide (hM.out.keep (gw_start wr))
      have MA := MD.out.put 0 now (by rw [NL.out, LL.out]; omega)
      have M6 := hide MA.1
      have O6 := hide ((hO.out.keep (gw_start wr)).keepLt MA.2 (by have := NB.out; omega))
      have HS6 := And.intro (hHeld.1.keepBut MA.2 (by omega)) (hHeld.2.keepBut MA.2 (by have := NB.out; omega))
      clear MA
      refine step_store_v rfl 27 _ _ rfl w.heap.size 0 30 (memC (LM 2) s0) (intsV now) rfl rfl MD.out.1 (by rw [intsV_len, NL.out, C2.out]; omega) (by rw [intsV_len, NL.out]; exact size8) (intsV_one _) ?_
      refine hK.out _ _ HS6 (fun hHeld => ?_)
      clear hK
      (try simp only [Act.put, sL])
      clear MD HS6
      generalize putV wr.drew w.heap.size 0 (intsV now) = w6 at *
      have L6 := hide (show (ovr (LM 2) 0 now).length = 101 by rw [ovr_len]; exact LL.out 2)
      generalize ovr (LM 2) 0 now = m6 at *
      refine wpAnyH_take (i := 6) (v := ?vpc6) rfl (by kernel_rfl) (by kernel_rfl) (by kernel_rfl) (fun _ _ _ h => h) (Or.inl ⟨by rfl, ?ypc6⟩) hHeld ?rpc6
      case ypc6 => (intro w' hSw; go_simp; (try with_reducible rfl))
      (try simp only [Act.put, sL])
      refine wpAnyH_ready (rs := [7]) (by kernel_rfl) (by simp) (AllReadyH.cons rfl (fun K hK => ?_) AllReadyH.nil)
      (try simp only [Act.put, sL])
      have ck := M6.out.1.cell 99 (by rw [L6.out]; omega)
      have fk := M6.out.1.free 99
      have M7 := hide (M6.out.set 99 0 (by rw [L6.out]; omega))
      have O7 := hide (O6.out.keepLt (grown_setCell w6 ⟨w.heap.size, 99, none⟩ (.int .i64 0)) (by have := NB.out; simp; omega))
      have HS7 := And.intro (hHeld.1.keepBut (grown_setCell w6 ⟨w.heap.size, 99, none⟩ (.int .i64 0)) (by simp)) (hHeld.2.keepBut (grown_setCell w6 ⟨w.heap.size, 99, none⟩ (.int .i64 0)) (by have := NB.out; simp; omega))
      go_simp
      go_wp2_with fail
      refine hK.out _ _ HS7 (fun hHeld => ?_)
      clear hK
      (try simp only [Act.put, sL])
      clear ck fk M6 O6 HS7
      generalize w6.setCell ⟨w.heap.size, 99, none⟩ (.int .i64 0) = w7 at *
      have L7 := hide (show (m6.set 99 0).length = 101 by rw [List.length_set]; exact L6.out)
      generalize m6.set 99 0 = m7 at *
      refine wpAnyH_take (i := 8) (v := ?vpc8) rfl (by kernel_rfl) (by kernel_rfl) (by kernel_rfl) (fun _ _ _ h => h) (Or.inl ⟨by rfl, ?ypc8⟩) hHeld ?rpc8
      case ypc8 => (intro w' hSw; go_simp; (try with_reducible rfl))
      (try simp only [Act.put, sL])
      refine wpAnyH_ready (rs := [9]) (by kernel_rfl) (by simp) (AllReadyH.cons rfl (fun K hK => ?_) AllReadyH.nil)
      (try simp only [Act.put, sL])
      have ck := M7.out.1.cellS L7.out
      have fk := M7.out.1.free 101
      have M8 := hide (M7.out.setS L7.out sil)
      have O8 := hide (O7.out.keepLt (grown_setCell w7 ⟨w.heap.size, 101, none⟩ (.bool sil)) (by have := NB.out; simp; omega))
      have HS8 := And.intro (hHeld.1.keepBut (grown_setCell w7 ⟨w.heap.size, 101, none⟩ (.bool sil)) (by simp)) (hHeld.2.keepBut (grown_setCell w7 ⟨w.heap.size, 101, none⟩ (.bool sil)) (by have := NB.out; simp; omega))
      go_simp
      go_wp2_with fail
      refine hK.out _ _ HS8 (fun hHeld => ?_)
      clear hK
      (try simp only [Act.put, sL])
      clear ck fk M7 O7 HS8
      generalize w7.setCell ⟨w.heap.size, 101, none⟩ (.bool sil) = w8 at *
      refine wpAnyH_done (by kernel_rfl) ?_ _
      clear hHeld
      go_upto_region 12 with fail
      have A8 := hide (BlkM.all sil L7.out)
      have C8 := hide (memC_len L7.out sil)
      have ON := hide (memC_one m7 sil)
      have PB := hide (M8.out.fin m7 sil L7.out)
      have O9 := hide (O8.out.keepLt PB.out.2.2 (by have := NB.out; omega))
      have FF := hide (F.out _ _ (O9.out.base (b' := w.heap.size) (by have := NB.out; omega)) PB.out.2.1)
      clear F O8 O9
      go_wp2_with (first | refine wpList_load_v rfl 30 _ rfl w.heap.size 0 102 rfl 30 (memC m7 sil) M8.out.1 _ Tryz.underlying30 rfl size102 (by rw [C8.out]; omega) _ A8.out ?_ | refine wpList_store_v rfl 30 _ _ rfl (w.heap.size + 1 + 1) 0 30 (memC (zeros 101) false) (memC m7 sil) rfl rfl M8.out.2.2.1 (by rw [ZL.out, C8.out]; omega) (by rw [C8.out]; exact size102) ON.out ?_)
      have hlv := loadVar_v PB.out.1 _ Tryz.underlying30 rfl (by rw [C8.out]; exact size102)
      refine bodyPost_ret (v := .tuple #[.agg (memC m7 sil).toArray, _]) ?_ rfl FF.out
      simp [results, Tryz.results26, asAddr, Act.put, hlv]
theorem cpy_of {W : World} (hW : Wide W) (hT : TabA W 1 gains 8) (hG : Grows W) : CPy 26 W := fun l s hl hg p hp gp wr g => codPlayed_any wr (Wide_keep hW g) (TabA_keep hT g) (growsC_keep hG g) l s hl hg p hp gp
end Go.Proofs.YtihphpcgjeokmaaGreatDoor

/- CodG -/
namespace Go.Proofs.YtihphpcgjeokmaaGreatDoor
open Go.RowKit
set_option linter.unusedVariables false
set_option linter.unusedSimpArgs false
set_option maxHeartbeats 4000000
theorem zero_pktC (w : World) : Sem.run Tryz.prog (zeroValue 59) w = .ok (.agg (arrI (zeros 25))) w := by
  have hz := zPkt
  cases hq : Tryz.prog.info? 59 with
  | none => simp [hq] at hz
  | some i =>
    have hi : i.zero = some (.agg (arrI (zeros 25))) := by simpa [hq] using hz
    simp [zeroValue, typeInfo, hq, hi]
theorem unpL_lenC (b : List Int) : (unpL b).length = 25 := by
  unfold unpL
  split
  · exact tab_len _ _
  · exact tab_len _ _
theorem MmS.ownG {w : World} {l m : List Int} {s t : Bool} {wr : World} (h : MmS w l s wr) (hl : l.length = 101) (hm : m.length = 101) : MmS w m t (putV wr w.heap.size 0 (memC m t)) ∧ wr.grownBy (putV wr w.heap.size 0 (memC m t)) (some w.heap.size) := by
  have := h.1.putAll (m := m) (t := t) hl hm
  exact ⟨⟨this.1, h.2.1.keepBut this.2 (by omega), grown_own h.2.2 this.2 (Nat.le_refl _)⟩, this.2⟩
set_option maxRecDepth 100000 in
theorem codDecode_no (v : Value) (b : List Int) (l : List Int) (s : Bool) (hl : l.length = 101) (h64 : In64 l) (hg : goodM l = false) (w : World) : Calls Tryz.prog 14 #[memV l s, v] w (MemE w (decM l b) (decS l b) (decL l b) (decE l b)) := by
  have M0 := hide (MmS.new w l s)
  have GD := hide (fun wr => conGood_any l s hl wr)
  rw [hg] at GD
  have F := hide (show ∀ w', w.grownBy w' none → MemE w (decM l b) (decS l b) (decL l b) (decE l b) (.returned (.tuple #[memV (zeros 101) false, .slice none 0 0, .int .i64 2])) w' from fun w' q => ⟨_, by rw [(dec_bad (b := b) hg).1, (dec_bad (b := b) hg).2.1, (dec_bad (b := b) hg).2.2.2], by rw [(dec_bad (b := b) hg).2.2.1]; exact Own_nil _ _, q⟩)
  have CL := hide (memC_len hl s)
  have AL := hide (BlkM.all s hl)
  have ZL := hide (memC_len (zeros_len 101) false)
  have ZO := hide (memC_one (zeros 101) false)
  have hz := zero_mem
  have ZB := hide (fun wr (h : MmS w l s wr) => h.fin (zeros 101) false (zeros_len 101))
  clear hg h64
  generalize MemE w (decM l b) (decS l b) (decL l b) (decE l b) = T at *
  unfold memV at hz F GD ⊢
  go_enter Tryz.func14, Tryz.ntmps14
  go_upto_region 1 with fail
  generalize (w.alloc (.cells (memC l s).toArray 30)).alloc (.cells (memC (zeros 101) false).toArray 30) = W0 at *
  go_wp2_with (refine wpList_load_v rfl 30 _ rfl w.heap.size 0 102 rfl 30 (memC l s) M0.out.1 _ Tryz.underlying30 rfl size102 (by rw [CL.out]; omega) _ AL.out ?_)
  refine (GD.out W0).mono ?_
  rintro e W1 ⟨rfl, g1⟩
  have M1 := hide (M0.out.keep g1)
  have PB := hide (ZB.out W1 M1.out)
  have FF := hide (F.out _ PB.out.2)
  clear M0 g1 GD ZB F
  go_wp2_with (first | refine wpList_store_v rfl 30 _ _ rfl (w.heap.size + 1) 0 30 (memC (zeros 101) false) (memC (zeros 101) false) rfl rfl M1.out.2.1 (by rw [ZL.out]; omega) (by rw [ZL.out]; exact size102) ZO.out ?_)
  have hlv := loadVar_v PB.out.1 _ Tryz.underlying30 rfl (by rw [ZL.out]; exact size102)
  refine bodyPost_ret (v := .tuple #[.agg (memC (zeros 101) false).toArray, .slice none 0 0, .int .i64 2]) ?_ rfl FF.out
  simp [results, Tryz.results14, asAddr, Act.put, hlv]
set_option maxRecDepth 100000 in
theorem codDecode_err (w : World) (pl : CPy 26 w) (pu : ∀ (v : Value) (b : List Int) wr, w.grownBy wr none → Byts wr v b → byB b → b.length ≤ 140737488351232 → Calls Tryz.prog 20 #[v] wr (UnP wr b)) (v : Value) (b : List Int) (hv : Byts w v b) (hb : byB b) (hbl : b.length ≤ 140737488351232) (l : List Int) (s : Bool) (hl : l.length = 101) (h64 : In64 l) (hg : goodM l = true) (hu : unE b ≠ 0) : Calls Tryz.prog 14 #[memV l s, v] w (MemE w (decM l b) (decS l b) (decL l b) (decE l b)) := by
  have M0 := hide (MmS.new w l s)
  have GD := hide (fun wr => conGood_any l s hl wr)
  rw [hg] at GD
  have UN := hide (fun wr (g : w.grownBy wr none) => pu v b wr g (Byts_keep hv g) hb hbl)
  unfold UnP at UN
  have UL := hide (unpL_lenC b)
  have F := hide (show ∀ w', w.grownBy w' none → MemE w (decM l b) (decS l b) (decL l b) (decE l b) (.returned (.tuple #[memV (zeros 101) false, .slice none 0 0, .int .i64 (unE b)])) w' from fun w' q => ⟨_, by rw [(dec_no hg hu).1, (dec_no hg hu).2.1, (dec_no hg hu).2.2.2], by rw [(dec_no hg hu).2.2.1]; exact Own_nil _ _, q⟩)
  have ZO := hide (memC_one (zeros 101) false)
  clear hg
  have HL := hide hl
  have CL := hide (memC_len hl s)
  have AL := hide (BlkM.all s hl)
  have ZL := hide (memC_len (zeros_len 101) false)
  have hz := zero_mem
  have hzp := zero_pktC
  clear h64 hl pl pu hv hb hbl
  generalize MemE w (decM l b) (decS l b) (decL l b) (decE l b) = T at *
  unfold memV at hz F GD ⊢
  generalize unpL b = P at *
  generalize unE b = x at *
  go_enter Tryz.func14, Tryz.ntmps14
  go_upto_region 1 with fail
  generalize (w.alloc (.cells (memC l s).toArray 30)).alloc (.cells (memC (zeros 101) false).toArray 30) = W0 at *
  go_wp2_with (refine wpList_load_v rfl 30 _ rfl w.heap.size 0 102 rfl 30 (memC l s) M0.out.1 _ Tryz.underlying30 rfl size102 (by rw [CL.out]; omega) _ AL.out ?_)
  refine (GD.out W0).mono ?_
  rintro e W1 ⟨rfl, g1⟩
  have M1 := hide (M0.out.keep g1)
  clear M0 g1 GD
  go_wp2_with fail
  refine (UN.out W1 M1.out.2.2).mono ?_
  rintro e W2 ⟨rfl, g2⟩
  obtain ⟨b1, b2, b3⟩ := fresh_arr W2 59 25 P UL.out
  have B1 := hide b1
  have B2 := hide b2
  have M3 := hide ((M1.out.keep g2).keep b3)
  have N2 := hide (show w.heap.size + 1 + 1 ≤ W2.heap.size from (M1.out.keep g2).2.1.lt)
  clear UN g2 b1 b2 b3 M1
  go_upto_region 5 with (first | refine wpList_store_arr rfl 59 _ _ rfl _ (zeros 25) P rfl rfl B1.out (by rw [UL.out, zeros_len]) (by rw [zeros_len]; exact size25) ?_)
  clear B1 hzp
  generalize putArr _ W2.heap.size P = W3 at *
  have PB := hide (M3.out.fin (zeros 101) false (zeros_len 101))
  have FF := hide (F.out _ PB.out.2)
  clear F
  go_wp2_with (first | refine wpList_store_v rfl 30 _ _ rfl (w.heap.size + 1) 0 30 (memC (zeros 101) false) (memC (zeros 101) false) rfl rfl M3.out.2.1 (by rw [ZL.out]; omega) (by rw [ZL.out]; exact size102) ZO.out ?_)
  have hlv := loadVar_v PB.out.1 _ Tryz.underlying30 rfl (by rw [ZL.out]; exact size102)
  refine bodyPost_ret (v := .tuple #[.agg (memC (zeros 101) false).toArray, .slice none 0 0, .int .i64 x]) ?_ rfl FF.out
  simp [results, Tryz.results14, asAddr, Act.put, hlv]
set_option maxRecDepth 100000 in
theorem codDecode_yes (w : World) (pl : CPy 26 w) (pu : ∀ (v : Value) (b : List Int) wr, w.grownBy wr none → Byts wr v b → byB b → b.length ≤ 140737488351232 → Calls Tryz.prog 20 #[v] wr (UnP wr b)) (v : Value) (b : List Int) (hv : Byts w v b) (hb : byB b) (hbl : b.length ≤ 140737488351232) (l : List Int) (s : Bool) (hl : l.length = 101) (h64 : In64 l) (hg : goodM l = true) (hu : unE b = 0) : Calls Tryz.prog 14 #[memV l s, v] w (MemE w (decM l b) (decS l b) (decL l b) (decE l b)) := by
  have M0 := hide (MmS.new w l s)
  have GD := hide (fun wr => conGood_any l s hl wr)
  rw [hg] at GD
  have UN := hide (fun wr (g : w.grownBy wr none) => pu v b wr g (Byts_keep hv g) hb hbl)
  unfold UnP at UN
  have UL := hide (unpL_lenC b)
  have PL := hide (fun wr (g : w.grownBy wr none) => pl l s hl hg (unpL b) (unpL_lenC b) (unpL_good b hu) wr g)
  have F := hide (show ∀ v' w', Own w.heap.size w' v' (plyL l (unpL b)) → w.grownBy w' none → MemE w (decM l b) (decS l b) (decL l b) (decE l b) (.returned (.tuple #[memV (plyM l (unpL b)) (plyS (unpL b)), v', .int .i64 0])) w' from fun v' w' o q =>
    ⟨v', by rw [(dec_yes hg hu).1, (dec_yes hg hu).2.1, (dec_yes hg hu).2.2.2], by rw [(dec_yes hg hu).2.2.1]; exact o, q⟩)
  have ML := hide (plyM_len (unpL b) hl)
  rw [hu] at UN
  clear hg hu
  have HL := hide hl
  have CL := hide (memC_len hl s)
  have AL := hide (BlkM.all s hl)
  have ZL := hide (memC_len (zeros_len 101) false)
  have hz := zero_mem
  have hzp := zero_pktC
  clear h64 hl pl pu hv hb hbl
  generalize MemE w (decM l b) (decS l b) (decL l b) (decE l b) = T at *
  unfold MmL at PL
  unfold memV at hz F GD PL ⊢
  generalize unpL b = P at *
  go_enter Tryz.func14, Tryz.ntmps14
  go_upto_region 1 with fail
  generalize (w.alloc (.cells (memC l s).toArray 30)).alloc (.cells (memC (zeros 101) false).toArray 30) = W0 at *
  go_wp2_with (refine wpList_load_v rfl 30 _ rfl w.heap.size 0 102 rfl 30 (memC l s) M0.out.1 _ Tryz.underlying30 rfl size102 (by rw [CL.out]; omega) _ AL.out ?_)
  refine (GD.out W0).mono ?_
  rintro e W1 ⟨rfl, g1⟩
  have M1 := hide (M0.out.keep g1)
  clear M0 g1 GD
  go_wp2_with fail
  refine (UN.out W1 M1.out.2.2).mono ?_
  rintro e W2 ⟨rfl, g2⟩
  obtain ⟨b1, b2, b3⟩ := fresh_arr W2 59 25 P UL.out
  have B1 := hide b1
  have B2 := hide b2
  have M3 := hide ((M1.out.keep g2).keep b3)
  have N2 := hide (show w.heap.size + 1 + 1 ≤ W2.heap.size from (M1.out.keep g2).2.1.lt)
  clear UN g2 b1 b2 b3 M1
  go_upto_region 4 with (first | refine wpList_store_arr rfl 59 _ _ rfl _ (zeros 25) P rfl rfl B1.out (by rw [UL.out, zeros_len]) (by rw [zeros_len]; exact size25) ?_)
  clear B1 hz hzp
  generalize putArr _ W2.heap.size P = W3 at *
  generalize W2.heap.size = bp at *
  go_wp2_with (first | refine wpList_load_v rfl 30 _ rfl w.heap.size 0 102 rfl 30 (memC l s) M3.out.1 _ Tryz.underlying30 rfl size102 (by rw [CL.out]; omega) _ AL.out ?_ | refine wpList_load_arr rfl 59 _ rfl _ rfl _ B2.out _ Tryz.underlying59 rfl (by rw [UL.out]; exact size25) ?_)
  refine (PL.out W3 M3.out.2.2).mono ?_
  rintro e W4 ⟨v4, rfl, o4, g4⟩
  (try unfold memV)
  generalize plyM l P = m at *
  generalize plyS P = t at *
  generalize plyL l P = L at *
  have M4 := hide (M3.out.keep g4)
  have O4 := hide (o4.base (b' := w.heap.size + 1 + 1) (show w.heap.size + 1 + 1 ≤ W3.heap.size from M3.out.2.1.lt))
  have MA := M4.out.ownG (m := m) (t := t) HL.out ML.out
  have M5 := hide MA.1
  have O5 := hide (O4.out.keepLt MA.2 (by omega))
  have I_ := hide (memC_one m t)
  have CM := hide (memC_len ML.out t)
  clear g4 o4 M3 B2 MA O4 PL
  go_upto_region 7 with (first | refine wpList_store_v rfl 30 _ _ rfl w.heap.size 0 30 (memC l s) (memC m t) rfl rfl M4.out.1 (by rw [CM.out, CL.out]; omega) (by rw [CM.out]; exact size102) I_.out ?_)
  clear M4
  generalize putV W4 w.heap.size 0 (memC m t) = W5 at *
  have A5 := hide (BlkM.all t ML.out)
  have PB := hide (M5.out.fin m t ML.out)
  have O6 := hide (O5.out.keepLt (M5.out.2.1.putAll (m := m) (t := t) (zeros_len 101) ML.out).2 (by omega))
  have FF := hide (F.out _ _ (O6.out.base (b' := w.heap.size) (by omega)) PB.out.2)
  clear F O5 O6
  go_wp2_with (first | refine wpList_load_v rfl 30 _ rfl w.heap.size 0 102 rfl 30 (memC m t) M5.out.1 _ Tryz.underlying30 rfl size102 (by rw [CM.out]; omega) _ A5.out ?_ | refine wpList_store_v rfl 30 _ _ rfl (w.heap.size + 1) 0 30 (memC (zeros 101) false) (memC m t) rfl rfl M5.out.2.1 (by rw [ZL.out, CM.out]; omega) (by rw [CM.out]; exact size102) I_.out ?_)
  have hlv := loadVar_v PB.out.1 _ Tryz.underlying30 rfl (by rw [CM.out]; exact size102)
  refine bodyPost_ret (v := .tuple #[.agg (memC m t).toArray, _, .int .i64 0]) ?_ rfl FF.out
  simp [results, Tryz.results14, asAddr, Act.put, hlv]
theorem codDecode_any (w : World) (pl : CPy 26 w) (pu : ∀ (v : Value) (b : List Int) wr, w.grownBy wr none → Byts wr v b → byB b → b.length ≤ 140737488351232 → Calls Tryz.prog 20 #[v] wr (UnP wr b)) (v : Value) (b : List Int) (hv : Byts w v b) (hb : byB b) (hbl : b.length ≤ 140737488351232) (l : List Int) (s : Bool) (hl : l.length = 101) (h64 : In64 l) : Calls Tryz.prog 14 #[memV l s, v] w (MemE w (decM l b) (decS l b) (decL l b) (decE l b)) := by
  rcases hg : goodM l with _ | _
  · exact codDecode_no v b l s hl h64 hg w
  · by_cases hu : unE b = 0
    · exact codDecode_yes w pl pu v b hv hb hbl l s hl h64 hg hu
    · exact codDecode_err w pl pu v b hv hb hbl l s hl h64 hg hu
end Go.Proofs.YtihphpcgjeokmaaGreatDoor

/- RefDown -/
namespace Go.Proofs.YtihphpcgjeokmaaGreatDoor

end Go.Proofs.YtihphpcgjeokmaaGreatDoor

/- IntsA -/
namespace Go.Proofs.YtihphpcgjeokmaaGreatDoor

end Go.Proofs.YtihphpcgjeokmaaGreatDoor

/- SameU -/
namespace Go.Proofs.YtihphpcgjeokmaaGreatDoor

end Go.Proofs.YtihphpcgjeokmaaGreatDoor

/- LConA -/
namespace Go.Proofs.YtihphpcgjeokmaaGreatDoor

end Go.Proofs.YtihphpcgjeokmaaGreatDoor

/- LDec -/
namespace Go.Proofs.YtihphpcgjeokmaaGreatDoor
open Go.RowKit
set_option linter.unusedVariables false
set_option linter.unusedSimpArgs false
set_option maxHeartbeats 4000000
def CDe (f : Nat) (w : World) : Prop := ∀ (l : List Int) (s : Bool), l.length = 101 → In64 l → ∀ (v : Value) (b : List Int) (wr : World), w.grownBy wr none → Byts wr v b → Shp v b → byB b → b.length ≤ 140737488351232 → Calls Tryz.prog f #[memV l s, v] wr (MemE wr (decM l b) (decS l b) (decL l b) (decE l b))
end Go.Proofs.YtihphpcgjeokmaaGreatDoor

/- LCdT -/
namespace Go.Proofs.YtihphpcgjeokmaaGreatDoor
open Go.RowKit
set_option linter.unusedVariables false
theorem wide_tab {W : World} (t : TabA W 0 widq 8) : Wide W := fun i hi => by
  have e : ∀ i : Fin 8, widq.getD i.val 0 = (wid i.val : Int) := by decide
  rw [t i hi]
  exact congrArg (fun z => some (Value.int .i64 z)) (e ⟨i, hi⟩)
theorem grows_tab {W : World} (t : TabA W 2 gro 15) : Grows W := t
theorem cde_of {W : World} (t0 : TabA W 2 gro 15) (t1 : TabA W 0 widq 8) (t2 : TabA W 1 gains 8) : CDe 14 W :=
  fun l s hl h64 v b wr g hb sh hby hsz => codDecode_any wr (cpy_of (wide_tab (TabA_keep t1 g)) (TabA_keep t2 g) (grows_tab (TabA_keep t0 g))) (fun v b wx q hv hy hz => pkUnpack_any v b wx hv hy (by omega) (TabA_keep (TabA_keep t1 g) q)) v b hb hby hsz l s hl h64
end Go.Proofs.YtihphpcgjeokmaaGreatDoor

/- EncT -/
namespace Go.Proofs.YtihphpcgjeokmaaGreatDoor
open Go.RowKit
set_option linter.unusedVariables false
set_option linter.unusedSimpArgs false
def EnQ (w : World) (e : List Int) (s : Bool) (wr : World) : Prop := BlkE wr w.heap.size e s ∧ BlkE wr (w.heap.size + 1) (zeros 225) false ∧ w.grownBy wr none
theorem EnQ.new (w : World) (e : List Int) (s : Bool) : EnQ w e s ((w.alloc (.cells (encC e s).toArray 32)).alloc (.cells (encC (zeros 225) false).toArray 32)) := by
  refine ⟨(BlkE.new w e s).keep (grown_alloc _ _ none), ?_, grown_none (grown_alloc _ _ none) (grown_alloc _ _ none)⟩
  have := BlkE.new (w.alloc (.cells (encC e s).toArray 32)) (zeros 225) false
  simpa using this
theorem EnQ.keep {w : World} {e : List Int} {s : Bool} {wr wr' : World} (h : EnQ w e s wr) (g : wr.grownBy wr' none) : EnQ w e s wr' := ⟨h.1.keep g, h.2.1.keep g, grown_none h.2.2 g⟩
theorem EnQ.own {w : World} {e : List Int} {s : Bool} {wr wr' : World} {r : Option Nat} (h : EnQ w e s wr) (g : wr.grownBy wr' r) (hr : ∀ x, r = some x → w.heap.size + 1 + 1 ≤ x) : EnQ w e s wr' := by
  rcases r with _ | x
  · exact h.keep g
  · have := hr x rfl
    exact ⟨h.1.keepBut g (by omega), h.2.1.keepBut g (by omega), grown_own h.2.2 g (by omega)⟩
theorem EnQ.fin {w : World} {e : List Int} {s : Bool} {wr : World} (h : EnQ w e s wr) (m : List Int) (t : Bool) (hm : m.length = 225) : BlkE (putV wr (w.heap.size + 1) 0 (encC m t)) (w.heap.size + 1) m t ∧ w.grownBy (putV wr (w.heap.size + 1) 0 (encC m t)) none ∧ wr.grownBy (putV wr (w.heap.size + 1) 0 (encC m t)) (some (w.heap.size + 1)) := by
  have := h.2.1.putAll (m := m) (t := t) (zeros_len 225) hm
  exact ⟨this.1, grown_own h.2.2 this.2 (by omega), this.2⟩
def ENT (W : World) (bp bn bm : Nat) (p now m : List Int) (s : Bool) (wr : World) : Prop := W.grownBy wr none ∧ BlkI wr bp 59 p ∧ Blk wr bn 27 now ∧ BlkM wr bm m s
theorem ENT.keep {W : World} {bp bn bm : Nat} {p now m : List Int} {s : Bool} {wr wr' : World} (h : ENT W bp bn bm p now m s wr) (g : wr.grownBy wr' none) : ENT W bp bn bm p now m s wr' := ⟨grown_none h.1 g, h.2.1.keep g, h.2.2.1.keep g, h.2.2.2.keep g⟩
structure NB3 (W : World) (bp bn bm : Nat) : Prop where
  a : W.heap.size ≤ bp
  b : bp < bn
  c : bn < bm
theorem ENT.putP {W : World} {bp bn bm : Nat} {p now m : List Int} {s : Bool} {wr : World} (h : ENT W bp bn bm p now m s wr) (n : NB3 W bp bn bm) (o : Nat) (M : List Int) (hl : o + M.length ≤ p.length) : ENT W bp bn bm (ovr p o M) now m s (putV wr bp o (intsV M)) := by
  have := n.b
  have := n.c
  have q := h.2.1.put o M hl
  exact ⟨grown_own h.1 q.2 n.a, q.1, h.2.2.1.keepBut q.2 (by omega), h.2.2.2.keepBut q.2 (by omega)⟩
theorem ENT.mem {W : World} {bp bn bm : Nat} {p now m m' : List Int} {s s' : Bool} {wr wr' : World} (h : ENT W bp bn bm p now m s wr) (n : NB3 W bp bn bm) (hb : BlkM wr' bm m' s') (g : wr.grownBy wr' (some bm)) : ENT W bp bn bm p now m' s' wr' := by
  have := n.a
  have := n.b
  have := n.c
  exact ⟨grown_own h.1 g (by omega), h.2.1.keepBut g (by omega), h.2.2.1.keepBut g (by omega), hb⟩
def pksN (P : List Int) (U : Nat → List Int) : Nat → List Int
  | 0 => P
  | k + 1 => ovr (pksN P U k) (9 + 8 * k) (U k)
theorem pksN_len (P : List Int) (U : Nat → List Int) : ∀ k, (pksN P U k).length = P.length
  | 0 => rfl
  | k + 1 => by show (ovr _ _ _).length = _; rw [ovr_len]; exact pksN_len P U k
theorem pksN_low {P : List Int} (U : Nat → List Int) (hP : P.length = 25) (i : Nat) (hi : i < 9) : ∀ k, nth (pksN P U k) i = nth P i
  | 0 => rfl
  | k + 1 => by
    show nth (ovr _ _ _) i = _
    rw [ovr_nth _ _ _ _ (by rw [pksN_len, hP]; omega), if_neg (by omega)]
    exact pksN_low U hP i hi k
theorem pksN_sub {P : List Int} (U : Nat → List Int) (hP : P.length = 25) (k : Nat) (hk : k < 2) (hU : (U k).length = 8) : prt (pksN P U (k + 1)) (9 + 8 * k) 8 = U k := by
  refine (tab_ext hU (fun i hi => ?_)).symm
  show nth (U k) i = nth (ovr _ _ _) _
  rw [ovr_nth _ _ _ _ (by rw [pksN_len, hP]; omega), if_pos (by omega), Nat.add_sub_cancel_left]
theorem pksN_two {P q : List Int} (U : Nat → List Int) (kd : Int) (hP : P.length = 25) (h0 : nth P 0 = kd) (hq : q.length = 8) (h1 : ∀ i, i < 8 → nth P (1 + i) = nth q i) (u0 : (U 0).length = 8) (u1 : (U 1).length = 8) : pksN P U 2 = kd :: (q ++ (U 0 ++ U 1)) := by
  have l : (pksN P U 2).length = 25 := by rw [pksN_len, hP]
  have e : (kd :: (q ++ (U 0 ++ U 1))).length = 25 := by simp [hq, u0, u1]
  rw [tab_ext l (fun i _ => rfl : ∀ i, i < 25 → nth (pksN P U 2) i = (fun i => nth (pksN P U 2) i) i), tab_ext e (fun i _ => rfl : ∀ i, i < 25 → nth (kd :: (q ++ (U 0 ++ U 1))) i = (fun i => nth (kd :: (q ++ (U 0 ++ U 1))) i) i)]
  refine tab_congr 25 _ _ (fun i hi => ?_)
  show nth (pksN P U 2) i = nth (kd :: (q ++ (U 0 ++ U 1))) i
  by_cases h9 : i < 9
  · rw [pksN_low U hP i h9 2]
    by_cases e0 : i = 0
    · subst e0; exact h0
    · obtain ⟨j, rfl⟩ : ∃ j, i = 1 + j := ⟨i - 1, by omega⟩
      rw [h1 j (by omega), Nat.add_comm]
      exact (nth_app_l q _ j (by omega)).symm
  · have r : nth (kd :: (q ++ (U 0 ++ U 1))) i = nth (U 0 ++ U 1) (i - 9) := by
      obtain ⟨j, rfl⟩ : ∃ j, i = (8 + j) + 1 := ⟨i - 9, by omega⟩
      show nth (q ++ (U 0 ++ U 1)) (8 + j) = _
      rw [nth_app_r _ _ _ (by omega), hq]
      (congr 1 <;> omega)
    rw [r]
    show nth (ovr (pksN P U 1) 17 (U 1)) i = _
    rw [ovr_nth _ _ _ _ (by rw [pksN_len, hP]; omega), u1]
    by_cases h17 : 17 ≤ i ∧ i < 17 + 8
    · rw [if_pos h17, nth_app_r _ _ _ (by omega), u0]
      (congr 1 <;> omega)
    · rw [if_neg h17, nth_app_l _ _ _ (by omega)]
      show nth (ovr P 9 (U 0)) i = _
      rw [ovr_nth _ _ _ _ (by omega), u0, if_pos (by omega)]
theorem shp_pos {w : World} {v : Value} {l : List Int} (h : Ints w v l) (hl : 0 < l.length) : ∃ a c, v = .slice (some a) l.length c := by
  obtain ⟨ad, c, rfl, _, h2⟩ := h
  obtain ⟨a, rfl, _⟩ := h2 hl
  exact ⟨a, c, rfl⟩
theorem enc_no {e l : List Int} (r : Bool) (h : ¬ enOk e l) : encM e l r = zeros 225 ∧ encT e l r = false ∧ encB e l r = [] ∧ encL e l r = [] := ⟨if_neg h, if_neg h, if_neg h, if_neg h⟩
theorem enc_yes {e l : List Int} (r : Bool) (h : enOk e l) : encM e l r = enHp e l ++ (enI e l ++ plyM (enMm e) (enP e l r)) ∧ encT e l r = plyS (enP e l r) ∧ encB e l r = pkA (enP e l r) ∧ encL e l r = plyL (enMm e) (enP e l r) ∧ encE e l = 0 := ⟨if_pos h, if_pos h, if_pos h, if_pos h, by unfold encE; rw [if_pos h.1, if_pos h]⟩
theorem enc_err {e l : List Int} (h : ¬ enOk e l) (hl : l.length = 80) : encE e l = 2 := by unfold encE; rw [if_pos hl, if_neg h]
end Go.Proofs.YtihphpcgjeokmaaGreatDoor

/- CodK -/
namespace Go.Proofs.YtihphpcgjeokmaaGreatDoor
open Go.RowKit
set_option linter.unusedVariables false
set_option linter.unusedSimpArgs false
set_option maxHeartbeats 4000000
theorem codKind_any (v : Value) (x : List Int) (r : Bool) (w : World) (hx : Ints w v x) (xl : x.length = 80) (xr : rightB x = true) :
    Calls Tryz.prog 23 #[v, .bool r] w (Ans w (.int .i64 (if r = true then 1 else if dotS x x 80 < 1280 then 2 else 0))) := by
  have D := hide (codProduct_any v v x x w hx hx (Nat.le_refl _) (by omega) xr xr)
  rw [xl] at D
  have F := hide (show ∀ z, z = (if r = true then 1 else if dotS x x 80 < 1280 then 2 else 0) → Ans w (.int .i64 (if r = true then 1 else if dotS x x 80 < 1280 then 2 else 0)) (.returned (.int .i64 z)) w from fun z hz => ⟨by rw [hz], rfl⟩)
  generalize Ans w (.int .i64 (if r = true then 1 else if dotS x x 80 < 1280 then 2 else 0)) = T at *
  clear hx xl xr
  cases r with
  | true =>
    have FF := hide (F.out 1 rfl)
    clear F D
    go_enter Tryz.func23, Tryz.ntmps23
    go_wp2_with fail
    exact FF.out
  | false =>
    by_cases h : dotS x x 80 < 1280
    · have FF := hide (F.out 2 (by rw [if_neg (by decide), if_pos h]))
      clear F
      generalize dotS x x 80 = d at *
      go_enter Tryz.func23, Tryz.ntmps23
      go_wp2_with fail
      refine D.out.mono ?_
      rintro e w1 ⟨rfl, rfl⟩
      clear D
      go_wp2_with fail
      exact FF.out
    · have FF := hide (F.out 0 (by rw [if_neg (by decide), if_neg h]))
      clear F
      generalize dotS x x 80 = d at *
      go_enter Tryz.func23, Tryz.ntmps23
      go_wp2_with fail
      refine D.out.mono ?_
      rintro e w1 ⟨rfl, rfl⟩
      clear D
      go_wp2_with fail
      exact FF.out
theorem step_copyV {y : Nat → Option Bool} {o : Oper} {a : Act} {w : World} {K : Act → World → Prop} {Q : Exit → Act → World → Prop} {E : Prop} (hg : o.guard = none) (d s : Operand)
    (hop : o.op = Op.call { callee := Callee.builtin Builtin.copy, args := #[d, s], argTypes := #[36, 36] }) (b off dn n dc sc : Nat) (T : TypeId) (cs : List Value) (L : List Int) (ad : Addr) (hb : BlkV w b T cs)
    (hd : a.eval d = .slice (some ⟨b, off, none⟩) dn dc) (hs : a.eval s = .slice (some ad) n sc) (hL : L.length = n) (hdn : n ≤ dn) (hsrc : ∀ j, j < n → w.cell? (ad.add j) = some (.int .i64 (nth L j))) (hfit : off + n ≤ cs.length)
    (hK : ∀ w', BlkV w' b T (splV cs off (intsV L)) → w.grownBy w' (some b) → K (a.put o.dst (goInt n)) w') : if Region.wanted o y = true then Oper.wp Tryz.prog o a w K Q else E := by
  have hw : Region.wanted o y = true := by simp [Region.wanted, hg]
  rw [if_pos hw]
  have hsz : (Tryz.prog.info? 3).map (·.size) = some 1 := by kernel_rfl
  have hrun := run_copy_row (P := Tryz.prog) w 36 36 o.type 3 b off dn dc ad n sc cs.toArray T (L.map (Value.int .i64)) Tryz.underlying36 hsz hb (by rw [List.length_map, hL]; exact (Nat.min_eq_left hdn).symm)
    (fun j v hv => by
      have hj : j < L.length := by
        by_cases hj : j < L.length
        · exact hj
        · rw [List.getElem?_eq_none (by simp; omega)] at hv; cases hv
      rw [hsrc j (by omega)]
      simpa [nth, List.getD, hj] using hv)
    (by simp [hL]; omega) (fun v hv => by
      obtain ⟨x, _, rfl⟩ := List.mem_map.1 hv
      rfl)
  have e : (cs.toArray.toList.take off ++ L.map (Value.int .i64) ++ cs.toArray.toList.drop (off + (L.map (Value.int .i64)).length)).toArray = (splV cs off (intsV L)).toArray := by simp [splV, intsV]
  rw [e, List.length_map, hL] at hrun
  unfold Oper.wp
  simp [execOp, hop, resolve, invoke, builtin, hd, hs, hrun, Result.andThen]
  exact hK _ (setRow_heap _ _ _ _ _ _ hb) (grown_setRowE _ _ _)
theorem BlkE.put {w : World} {b : Nat} {e : List Int} {s : Bool} (h : BlkE w b e s) (o : Nat) (M : List Int) (hl : o + M.length ≤ e.length) : BlkE (putV w b o (intsV M)) b (ovr e o M) s ∧ w.grownBy (putV w b o (intsV M)) (some b) := by
  have := put_v h o (intsV M) (by rw [intsV_len]; unfold encC; rw [mixC_len]; omega)
  unfold encC at this
  rw [mixC_spl _ _ _ _ hl] at this
  exact this
def LisS (w : World) (e : List Int) (s : Bool) (wr : World) : Prop := BlkE wr w.heap.size e s ∧ BlkE wr (w.heap.size + 1) (zeros 225) false ∧ Blk wr (w.heap.size + 1 + 1) 27 (zeros 8) ∧ Blk wr (w.heap.size + 1 + 1 + 1) 27 (zeros 8) ∧ w.grownBy wr none
theorem LisS.new (w : World) (e : List Int) (s : Bool) : LisS w e s ((((w.alloc (.cells (encC e s).toArray 32)).alloc (.cells (encC (zeros 225) false).toArray 32)).alloc (.cells #[.int .i64 0, .int .i64 0, .int .i64 0, .int .i64 0, .int .i64 0, .int .i64 0, .int .i64 0, .int .i64 0] 27)).alloc (.cells #[.int .i64 0, .int .i64 0, .int .i64 0, .int .i64 0, .int .i64 0, .int .i64 0, .int .i64 0, .int .i64 0] 27)) := by
  rw [← z8']
  have g1 := grown_alloc (w.alloc (.cells (encC e s).toArray 32)) (.cells (encC (zeros 225) false).toArray 32) none
  have g2 := grown_alloc ((w.alloc (.cells (encC e s).toArray 32)).alloc (.cells (encC (zeros 225) false).toArray 32)) (.cells (arrI (zeros 8)) 27) none
  have g3 := grown_alloc (((w.alloc (.cells (encC e s).toArray 32)).alloc (.cells (encC (zeros 225) false).toArray 32)).alloc (.cells (arrI (zeros 8)) 27)) (.cells (arrI (zeros 8)) 27) none
  refine ⟨(((BlkE.new w e s).keep g1).keep g2).keep g3, ?_, ?_, ?_, grown_none (grown_none (grown_none (grown_alloc _ _ none) g1) g2) g3⟩
  · have := ((BlkE.new (w.alloc (.cells (encC e s).toArray 32)) (zeros 225) false).keep g2).keep g3
    simpa using this
  · have := (Blk.new ((w.alloc (.cells (encC e s).toArray 32)).alloc (.cells (encC (zeros 225) false).toArray 32)) 27 (zeros 8)).keep g3
    simpa using this
  · have := Blk.new (((w.alloc (.cells (encC e s).toArray 32)).alloc (.cells (encC (zeros 225) false).toArray 32)).alloc (.cells (arrI (zeros 8)) 27)) 27 (zeros 8)
    simpa using this
theorem LisS.keep {w : World} {e : List Int} {s : Bool} {wr wr' : World} (h : LisS w e s wr) (g : wr.grownBy wr' none) : LisS w e s wr' := ⟨h.1.keep g, h.2.1.keep g, h.2.2.1.keep g, h.2.2.2.1.keep g, grown_none h.2.2.2.2 g⟩
theorem LisS.sess {w : World} {e m : List Int} {s t : Bool} {wr wr' : World} (h : LisS w e s wr) (hb : BlkE wr' w.heap.size m t) (g : wr.grownBy wr' (some w.heap.size)) : LisS w m t wr' := ⟨hb, h.2.1.keepBut g (by omega), h.2.2.1.keepBut g (by omega), h.2.2.2.1.keepBut g (by omega), grown_own h.2.2.2.2 g (Nat.le_refl _)⟩
theorem LisS.putE {w : World} {e : List Int} {s : Bool} {wr : World} (h : LisS w e s wr) (o : Nat) (M : List Int) (hl : o + M.length ≤ e.length) : LisS w (ovr e o M) s (putV wr w.heap.size o (intsV M)) ∧ wr.grownBy (putV wr w.heap.size o (intsV M)) (some w.heap.size) := by
  have := h.1.put o M hl
  exact ⟨h.sess this.1 this.2, this.2⟩
def LisE (w : World) (en : Int) (x : Ending) (w' : World) : Prop := ∃ m s, m.length = 225 ∧ x = .returned (.tuple #[encV m s, .agg (arrI (zeros 8)), .int .i64 en]) ∧ w.grownBy w' none
def LisY (w : World) (e : List Int) (s : Bool) (l : List Int) (x : Ending) (w' : World) : Prop := x = .returned (.tuple #[encV (enHp e l ++ (enI e l ++ enMm e)) s, .agg (arrI (enQ e l)), .int .i64 0]) ∧ w.grownBy w' none
set_option maxRecDepth 100000 in
theorem fcorr_one (v : Value) (l : List Int) (w : World) (h : Ints w v l) (hl : l.length = 120) (hr : rightB l = true) :
    Calls Tryz.prog 36 #[v] w fun x w' => x = .returned (.tuple #[.agg (arrI (corL l)), .int .i64 ((corB l : Int) - 31), .int .i64 0]) ∧ w.grownBy w' none := by
  refine (fcorr_yes v l w h hl hr).mono ?_
  rintro x w' ⟨n, hn, hx, hg⟩
  have hp := first_pos (f := wN l)
  have hb := firstV_bd (wN_all l hl hr) 0 (by omega)
  have e : n = corB l := bits_unique (by omega) hn (bits_len _ (by omega) (by omega))
  subst e
  exact ⟨by rw [hx, corrL_agg]; rfl, hg⟩
set_option maxRecDepth 100000 in
theorem codListened_size (w : World) (e : List Int) (s : Bool) (he : e.length = 225) (v : Value) (l : List Int) (hi : Ints w v l) (hsz : l.length * 8 ≤ 140737488351232) (hl : l.length ≠ 80) : Calls Tryz.prog 22 #[encV e s, v] w (LisE w (encE e l)) := by
  have L0 := hide (LisS.new w e s)
  have HE := hide he
  have CE := hide (encC_len he s)
  have AE := hide (BlkE.all s he)
  have ZC := hide (encC_len (zeros_len 225) false)
  have hz := zero_enc
  have F := hide (show ∀ m w', m.length = 225 → w.grownBy w' none → LisE w (encE e l) (.returned (.tuple #[encV m s, .agg (arrI (zeros 8)), .int .i64 1])) w' from fun m w' hm q => ⟨m, s, hm, by rw [(show encE e l = 1 from if_neg hl)], q⟩)
  obtain ⟨ad, c, rfl, hc, _⟩ := hi
  have hne : ((l.length : Int) == 80) = false := beq_eq_false_iff_ne.2 (by omega)
  clear hl
  generalize LisE w (encE e l) = T at *
  unfold encV at hz ⊢
  go_enter Tryz.func22, Tryz.ntmps22
  go_upto_region 2 with fail
  generalize (((w.alloc (.cells (encC e s).toArray 32)).alloc (.cells (encC (zeros 225) false).toArray 32)).alloc (.cells #[.int .i64 0, .int .i64 0, .int .i64 0, .int .i64 0, .int .i64 0, .int .i64 0, .int .i64 0, .int .i64 0] 27)).alloc (.cells #[.int .i64 0, .int .i64 0, .int .i64 0, .int .i64 0, .int .i64 0, .int .i64 0, .int .i64 0, .int .i64 0] 27) = W0 at *
  clear hz
  have LE1 := hide (show (e).length = 225 from HE.out)
  have CE1 := hide (encC_len LE1.out s)
  have AE1 := hide (BlkE.all s LE1.out)
  have QL := hide (zeros_len 8)
  have NQ := hide (Nat.le_refl (w.heap.size + 1 + 1 + 1))
  have LS := L0
  replace F := hide (fun w' q => F.out _ w' LE1.out q)
  unfold encV at F
  go_upto_region 3 with fail
  refine wp_region_held_drew (S := fun u => BlkE u w.heap.size (e) s ∧ Blk u (w.heap.size + 1 + 1 + 1) 27 (zeros 8)) (by kernel_rfl) ⟨LS.out.1.keep (gw_start _), LS.out.2.2.2.1.keep (gw_start _)⟩ (fun hHeld => ?_)
  refine wpAnyH_take (i := 0) (v := .agg (encC (e) s).toArray) rfl (by kernel_rfl) (by kernel_rfl) (by kernel_rfl) (fun _ _ _ h => h) (Or.inl ⟨by rfl, ?yla0⟩) hHeld ?rla0
  case yla0 => (intro w' hSw; exact yields_load_v rfl rfl hSw.1 _ Tryz.underlying32 rfl size226 (by rw [CE1.out]; omega) _ AE1.out)
  (try simp only [Act.put, sL])
  refine wpAnyH_take (i := 1) (v := .agg (arrI (zeros 8))) rfl (by kernel_rfl) (by kernel_rfl) (by kernel_rfl) (fun _ _ _ h => h) (Or.inl ⟨by rfl, ?yla1⟩) hHeld ?rla1
  case yla1 => (intro w' hSw; exact yields_load_arr rfl rfl hSw.2 _ Tryz.underlying27 rfl (by rw [QL.out]; exact size8))
  (try simp only [Act.put, sL])
  refine wpAnyH_ready (rs := [2]) (by kernel_rfl) (by simp) (AllReadyH.cons rfl (fun K hK => ?_) AllReadyH.nil)
  (try simp only [Act.put, sL])
  have LD := hide (LS.out.keep (gw_start _))
  have PU := LD.out.2.1.putAll (m := (e)) (t := s) (zeros_len 225) LE1.out
  have R1 := hide (LD.out.2.2.1.keepBut PU.2 (by omega))
  have P1 := hide PU.1
  have G1 := hide (grown_own LD.out.2.2.2.2 PU.2 (by omega))
  have HS1 := And.intro (hHeld.1.keepBut PU.2 (by omega)) (hHeld.2.keepBut PU.2 (by have := NQ.out; omega))
  clear PU
  refine step_store_v rfl 32 _ _ rfl (w.heap.size + 1) 0 32 (encC (zeros 225) false) (encC (e) s) rfl rfl LD.out.2.1 (by rw [ZC.out, CE1.out]; omega) (by rw [CE1.out]; exact size226) (encC_one _ _) ?_
  refine hK.out _ _ HS1 (fun hHeld => ?_)
  clear hK
  (try simp only [Act.put, sL])
  clear LD HS1
  generalize putV _ (w.heap.size + 1) 0 (encC (e) s) = wa at *
  refine wpAnyH_ready (rs := [3]) (by kernel_rfl) (by simp) (AllReadyH.cons rfl (fun K hK => ?_) AllReadyH.nil)
  (try simp only [Act.put, sL])
  have PU := put_arr (rs' := (zeros 8)) R1.out (QL.out.trans (zeros_len 8).symm)
  have R2 := hide PU.1
  have P2 := hide (P1.out.keepBut PU.2 (by omega))
  have G2 := hide (grown_own G1.out PU.2 (by omega))
  have HS2 := And.intro (hHeld.1.keepBut PU.2 (by omega)) (hHeld.2.keepBut PU.2 (by have := NQ.out; omega))
  clear PU
  refine step_store_arr rfl 27 _ _ rfl (w.heap.size + 1 + 1) (zeros 8) (zeros 8) rfl rfl R1.out (QL.out.trans (zeros_len 8).symm) (by rw [zeros_len]; exact size8) ?_
  refine hK.out _ _ HS2 (fun hHeld => ?_)
  clear hK
  (try simp only [Act.put, sL])
  clear HS2 R1 P1 G1
  generalize putArr wa (w.heap.size + 1 + 1) (zeros 8) = wb at *
  refine wpAnyH_take (i := 4) (v := ?vla4) rfl (by kernel_rfl) (by kernel_rfl) (by kernel_rfl) (fun _ _ _ h => h) (Or.inl ⟨by rfl, ?yla4⟩) hHeld ?rla4
  case yla4 => (intro w' hSw; go_simp; (try with_reducible rfl))
  (try simp only [Act.put, sL])
  refine wpAnyH_done (by kernel_rfl) ?_ _
  clear hHeld
  have FF := hide (F.out _ G2.out)
  clear F
  have hlv := loadVar_v P2.out _ Tryz.underlying32 rfl (by rw [CE1.out]; exact size226)
  have hlw := loadVar_arr R2.out _ Tryz.underlying27 rfl (by rw [QL.out]; exact size8)
  go_wp2_with fail
  refine bodyPost_ret (v := .tuple #[.agg (encC (e) s).toArray, .agg (arrI (zeros 8)), .int .i64 1]) ?_ rfl FF.out
  simp [results, Tryz.results22, asAddr, Act.put, hlv, hlw]
set_option maxRecDepth 100000 in
theorem codListened_bad (w : World) (e : List Int) (s : Bool) (he : e.length = 225) (v : Value) (l : List Int) (hi : Ints w v l) (hsz : l.length * 8 ≤ 140737488351232) (hl : l.length = 80) (hg : goodM (enMm e) = false) : Calls Tryz.prog 22 #[encV e s, v] w (LisE w (encE e l)) := by
  have L0 := hide (LisS.new w e s)
  have HE := hide he
  have CE := hide (encC_len he s)
  have AE := hide (BlkE.all s he)
  have ZC := hide (encC_len (zeros_len 225) false)
  have hz := zero_enc
  have hno : ¬ enOk e l := fun k => by have := k.2.1; rw [hg] at this; cases this
  have F := hide (show ∀ m w', m.length = 225 → w.grownBy w' none → LisE w (encE e l) (.returned (.tuple #[encV m s, .agg (arrI (zeros 8)), .int .i64 2])) w' from fun m w' hm q => ⟨m, s, hm, by rw [enc_err hno hl], q⟩)
  obtain ⟨al, cl, rfl⟩ := shp_pos hi (by omega)
  have HI := hide (fun wr (g : w.grownBy wr none) => Ints_keep hi g)
  rw [hl] at HI ⊢
  have HL := hide hl
  have GD := hide (fun wr => conGood_any (enMm e) s (prt_len _ _ _) wr)
  rw [hg] at GD
  have PM := hide (encC_mem s he)
  rw [show prt e 124 101 = enMm e from rfl] at PM
  clear hno hl hg
  generalize LisE w (encE e l) = T at *
  unfold memV at GD
  unfold encV at hz ⊢
  go_enter Tryz.func22, Tryz.ntmps22
  go_upto_region 2 with fail
  generalize (((w.alloc (.cells (encC e s).toArray 32)).alloc (.cells (encC (zeros 225) false).toArray 32)).alloc (.cells #[.int .i64 0, .int .i64 0, .int .i64 0, .int .i64 0, .int .i64 0, .int .i64 0, .int .i64 0, .int .i64 0] 27)).alloc (.cells #[.int .i64 0, .int .i64 0, .int .i64 0, .int .i64 0, .int .i64 0, .int .i64 0, .int .i64 0, .int .i64 0] 27) = W0 at *
  clear hz
  go_wp2_with (first | refine wpList_load_v rfl 30 _ rfl w.heap.size 124 102 rfl 32 (encC e s) L0.out.1 _ Tryz.underlying30 rfl size102 (by rw [CE.out]; omega) _ PM.out ?_)
  refine (GD.out W0).mono ?_
  rintro x W1 ⟨rfl, g1⟩
  have L1 := hide (L0.out.keep g1)
  clear L0 g1 GD
  have LE1 := hide (show (e).length = 225 from HE.out)
  have CE1 := hide (encC_len LE1.out s)
  have AE1 := hide (BlkE.all s LE1.out)
  have QL := hide (zeros_len 8)
  have NQ := hide (Nat.le_refl (w.heap.size + 1 + 1 + 1))
  have LS := L1
  replace F := hide (fun w' q => F.out _ w' LE1.out q)
  unfold encV at F
  go_upto_region 5 with fail
  refine wp_region_held_drew (S := fun u => BlkE u w.heap.size (e) s ∧ Blk u (w.heap.size + 1 + 1 + 1) 27 (zeros 8)) (by kernel_rfl) ⟨LS.out.1.keep (gw_start _), LS.out.2.2.2.1.keep (gw_start _)⟩ (fun hHeld => ?_)
  refine wpAnyH_take (i := 0) (v := .agg (encC (e) s).toArray) rfl (by kernel_rfl) (by kernel_rfl) (by kernel_rfl) (fun _ _ _ h => h) (Or.inl ⟨by rfl, ?ylb0⟩) hHeld ?rlb0
  case ylb0 => (intro w' hSw; exact yields_load_v rfl rfl hSw.1 _ Tryz.underlying32 rfl size226 (by rw [CE1.out]; omega) _ AE1.out)
  (try simp only [Act.put, sL])
  refine wpAnyH_take (i := 1) (v := .agg (arrI (zeros 8))) rfl (by kernel_rfl) (by kernel_rfl) (by kernel_rfl) (fun _ _ _ h => h) (Or.inl ⟨by rfl, ?ylb1⟩) hHeld ?rlb1
  case ylb1 => (intro w' hSw; exact yields_load_arr rfl rfl hSw.2 _ Tryz.underlying27 rfl (by rw [QL.out]; exact size8))
  (try simp only [Act.put, sL])
  refine wpAnyH_ready (rs := [2]) (by kernel_rfl) (by simp) (AllReadyH.cons rfl (fun K hK => ?_) AllReadyH.nil)
  (try simp only [Act.put, sL])
  have LD := hide (LS.out.keep (gw_start _))
  have PU := LD.out.2.1.putAll (m := (e)) (t := s) (zeros_len 225) LE1.out
  have R1 := hide (LD.out.2.2.1.keepBut PU.2 (by omega))
  have P1 := hide PU.1
  have G1 := hide (grown_own LD.out.2.2.2.2 PU.2 (by omega))
  have HS1 := And.intro (hHeld.1.keepBut PU.2 (by omega)) (hHeld.2.keepBut PU.2 (by have := NQ.out; omega))
  clear PU
  refine step_store_v rfl 32 _ _ rfl (w.heap.size + 1) 0 32 (encC (zeros 225) false) (encC (e) s) rfl rfl LD.out.2.1 (by rw [ZC.out, CE1.out]; omega) (by rw [CE1.out]; exact size226) (encC_one _ _) ?_
  refine hK.out _ _ HS1 (fun hHeld => ?_)
  clear hK
  (try simp only [Act.put, sL])
  clear LD HS1
  generalize putV _ (w.heap.size + 1) 0 (encC (e) s) = wa at *
  refine wpAnyH_ready (rs := [3]) (by kernel_rfl) (by simp) (AllReadyH.cons rfl (fun K hK => ?_) AllReadyH.nil)
  (try simp only [Act.put, sL])
  have PU := put_arr (rs' := (zeros 8)) R1.out (QL.out.trans (zeros_len 8).symm)
  have R2 := hide PU.1
  have P2 := hide (P1.out.keepBut PU.2 (by omega))
  have G2 := hide (grown_own G1.out PU.2 (by omega))
  have HS2 := And.intro (hHeld.1.keepBut PU.2 (by omega)) (hHeld.2.keepBut PU.2 (by have := NQ.out; omega))
  clear PU
  refine step_store_arr rfl 27 _ _ rfl (w.heap.size + 1 + 1) (zeros 8) (zeros 8) rfl rfl R1.out (QL.out.trans (zeros_len 8).symm) (by rw [zeros_len]; exact size8) ?_
  refine hK.out _ _ HS2 (fun hHeld => ?_)
  clear hK
  (try simp only [Act.put, sL])
  clear HS2 R1 P1 G1
  generalize putArr wa (w.heap.size + 1 + 1) (zeros 8) = wb at *
  refine wpAnyH_take (i := 4) (v := ?vlb4) rfl (by kernel_rfl) (by kernel_rfl) (by kernel_rfl) (fun _ _ _ h => h) (Or.inl ⟨by rfl, ?ylb4⟩) hHeld ?rlb4
  case ylb4 => (intro w' hSw; go_simp; (try with_reducible rfl))
  (try simp only [Act.put, sL])
  refine wpAnyH_done (by kernel_rfl) ?_ _
  clear hHeld
  have FF := hide (F.out _ G2.out)
  clear F
  have hlv := loadVar_v P2.out _ Tryz.underlying32 rfl (by rw [CE1.out]; exact size226)
  have hlw := loadVar_arr R2.out _ Tryz.underlying27 rfl (by rw [QL.out]; exact size8)
  go_wp2_with fail
  refine bodyPost_ret (v := .tuple #[.agg (encC (e) s).toArray, .agg (arrI (zeros 8)), .int .i64 2]) ?_ rfl FF.out
  simp [results, Tryz.results22, asAddr, Act.put, hlv, hlw]
set_option maxRecDepth 100000 in
theorem codListened_high (w : World) (e : List Int) (s : Bool) (he : e.length = 225) (v : Value) (l : List Int) (hi : Ints w v l) (hsz : l.length * 8 ≤ 140737488351232) (hl : l.length = 80) (hg : goodM (enMm e) = true) (hh : enHE e l = false) : Calls Tryz.prog 22 #[encV e s, v] w (LisE w (encE e l)) := by
  have L0 := hide (LisS.new w e s)
  have HE := hide he
  have CE := hide (encC_len he s)
  have AE := hide (BlkE.all s he)
  have ZC := hide (encC_len (zeros_len 225) false)
  have hz := zero_enc
  have hno : ¬ enOk e l := fun k => by have := k.2.2.1; rw [hh] at this; cases this
  have F := hide (show ∀ m w', m.length = 225 → w.grownBy w' none → LisE w (encE e l) (.returned (.tuple #[encV m s, .agg (arrI (zeros 8)), .int .i64 2])) w' from fun m w' hm q => ⟨m, s, hm, by rw [enc_err hno hl], q⟩)
  obtain ⟨al, cl, rfl⟩ := shp_pos hi (by omega)
  have HI := hide (fun wr (g : w.grownBy wr none) => Ints_keep hi g)
  rw [hl] at HI ⊢
  have HL := hide hl
  have GD := hide (fun wr => conGood_any (enMm e) s (prt_len _ _ _) wr)
  rw [hg] at GD
  have PM := hide (encC_mem s he)
  rw [show prt e 124 101 = enMm e from rfl] at PM
  have PH := hide (show ((encC e s).drop 0).take 4 = intsV [nth e 0, nth e 1, nth e 2, nth e 3] from by
    rw [encC_part s 0 4 (by omega)]; rfl)
  have HG := hide (fun wr (h : Ints wr (.slice (some al) 80 cl) l) => high_any (nth e 0) (nth e 1) (nth e 2) (nth e 3) (.slice (some al) 80 cl) l wr h (by omega))
  rw [show hiL (nth e 0) (nth e 1) (nth e 2) (nth e 3) l = enC e l from rfl] at HG
  unfold hiT at HG
  generalize hh0 : hiM (nth e 0) (nth e 1) (nth e 2) (nth e 3) l 0 = h0 at HG
  generalize hh1 : hiM (nth e 0) (nth e 1) (nth e 2) (nth e 3) l 1 = h1 at HG
  generalize hh2 : hiM (nth e 0) (nth e 1) (nth e 2) (nth e 3) l 2 = h2 at HG
  generalize hh3 : hiM (nth e 0) (nth e 1) (nth e 2) (nth e 3) l 3 = h3 at HG
  have hE : hiE (nth e 0) (nth e 1) (nth e 2) (nth e 3) l = 2 := by unfold hiE; unfold enHE at hh; rw [if_neg (by rw [hh]; decide)]
  rw [hE] at HG
  clear hno hl hg hh hE hh0 hh1 hh2 hh3
  generalize LisE w (encE e l) = T at *
  unfold memV at GD
  unfold encV at hz ⊢
  go_enter Tryz.func22, Tryz.ntmps22
  go_upto_region 2 with fail
  generalize (((w.alloc (.cells (encC e s).toArray 32)).alloc (.cells (encC (zeros 225) false).toArray 32)).alloc (.cells #[.int .i64 0, .int .i64 0, .int .i64 0, .int .i64 0, .int .i64 0, .int .i64 0, .int .i64 0, .int .i64 0] 27)).alloc (.cells #[.int .i64 0, .int .i64 0, .int .i64 0, .int .i64 0, .int .i64 0, .int .i64 0, .int .i64 0, .int .i64 0] 27) = W0 at *
  clear hz
  go_wp2_with (first | refine wpList_load_v rfl 30 _ rfl w.heap.size 124 102 rfl 32 (encC e s) L0.out.1 _ Tryz.underlying30 rfl size102 (by rw [CE.out]; omega) _ PM.out ?_)
  refine (GD.out W0).mono ?_
  rintro x W1 ⟨rfl, g1⟩
  have L1 := hide (L0.out.keep g1)
  clear L0 g1 GD
  go_wp2_with (first | refine wpList_load_v rfl 25 _ rfl w.heap.size 0 4 rfl 32 (encC e s) L1.out.1 _ Tryz.underlying25 rfl size4h (by rw [CE.out]; omega) _ PH.out ?_)
  refine (HG.out W1 (HI.out W1 L1.out.2.2.2.2)).mono ?_
  rintro x W2 ⟨vc, rfl, oc, g2⟩
  have L2 := hide ((L1.out.keep g2).keep (grown_alloc W2 (.cells #[.int .i64 h0, .int .i64 h1, .int .i64 h2, .int .i64 h3] 25) none))
  clear L1 g2 HG oc
  go_upto_region 7 with fail
  generalize W2.alloc (.cells #[.int .i64 h0, .int .i64 h1, .int .i64 h2, .int .i64 h3] 25) = W3 at *
  have LE1 := hide (show (e).length = 225 from HE.out)
  have CE1 := hide (encC_len LE1.out s)
  have AE1 := hide (BlkE.all s LE1.out)
  have QL := hide (zeros_len 8)
  have NQ := hide (Nat.le_refl (w.heap.size + 1 + 1 + 1))
  have LS := L2
  replace F := hide (fun w' q => F.out _ w' LE1.out q)
  unfold encV at F
  go_upto_region 8 with fail
  refine wp_region_held_drew (S := fun u => BlkE u w.heap.size (e) s ∧ Blk u (w.heap.size + 1 + 1 + 1) 27 (zeros 8)) (by kernel_rfl) ⟨LS.out.1.keep (gw_start _), LS.out.2.2.2.1.keep (gw_start _)⟩ (fun hHeld => ?_)
  refine wpAnyH_take (i := 0) (v := .agg (encC (e) s).toArray) rfl (by kernel_rfl) (by kernel_rfl) (by kernel_rfl) (fun _ _ _ h => h) (Or.inl ⟨by rfl, ?ylc0⟩) hHeld ?rlc0
  case ylc0 => (intro w' hSw; exact yields_load_v rfl rfl hSw.1 _ Tryz.underlying32 rfl size226 (by rw [CE1.out]; omega) _ AE1.out)
  (try simp only [Act.put, sL])
  refine wpAnyH_take (i := 1) (v := .agg (arrI (zeros 8))) rfl (by kernel_rfl) (by kernel_rfl) (by kernel_rfl) (fun _ _ _ h => h) (Or.inl ⟨by rfl, ?ylc1⟩) hHeld ?rlc1
  case ylc1 => (intro w' hSw; exact yields_load_arr rfl rfl hSw.2 _ Tryz.underlying27 rfl (by rw [QL.out]; exact size8))
  (try simp only [Act.put, sL])
  refine wpAnyH_take (i := 2) (v := ?vlc2) rfl (by kernel_rfl) (by kernel_rfl) (by kernel_rfl) (fun _ _ _ h => h) (Or.inl ⟨by rfl, ?ylc2⟩) hHeld ?rlc2
  case ylc2 => (intro w' hSw; go_simp; (try with_reducible rfl))
  (try simp only [Act.put, sL])
  refine wpAnyH_ready (rs := [3]) (by kernel_rfl) (by simp) (AllReadyH.cons rfl (fun K hK => ?_) AllReadyH.nil)
  (try simp only [Act.put, sL])
  have LD := hide (LS.out.keep (gw_start _))
  have PU := LD.out.2.1.putAll (m := (e)) (t := s) (zeros_len 225) LE1.out
  have R1 := hide (LD.out.2.2.1.keepBut PU.2 (by omega))
  have P1 := hide PU.1
  have G1 := hide (grown_own LD.out.2.2.2.2 PU.2 (by omega))
  have HS1 := And.intro (hHeld.1.keepBut PU.2 (by omega)) (hHeld.2.keepBut PU.2 (by have := NQ.out; omega))
  clear PU
  refine step_store_v rfl 32 _ _ rfl (w.heap.size + 1) 0 32 (encC (zeros 225) false) (encC (e) s) rfl rfl LD.out.2.1 (by rw [ZC.out, CE1.out]; omega) (by rw [CE1.out]; exact size226) (encC_one _ _) ?_
  refine hK.out _ _ HS1 (fun hHeld => ?_)
  clear hK
  (try simp only [Act.put, sL])
  clear LD HS1
  generalize putV _ (w.heap.size + 1) 0 (encC (e) s) = wa at *
  refine wpAnyH_ready (rs := [4]) (by kernel_rfl) (by simp) (AllReadyH.cons rfl (fun K hK => ?_) AllReadyH.nil)
  (try simp only [Act.put, sL])
  have PU := put_arr (rs' := (zeros 8)) R1.out (QL.out.trans (zeros_len 8).symm)
  have R2 := hide PU.1
  have P2 := hide (P1.out.keepBut PU.2 (by omega))
  have G2 := hide (grown_own G1.out PU.2 (by omega))
  have HS2 := And.intro (hHeld.1.keepBut PU.2 (by omega)) (hHeld.2.keepBut PU.2 (by have := NQ.out; omega))
  clear PU
  refine step_store_arr rfl 27 _ _ rfl (w.heap.size + 1 + 1) (zeros 8) (zeros 8) rfl rfl R1.out (QL.out.trans (zeros_len 8).symm) (by rw [zeros_len]; exact size8) ?_
  refine hK.out _ _ HS2 (fun hHeld => ?_)
  clear hK
  (try simp only [Act.put, sL])
  clear HS2 R1 P1 G1
  generalize putArr wa (w.heap.size + 1 + 1) (zeros 8) = wb at *
  refine wpAnyH_take (i := 5) (v := ?vlc5) rfl (by kernel_rfl) (by kernel_rfl) (by kernel_rfl) (fun _ _ _ h => h) (Or.inl ⟨by rfl, ?ylc5⟩) hHeld ?rlc5
  case ylc5 => (intro w' hSw; go_simp; (try with_reducible rfl))
  (try simp only [Act.put, sL])
  refine wpAnyH_done (by kernel_rfl) ?_ _
  clear hHeld
  have FF := hide (F.out _ G2.out)
  clear F
  have hlv := loadVar_v P2.out _ Tryz.underlying32 rfl (by rw [CE1.out]; exact size226)
  have hlw := loadVar_arr R2.out _ Tryz.underlying27 rfl (by rw [QL.out]; exact size8)
  go_wp2_with fail
  refine bodyPost_ret (v := .tuple #[.agg (encC (e) s).toArray, .agg (arrI (zeros 8)), .int .i64 2]) ?_ rfl FF.out
  simp [results, Tryz.results22, asAddr, Act.put, hlv, hlw]
set_option maxRecDepth 100000 in
theorem codListened_corr (w : World) (e : List Int) (s : Bool) (he : e.length = 225) (v : Value) (l : List Int) (hi : Ints w v l) (hsz : l.length * 8 ≤ 140737488351232) (hl : l.length = 80) (hg : goodM (enMm e) = true) (hh : enHE e l = true) (hc : rightB (enI e l) = false) : Calls Tryz.prog 22 #[encV e s, v] w (LisE w (encE e l)) := by
  have L0 := hide (LisS.new w e s)
  have HE := hide he
  have CE := hide (encC_len he s)
  have AE := hide (BlkE.all s he)
  have ZC := hide (encC_len (zeros_len 225) false)
  have hz := zero_enc
  have hno : ¬ enOk e l := fun k => by have := k.2.2.2; rw [hc] at this; cases this
  have F := hide (show ∀ m w', m.length = 225 → w.grownBy w' none → LisE w (encE e l) (.returned (.tuple #[encV m s, .agg (arrI (zeros 8)), .int .i64 2])) w' from fun m w' hm q => ⟨m, s, hm, by rw [enc_err hno hl], q⟩)
  have CLN := hide (show (enC e l).length = 80 from (enC_len hh).trans hl)
  have ILN := hide (enI_len hl hh)
  obtain ⟨al, cl, rfl⟩ := shp_pos hi (by omega)
  have HI := hide (fun wr (g : w.grownBy wr none) => Ints_keep hi g)
  rw [hl] at HI ⊢
  have HL := hide hl
  have GD := hide (fun wr => conGood_any (enMm e) s (prt_len _ _ _) wr)
  rw [hg] at GD
  have PM := hide (encC_mem s he)
  rw [show prt e 124 101 = enMm e from rfl] at PM
  have PH := hide (show ((encC e s).drop 0).take 4 = intsV [nth e 0, nth e 1, nth e 2, nth e 3] from by
    rw [encC_part s 0 4 (by omega)]; rfl)
  have HG := hide (fun wr (h : Ints wr (.slice (some al) 80 cl) l) => high_any (nth e 0) (nth e 1) (nth e 2) (nth e 3) (.slice (some al) 80 cl) l wr h (by omega))
  rw [show hiL (nth e 0) (nth e 1) (nth e 2) (nth e 3) l = enC e l from rfl] at HG
  unfold hiT at HG
  generalize hh0 : hiM (nth e 0) (nth e 1) (nth e 2) (nth e 3) l 0 = h0 at HG
  generalize hh1 : hiM (nth e 0) (nth e 1) (nth e 2) (nth e 3) l 1 = h1 at HG
  generalize hh2 : hiM (nth e 0) (nth e 1) (nth e 2) (nth e 3) l 2 = h2 at HG
  generalize hh3 : hiM (nth e 0) (nth e 1) (nth e 2) (nth e 3) l 3 = h3 at HG
  have hE : hiE (nth e 0) (nth e 1) (nth e 2) (nth e 3) l = 0 := by unfold hiE; unfold enHE at hh; rw [if_pos hh]
  rw [hE] at HG
  have CO := hide (fun v wr (h : Ints wr v (enI e l)) => fcorr_range v (enI e l) wr h ILN.out hc)
  obtain ⟨e1, he1⟩ : ∃ e1, ovr e 0 [h0, h1, h2, h3] = e1 := ⟨_, rfl⟩
  have le1 : e1.length = 225 := by rw [← he1, ovr_len]; exact he
  obtain ⟨e2, he2⟩ : ∃ e2, ovr e1 4 (prt e 84 40) = e2 := ⟨_, rfl⟩
  have le2 : e2.length = 225 := by rw [← he2, ovr_len]; exact le1
  obtain ⟨e3, he3⟩ : ∃ e3, ovr e2 44 (enC e l) = e3 := ⟨_, rfl⟩
  have le3 : e3.length = 225 := by rw [← he3, ovr_len]; exact le2
  have EE1 := hide he1
  have CE1' := hide (encC_len le1 s)
  have S84 := hide (show ∀ j, j < 40 → (encC e1 s)[84 + j]? = some (.int .i64 (nth (prt e 84 40) j)) from fun j hj => by
    unfold encC
    rw [mixC_get _ _ _ (by omega), prt_nth _ _ _ _ hj, ← he1, ovr_nth _ _ _ _ (by omega), if_neg (fun k => by have := k.2; simp at this; omega)])
  have E2 := hide (show splV (encC e1 s) 4 (intsV (prt e 84 40)) = encC e2 s from by unfold encC; rw [mixC_spl _ _ _ _ (by rw [prt_len]; omega), he2])
  have CE2 := hide (encC_len le2 s)
  have E3 := hide (show splV (encC e2 s) 44 (intsV (enC e l)) = encC e3 s from by unfold encC; rw [mixC_spl _ _ _ _ (by rw [CLN.out]; omega), he3])
  have LE3 := hide le3
  have EI := hide (show prt e3 4 120 = enI e l from by
    refine (tab_ext ILN.out (fun i hi => ?_)).symm
    rw [← he3, ovr_nth _ _ _ _ (by omega), CLN.out, ← he2]
    unfold enI
    by_cases h : i < 40
    · rw [if_neg (by omega), ovr_nth _ _ _ _ (by omega), prt_len, if_pos (by omega), nth_app_l _ _ _ (by rw [prt_len]; exact h), Nat.add_sub_cancel_left]
    · rw [if_pos (by omega), nth_app_r _ _ _ (by rw [prt_len]; omega), prt_len, show 4 + i - 44 = i - 40 by omega])
  clear hno hl hg hh hE hc hh0 hh1 hh2 hh3 he1 he2 he3 le1 le2 le3 he
  generalize LisE w (encE e l) = T at *
  unfold memV at GD
  unfold encV at hz ⊢
  go_enter Tryz.func22, Tryz.ntmps22
  go_upto_region 2 with fail
  generalize (((w.alloc (.cells (encC e s).toArray 32)).alloc (.cells (encC (zeros 225) false).toArray 32)).alloc (.cells #[.int .i64 0, .int .i64 0, .int .i64 0, .int .i64 0, .int .i64 0, .int .i64 0, .int .i64 0, .int .i64 0] 27)).alloc (.cells #[.int .i64 0, .int .i64 0, .int .i64 0, .int .i64 0, .int .i64 0, .int .i64 0, .int .i64 0, .int .i64 0] 27) = W0 at *
  clear hz
  go_wp2_with (first | refine wpList_load_v rfl 30 _ rfl w.heap.size 124 102 rfl 32 (encC e s) L0.out.1 _ Tryz.underlying30 rfl size102 (by rw [CE.out]; omega) _ PM.out ?_)
  refine (GD.out W0).mono ?_
  rintro x W1 ⟨rfl, g1⟩
  have L1 := hide (L0.out.keep g1)
  clear L0 g1 GD
  go_wp2_with (first | refine wpList_load_v rfl 25 _ rfl w.heap.size 0 4 rfl 32 (encC e s) L1.out.1 _ Tryz.underlying25 rfl size4h (by rw [CE.out]; omega) _ PH.out ?_)
  refine (HG.out W1 (HI.out W1 L1.out.2.2.2.2)).mono ?_
  rintro x W2 ⟨vc, rfl, oc, g2⟩
  have L3 := hide ((L1.out.keep g2).keep (grown_alloc W2 (.cells #[.int .i64 h0, .int .i64 h1, .int .i64 h2, .int .i64 h3] 25) none))
  have BH := hide (show BlkV (W2.alloc (.cells #[.int .i64 h0, .int .i64 h1, .int .i64 h2, .int .i64 h3] 25)) W2.heap.size 25 (intsV [h0, h1, h2, h3]) from BlkV.new W2 25 (intsV [h0, h1, h2, h3]))
  have N2 := hide (show w.heap.size + 1 + 1 + 1 + 1 ≤ W2.heap.size from (L1.out.keep g2).2.2.2.1.lt)
  have OC3 := hide ((oc.base (b' := w.heap.size + 1 + 1 + 1 + 1) (show w.heap.size + 1 + 1 + 1 + 1 ≤ W1.heap.size from L1.out.2.2.2.1.lt)).keep (grown_alloc W2 (.cells #[.int .i64 h0, .int .i64 h1, .int .i64 h2, .int .i64 h3] 25) none))
  obtain ⟨ac, cc, rfl, _, _, _⟩ := oc.form (by rw [CLN.out]; omega)
  rw [CLN.out] at OC3 ⊢
  clear L1 g2 HG oc
  go_upto_region 7 with fail
  generalize W2.alloc (.cells #[.int .i64 h0, .int .i64 h1, .int .i64 h2, .int .i64 h3] 25) = W3 at *
  generalize W2.heap.size = bh at *
  go_upto_region 9 with fail
  have I_ := hide (intsV_one [h0, h1, h2, h3])
  have PU := L3.out.putE 0 [h0, h1, h2, h3] (by rw [HE.out]; show 0 + 4 ≤ 225; omega)
  have L4 := hide PU.1
  have OC := hide (OC3.out.keepLt PU.2 (by omega))
  rw [EE1.out] at L4
  clear PU OC3
  go_upto_region 10 with (first | refine wpList_load_v rfl 25 _ rfl bh 0 4 rfl 25 (intsV [h0, h1, h2, h3]) BH.out _ Tryz.underlying25 rfl size4h (by rw [intsV_len]; exact Nat.le_refl _) _ rfl ?_ | refine wpList_store_v rfl 25 _ _ rfl w.heap.size 0 32 (encC e s) (intsV [h0, h1, h2, h3]) rfl rfl L3.out.1 (by rw [CE.out, intsV_len]; show 0 + 4 ≤ 226; omega) (by rw [intsV_len]; exact size4h) I_.out ?_)
  (try simp only [Act.put])
  clear L3 BH I_
  generalize putV W3 w.heap.size 0 (intsV [h0, h1, h2, h3]) = W4 at *
  refine wp_region_held_drew (S := fun u => True) (by kernel_rfl) trivial (fun hHeld => ?_)
  refine wpAnyH_take (i := 0) (v := ?vlx0) rfl (by kernel_rfl) (by kernel_rfl) (by kernel_rfl) (fun _ _ _ h => h) (Or.inl ⟨by rfl, ?ylx0⟩) hHeld ?rlx0
  case ylx0 => (intro w' hSw; go_simp; (try with_reducible rfl))
  (try simp only [Act.put, sL])
  refine wpAnyH_take (i := 1) (v := ?vlx1) rfl (by kernel_rfl) (by kernel_rfl) (by kernel_rfl) (fun _ _ _ h => h) (Or.inl ⟨by rfl, ?ylx1⟩) hHeld ?rlx1
  case ylx1 => (intro w' hSw; go_simp; (try with_reducible rfl))
  (try simp only [Act.put, sL])
  refine wpAnyH_take (i := 2) (v := ?vlx2) rfl (by kernel_rfl) (by kernel_rfl) (by kernel_rfl) (fun _ _ _ h => h) (Or.inl ⟨by rfl, ?ylx2⟩) hHeld ?rlx2
  case ylx2 => (intro w' hSw; go_simp; (try with_reducible rfl))
  (try simp only [Act.put, sL])
  refine wpAnyH_take (i := 3) (v := ?vlx3) rfl (by kernel_rfl) (by kernel_rfl) (by kernel_rfl) (fun _ _ _ h => h) (Or.inl ⟨by rfl, ?ylx3⟩) hHeld ?rlx3
  case ylx3 => (intro w' hSw; go_simp; (try with_reducible rfl))
  (try simp only [Act.put, sL])
  refine wpAnyH_ready (rs := [4]) (by kernel_rfl) (by simp) (AllReadyH.cons rfl (fun K hK => ?_) AllReadyH.nil)
  (try simp only [Act.put, sL])
  have LD := hide (L4.out.keep (gw_start W4))
  refine step_copyV rfl _ _ rfl w.heap.size 4 120 40 120 40 32 (encC e1 s) (prt e 84 40) ⟨w.heap.size, 84, none⟩ LD.out.1 rfl rfl (prt_len _ _ _) (by omega) (fun j hj => by rw [Addr.add_mid]; have cc := BlkV.cell LD.out.1 (84 + j); rw [cc]; have := S84.out j hj; exact this) (by rw [CE1'.out]; omega) ?_
  intro w5 b5 g5
  rw [E2.out] at b5
  have L5 := hide (LD.out.sess b5 g5)
  have O5 := hide ((OC.out.keep (gw_start W4)).keepLt g5 (by omega))
  clear b5 LD
  refine hK.out _ _ trivial (fun hHeld => ?_)
  clear hK
  (try simp only [Act.put, sL])
  clear L4 OC g5
  refine wpAnyH_take (i := 5) (v := ?vlx5) rfl (by kernel_rfl) (by kernel_rfl) (by kernel_rfl) (fun _ _ _ h => h) (Or.inl ⟨by rfl, ?ylx5⟩) hHeld ?rlx5
  case ylx5 => (intro w' hSw; go_simp; (try with_reducible rfl))
  (try simp only [Act.put, sL])
  refine wpAnyH_done (by kernel_rfl) ?_ _
  clear hHeld
  go_upto_region 11 with fail
  have IC5 := hide O5.out.ints
  have HAC := hide (ints_some IC5.out).2.2
  go_wp2_with (refine wpList_copyV rfl _ _ rfl w.heap.size 44 80 80 80 cc 32 (encC e2 s) (enC e l) ⟨ac, 0, none⟩ L5.out.1 rfl rfl CLN.out (by omega) (fun j hj => HAC.out j (by rw [CLN.out]; exact hj)) (by rw [CE2.out]; omega) ?_)
  intro w6 b6 g6
  rw [E3.out] at b6
  have L6 := hide (L5.out.sess b6 g6)
  clear L5 O5 IC5 HAC b6 g6
  go_upto_region 12 with fail
  have IN6 := hide (L6.out.1.input 4 120 120 (by rw [LE3.out]; omega) (by omega))
  rw [EI.out] at IN6
  go_wp2_with fail
  refine (CO.out _ _ IN6.out).mono ?_
  rintro x W7 ⟨rfl, g7⟩
  rw [show zeroAgg = .agg (arrI (zeros 9)) from rfl]
  obtain ⟨b1, b2, b3⟩ := fresh_arr W7 89 9 (zeros 9) (zeros_len 9)
  have B1 := hide b1
  have L8 := hide ((L6.out.keep g7).keep b3)
  rw [z9'] at B1 L8
  clear g7 CO b1 b2 b3 L6 IN6
  have SZ9 := hide (show (Tryz.prog.info? 89).map (·.size) = some (zeros 9).length by rw [zeros_len]; exact size9')
  generalize zeros 9 = Z9 at *
  go_upto_region 13 with (first | refine wpList_store_arr rfl 89 _ _ rfl _ Z9 Z9 rfl rfl B1.out rfl SZ9.out ?_)
  (try simp only [Act.put])
  clear B1
  generalize putArr _ W7.heap.size Z9 = W8 at *
  have LE1 := hide (show (e3).length = 225 from LE3.out)
  have CE1 := hide (encC_len LE1.out s)
  have AE1 := hide (BlkE.all s LE1.out)
  have QL := hide (zeros_len 8)
  have NQ := hide (Nat.le_refl (w.heap.size + 1 + 1 + 1))
  have LS := L8
  replace F := hide (fun w' q => F.out _ w' LE1.out q)
  unfold encV at F
  go_upto_region 14 with fail
  refine wp_region_held_drew (S := fun u => BlkE u w.heap.size (e3) s ∧ Blk u (w.heap.size + 1 + 1 + 1) 27 (zeros 8)) (by kernel_rfl) ⟨LS.out.1.keep (gw_start _), LS.out.2.2.2.1.keep (gw_start _)⟩ (fun hHeld => ?_)
  refine wpAnyH_take (i := 0) (v := .agg (encC (e3) s).toArray) rfl (by kernel_rfl) (by kernel_rfl) (by kernel_rfl) (fun _ _ _ h => h) (Or.inl ⟨by rfl, ?yld0⟩) hHeld ?rld0
  case yld0 => (intro w' hSw; exact yields_load_v rfl rfl hSw.1 _ Tryz.underlying32 rfl size226 (by rw [CE1.out]; omega) _ AE1.out)
  (try simp only [Act.put, sL])
  refine wpAnyH_take (i := 1) (v := .agg (arrI (zeros 8))) rfl (by kernel_rfl) (by kernel_rfl) (by kernel_rfl) (fun _ _ _ h => h) (Or.inl ⟨by rfl, ?yld1⟩) hHeld ?rld1
  case yld1 => (intro w' hSw; exact yields_load_arr rfl rfl hSw.2 _ Tryz.underlying27 rfl (by rw [QL.out]; exact size8))
  (try simp only [Act.put, sL])
  refine wpAnyH_take (i := 2) (v := ?vld2) rfl (by kernel_rfl) (by kernel_rfl) (by kernel_rfl) (fun _ _ _ h => h) (Or.inl ⟨by rfl, ?yld2⟩) hHeld ?rld2
  case yld2 => (intro w' hSw; go_simp; (try with_reducible rfl))
  (try simp only [Act.put, sL])
  refine wpAnyH_ready (rs := [3]) (by kernel_rfl) (by simp) (AllReadyH.cons rfl (fun K hK => ?_) AllReadyH.nil)
  (try simp only [Act.put, sL])
  have LD := hide (LS.out.keep (gw_start _))
  have PU := LD.out.2.1.putAll (m := (e3)) (t := s) (zeros_len 225) LE1.out
  have R1 := hide (LD.out.2.2.1.keepBut PU.2 (by omega))
  have P1 := hide PU.1
  have G1 := hide (grown_own LD.out.2.2.2.2 PU.2 (by omega))
  have HS1 := And.intro (hHeld.1.keepBut PU.2 (by omega)) (hHeld.2.keepBut PU.2 (by have := NQ.out; omega))
  clear PU
  refine step_store_v rfl 32 _ _ rfl (w.heap.size + 1) 0 32 (encC (zeros 225) false) (encC (e3) s) rfl rfl LD.out.2.1 (by rw [ZC.out, CE1.out]; omega) (by rw [CE1.out]; exact size226) (encC_one _ _) ?_
  refine hK.out _ _ HS1 (fun hHeld => ?_)
  clear hK
  (try simp only [Act.put, sL])
  clear LD HS1
  generalize putV _ (w.heap.size + 1) 0 (encC (e3) s) = wa at *
  refine wpAnyH_ready (rs := [4]) (by kernel_rfl) (by simp) (AllReadyH.cons rfl (fun K hK => ?_) AllReadyH.nil)
  (try simp only [Act.put, sL])
  have PU := put_arr (rs' := (zeros 8)) R1.out (QL.out.trans (zeros_len 8).symm)
  have R2 := hide PU.1
  have P2 := hide (P1.out.keepBut PU.2 (by omega))
  have G2 := hide (grown_own G1.out PU.2 (by omega))
  have HS2 := And.intro (hHeld.1.keepBut PU.2 (by omega)) (hHeld.2.keepBut PU.2 (by have := NQ.out; omega))
  clear PU
  refine step_store_arr rfl 27 _ _ rfl (w.heap.size + 1 + 1) (zeros 8) (zeros 8) rfl rfl R1.out (QL.out.trans (zeros_len 8).symm) (by rw [zeros_len]; exact size8) ?_
  refine hK.out _ _ HS2 (fun hHeld => ?_)
  clear hK
  (try simp only [Act.put, sL])
  clear HS2 R1 P1 G1
  generalize putArr wa (w.heap.size + 1 + 1) (zeros 8) = wb at *
  refine wpAnyH_take (i := 5) (v := ?vld5) rfl (by kernel_rfl) (by kernel_rfl) (by kernel_rfl) (fun _ _ _ h => h) (Or.inl ⟨by rfl, ?yld5⟩) hHeld ?rld5
  case yld5 => (intro w' hSw; go_simp; (try with_reducible rfl))
  (try simp only [Act.put, sL])
  refine wpAnyH_done (by kernel_rfl) ?_ _
  clear hHeld
  have FF := hide (F.out _ G2.out)
  clear F
  have hlv := loadVar_v P2.out _ Tryz.underlying32 rfl (by rw [CE1.out]; exact size226)
  have hlw := loadVar_arr R2.out _ Tryz.underlying27 rfl (by rw [QL.out]; exact size8)
  go_wp2_with fail
  refine bodyPost_ret (v := .tuple #[.agg (encC (e3) s).toArray, .agg (arrI (zeros 8)), .int .i64 2]) ?_ rfl FF.out
  simp [results, Tryz.results22, asAddr, Act.put, hlv, hlw]
set_option maxRecDepth 100000 in
theorem codListened_yes (w : World) (e : List Int) (s : Bool) (he : e.length = 225) (v : Value) (l : List Int) (hi : Ints w v l) (hsz : l.length * 8 ≤ 140737488351232) (hW : Wide w) (hk : enOk e l) : Calls Tryz.prog 22 #[encV e s, v] w fun x w' => x = .returned (.tuple #[encV (enHp e l ++ (enI e l ++ enMm e)) s, .agg (arrI (enQ e l)), .int .i64 0]) ∧ w.grownBy w' none := by
  have L0 := hide (LisS.new w e s)
  have HE := hide he
  have CE := hide (encC_len he s)
  have AE := hide (BlkE.all s he)
  have ZC := hide (encC_len (zeros_len 225) false)
  have hz := zero_enc
  obtain ⟨hl, hg, hh, hc⟩ := hk
  have CLN := hide (show (enC e l).length = 80 from (enC_len hh).trans hl)
  have ILN := hide (enI_len hl hh)
  obtain ⟨al, cl, rfl⟩ := shp_pos hi (by omega)
  have HI := hide (fun wr (g : w.grownBy wr none) => Ints_keep hi g)
  rw [hl] at HI ⊢
  have HL := hide hl
  have GD := hide (fun wr => conGood_any (enMm e) s (prt_len _ _ _) wr)
  rw [hg] at GD
  have PM := hide (encC_mem s he)
  rw [show prt e 124 101 = enMm e from rfl] at PM
  have PH := hide (show ((encC e s).drop 0).take 4 = intsV [nth e 0, nth e 1, nth e 2, nth e 3] from by
    rw [encC_part s 0 4 (by omega)]; rfl)
  have HG := hide (fun wr (h : Ints wr (.slice (some al) 80 cl) l) => high_any (nth e 0) (nth e 1) (nth e 2) (nth e 3) (.slice (some al) 80 cl) l wr h (by omega))
  rw [show hiL (nth e 0) (nth e 1) (nth e 2) (nth e 3) l = enC e l from rfl] at HG
  unfold hiT at HG
  generalize hh0 : hiM (nth e 0) (nth e 1) (nth e 2) (nth e 3) l 0 = h0 at HG
  generalize hh1 : hiM (nth e 0) (nth e 1) (nth e 2) (nth e 3) l 1 = h1 at HG
  generalize hh2 : hiM (nth e 0) (nth e 1) (nth e 2) (nth e 3) l 2 = h2 at HG
  generalize hh3 : hiM (nth e 0) (nth e 1) (nth e 2) (nth e 3) l 3 = h3 at HG
  have hE : hiE (nth e 0) (nth e 1) (nth e 2) (nth e 3) l = 0 := by unfold hiE; unfold enHE at hh; rw [if_pos hh]
  rw [hE] at HG
  have CO := hide (fun v wr (h : Ints wr v (enI e l)) => fcorr_one v (enI e l) wr h ILN.out hc)
  have RL := hide (corL_len (enI e l))
  have LV := hide (fun wr => levinson_any (corL (enI e l)) (corL_len _) wr)
  have KL := hide (levK_len (corL (enI e l)))
  have QA := hide (fun wr (g : w.grownBy wr none) => All_any (levK (corL (enI e l))) (levK_len _) wr (Wide_keep hW g))
  rw [(eachOne _ (lev_q (corL (enI e l)))).1, (eachOne _ (lev_q (corL (enI e l)))).2] at QA
  rw [show quL (levK (corL (enI e l))) = enQ e l from rfl] at QA
  have QL := hide (show (enQ e l).length = 8 from quL_len _)
  obtain ⟨e1, he1⟩ : ∃ e1, ovr e 0 [h0, h1, h2, h3] = e1 := ⟨_, rfl⟩
  have le1 : e1.length = 225 := by rw [← he1, ovr_len]; exact he
  obtain ⟨e2, he2⟩ : ∃ e2, ovr e1 4 (prt e 84 40) = e2 := ⟨_, rfl⟩
  have le2 : e2.length = 225 := by rw [← he2, ovr_len]; exact le1
  obtain ⟨e3, he3⟩ : ∃ e3, ovr e2 44 (enC e l) = e3 := ⟨_, rfl⟩
  have le3 : e3.length = 225 := by rw [← he3, ovr_len]; exact le2
  have EE1 := hide he1
  have CE1' := hide (encC_len le1 s)
  have S84 := hide (show ∀ j, j < 40 → (encC e1 s)[84 + j]? = some (.int .i64 (nth (prt e 84 40) j)) from fun j hj => by
    unfold encC
    rw [mixC_get _ _ _ (by omega), prt_nth _ _ _ _ hj, ← he1, ovr_nth _ _ _ _ (by omega), if_neg (fun k => by have := k.2; simp at this; omega)])
  have E2 := hide (show splV (encC e1 s) 4 (intsV (prt e 84 40)) = encC e2 s from by unfold encC; rw [mixC_spl _ _ _ _ (by rw [prt_len]; omega), he2])
  have CE2 := hide (encC_len le2 s)
  have E3 := hide (show splV (encC e2 s) 44 (intsV (enC e l)) = encC e3 s from by unfold encC; rw [mixC_spl _ _ _ _ (by rw [CLN.out]; omega), he3])
  have LE3 := hide le3
  have EI := hide (show prt e3 4 120 = enI e l from by
    refine (tab_ext ILN.out (fun i hi => ?_)).symm
    rw [← he3, ovr_nth _ _ _ _ (by omega), CLN.out, ← he2]
    unfold enI
    by_cases h : i < 40
    · rw [if_neg (by omega), ovr_nth _ _ _ _ (by omega), prt_len, if_pos (by omega), nth_app_l _ _ _ (by rw [prt_len]; exact h), Nat.add_sub_cancel_left]
    · rw [if_pos (by omega), nth_app_r _ _ _ (by rw [prt_len]; omega), prt_len, show 4 + i - 44 = i - 40 by omega])
  have EF : e3 = enHp e l ++ (enI e l ++ enMm e) := by
    have mm : (enMm e).length = 101 := prt_len _ _ _
    have hp : enHp e l = [h0, h1, h2, h3] := by unfold enHp; rw [hh0, hh1, hh2, hh3]
    rw [hp]
    refine list_nth (by rw [le3, List.length_append, List.length_append, ILN.out, mm]; rfl) (fun i hi => ?_)
    rw [le3] at hi
    by_cases h4 : i < 4
    · rw [nth_app_l _ _ _ h4, ← he3, ovr_nth _ _ _ _ (by omega), if_neg (by omega), ← he2, ovr_nth _ _ _ _ (by omega), if_neg (by omega), ← he1, ovr_nth _ _ _ _ (by omega), if_pos (by simp; omega), Nat.sub_zero]
    · rw [nth_app_r _ _ _ (by simp; omega), show ([h0, h1, h2, h3] : List Int).length = 4 from rfl]
      by_cases h5 : i < 124
      · rw [nth_app_l _ _ _ (by rw [ILN.out]; omega), ← EI.out, prt_nth _ _ _ _ (by omega), show 4 + (i - 4) = i by omega]
      · rw [nth_app_r _ _ _ (by rw [ILN.out]; omega), ILN.out]
        unfold enMm
        rw [prt_nth _ _ _ _ (by omega), show 124 + (i - 4 - 120) = i by omega, ← he3, ovr_nth _ _ _ _ (by omega), CLN.out, if_neg (by omega), ← he2, ovr_nth _ _ _ _ (by omega), prt_len, if_neg (by omega), ← he1, ovr_nth _ _ _ _ (by omega), if_neg (fun k => by have := k.2; simp at this; omega)]
  have F := hide (show ∀ w', w.grownBy w' none → LisY w e s l (.returned (.tuple #[encV e3 s, .agg (arrI (enQ e l)), .int .i64 0])) w' from fun w' q => ⟨by rw [EF], q⟩)
  show Calls Tryz.prog 22 _ w (LisY w e s l)
  clear hl hg hh hE hc hh0 hh1 hh2 hh3 he1 he2 he3 le1 le2 le3 he EF hW
  generalize LisY w e s l = T at *
  generalize levE (corL (enI e l)) = le at *
  generalize levG (corL (enI e l)) = lg at *
  generalize levK (corL (enI e l)) = KK at *
  generalize hcx : ((corB (enI e l) : Int) - 31) = cx at CO
  clear hcx
  generalize corL (enI e l) = R at *
  generalize enQ e l = QQ at *
  unfold memV at GD
  unfold encV at hz F ⊢
  go_enter Tryz.func22, Tryz.ntmps22
  go_upto_region 2 with fail
  generalize (((w.alloc (.cells (encC e s).toArray 32)).alloc (.cells (encC (zeros 225) false).toArray 32)).alloc (.cells #[.int .i64 0, .int .i64 0, .int .i64 0, .int .i64 0, .int .i64 0, .int .i64 0, .int .i64 0, .int .i64 0] 27)).alloc (.cells #[.int .i64 0, .int .i64 0, .int .i64 0, .int .i64 0, .int .i64 0, .int .i64 0, .int .i64 0, .int .i64 0] 27) = W0 at *
  clear hz
  go_wp2_with (first | refine wpList_load_v rfl 30 _ rfl w.heap.size 124 102 rfl 32 (encC e s) L0.out.1 _ Tryz.underlying30 rfl size102 (by rw [CE.out]; omega) _ PM.out ?_)
  refine (GD.out W0).mono ?_
  rintro x W1 ⟨rfl, g1⟩
  have L1 := hide (L0.out.keep g1)
  clear L0 g1 GD
  go_wp2_with (first | refine wpList_load_v rfl 25 _ rfl w.heap.size 0 4 rfl 32 (encC e s) L1.out.1 _ Tryz.underlying25 rfl size4h (by rw [CE.out]; omega) _ PH.out ?_)
  refine (HG.out W1 (HI.out W1 L1.out.2.2.2.2)).mono ?_
  rintro x W2 ⟨vc, rfl, oc, g2⟩
  have L3 := hide ((L1.out.keep g2).keep (grown_alloc W2 (.cells #[.int .i64 h0, .int .i64 h1, .int .i64 h2, .int .i64 h3] 25) none))
  have BH := hide (show BlkV (W2.alloc (.cells #[.int .i64 h0, .int .i64 h1, .int .i64 h2, .int .i64 h3] 25)) W2.heap.size 25 (intsV [h0, h1, h2, h3]) from BlkV.new W2 25 (intsV [h0, h1, h2, h3]))
  have N2 := hide (show w.heap.size + 1 + 1 + 1 + 1 ≤ W2.heap.size from (L1.out.keep g2).2.2.2.1.lt)
  have OC3 := hide ((oc.base (b' := w.heap.size + 1 + 1 + 1 + 1) (show w.heap.size + 1 + 1 + 1 + 1 ≤ W1.heap.size from L1.out.2.2.2.1.lt)).keep (grown_alloc W2 (.cells #[.int .i64 h0, .int .i64 h1, .int .i64 h2, .int .i64 h3] 25) none))
  obtain ⟨ac, cc, rfl, _, _, _⟩ := oc.form (by rw [CLN.out]; omega)
  rw [CLN.out] at OC3 ⊢
  clear L1 g2 HG oc
  go_upto_region 7 with fail
  generalize W2.alloc (.cells #[.int .i64 h0, .int .i64 h1, .int .i64 h2, .int .i64 h3] 25) = W3 at *
  generalize W2.heap.size = bh at *
  go_upto_region 9 with fail
  have I_ := hide (intsV_one [h0, h1, h2, h3])
  have PU := L3.out.putE 0 [h0, h1, h2, h3] (by rw [HE.out]; show 0 + 4 ≤ 225; omega)
  have L4 := hide PU.1
  have OC := hide (OC3.out.keepLt PU.2 (by omega))
  rw [EE1.out] at L4
  clear PU OC3
  go_upto_region 10 with (first | refine wpList_load_v rfl 25 _ rfl bh 0 4 rfl 25 (intsV [h0, h1, h2, h3]) BH.out _ Tryz.underlying25 rfl size4h (by rw [intsV_len]; exact Nat.le_refl _) _ rfl ?_ | refine wpList_store_v rfl 25 _ _ rfl w.heap.size 0 32 (encC e s) (intsV [h0, h1, h2, h3]) rfl rfl L3.out.1 (by rw [CE.out, intsV_len]; show 0 + 4 ≤ 226; omega) (by rw [intsV_len]; exact size4h) I_.out ?_)
  (try simp only [Act.put])
  clear L3 BH I_
  generalize putV W3 w.heap.size 0 (intsV [h0, h1, h2, h3]) = W4 at *
  refine wp_region_held_drew (S := fun u => True) (by kernel_rfl) trivial (fun hHeld => ?_)
  refine wpAnyH_take (i := 0) (v := ?vlx0) rfl (by kernel_rfl) (by kernel_rfl) (by kernel_rfl) (fun _ _ _ h => h) (Or.inl ⟨by rfl, ?ylx0⟩) hHeld ?rlx0
  case ylx0 => (intro w' hSw; go_simp; (try with_reducible rfl))
  (try simp only [Act.put, sL])
  refine wpAnyH_take (i := 1) (v := ?vlx1) rfl (by kernel_rfl) (by kernel_rfl) (by kernel_rfl) (fun _ _ _ h => h) (Or.inl ⟨by rfl, ?ylx1⟩) hHeld ?rlx1
  case ylx1 => (intro w' hSw; go_simp; (try with_reducible rfl))
  (try simp only [Act.put, sL])
  refine wpAnyH_take (i := 2) (v := ?vlx2) rfl (by kernel_rfl) (by kernel_rfl) (by kernel_rfl) (fun _ _ _ h => h) (Or.inl ⟨by rfl, ?ylx2⟩) hHeld ?rlx2
  case ylx2 => (intro w' hSw; go_simp; (try with_reducible rfl))
  (try simp only [Act.put, sL])
  refine wpAnyH_take (i := 3) (v := ?vlx3) rfl (by kernel_rfl) (by kernel_rfl) (by kernel_rfl) (fun _ _ _ h => h) (Or.inl ⟨by rfl, ?ylx3⟩) hHeld ?rlx3
  case ylx3 => (intro w' hSw; go_simp; (try with_reducible rfl))
  (try simp only [Act.put, sL])
  refine wpAnyH_ready (rs := [4]) (by kernel_rfl) (by simp) (AllReadyH.cons rfl (fun K hK => ?_) AllReadyH.nil)
  (try simp only [Act.put, sL])
  have LD := hide (L4.out.keep (gw_start W4))
  refine step_copyV rfl _ _ rfl w.heap.size 4 120 40 120 40 32 (encC e1 s) (prt e 84 40) ⟨w.heap.size, 84, none⟩ LD.out.1 rfl rfl (prt_len _ _ _) (by omega) (fun j hj => by rw [Addr.add_mid]; have cc := BlkV.cell LD.out.1 (84 + j); rw [cc]; have := S84.out j hj; exact this) (by rw [CE1'.out]; omega) ?_
  intro w5 b5 g5
  rw [E2.out] at b5
  have L5 := hide (LD.out.sess b5 g5)
  have O5 := hide ((OC.out.keep (gw_start W4)).keepLt g5 (by omega))
  clear b5 LD
  refine hK.out _ _ trivial (fun hHeld => ?_)
  clear hK
  (try simp only [Act.put, sL])
  clear L4 OC g5
  refine wpAnyH_take (i := 5) (v := ?vlx5) rfl (by kernel_rfl) (by kernel_rfl) (by kernel_rfl) (fun _ _ _ h => h) (Or.inl ⟨by rfl, ?ylx5⟩) hHeld ?rlx5
  case ylx5 => (intro w' hSw; go_simp; (try with_reducible rfl))
  (try simp only [Act.put, sL])
  refine wpAnyH_done (by kernel_rfl) ?_ _
  clear hHeld
  go_upto_region 11 with fail
  have IC5 := hide O5.out.ints
  have HAC := hide (ints_some IC5.out).2.2
  go_wp2_with (refine wpList_copyV rfl _ _ rfl w.heap.size 44 80 80 80 cc 32 (encC e2 s) (enC e l) ⟨ac, 0, none⟩ L5.out.1 rfl rfl CLN.out (by omega) (fun j hj => HAC.out j (by rw [CLN.out]; exact hj)) (by rw [CE2.out]; omega) ?_)
  intro w6 b6 g6
  rw [E3.out] at b6
  have L6 := hide (L5.out.sess b6 g6)
  clear L5 O5 IC5 HAC b6 g6
  go_upto_region 12 with fail
  have IN6 := hide (L6.out.1.input 4 120 120 (by rw [LE3.out]; omega) (by omega))
  rw [EI.out] at IN6
  go_wp2_with fail
  refine (CO.out _ _ IN6.out).mono ?_
  rintro x W7 ⟨rfl, g7⟩
  obtain ⟨b1, b2, b3⟩ := fresh_arr W7 89 9 R RL.out
  have B1 := hide b1
  have B2 := hide b2
  have L8 := hide ((L6.out.keep g7).keep b3)
  rw [z9'] at B1 B2 L8
  clear g7 CO b1 b2 b3 L6 IN6
  go_upto_region 13 with (first | refine wpList_store_arr rfl 89 _ _ rfl _ (zeros 9) R rfl rfl B1.out (by rw [RL.out, zeros_len]) (by rw [zeros_len]; exact size9') ?_)
  (try simp only [Act.put])
  clear B1
  generalize putArr _ W7.heap.size R = W8 at *
  generalize W7.heap.size = b9 at *
  go_upto_region 15 with fail
  go_wp2_with (first | refine wpList_load_arr rfl 89 _ rfl _ rfl _ B2.out _ Tryz.underlying89 rfl (by rw [RL.out]; exact size9') ?_)
  refine (LV.out _).mono ?_
  rintro x W9 ⟨rfl, g9⟩
  obtain ⟨b1, b2, b3⟩ := fresh_arr W9 27 8 KK KL.out
  have B3 := hide b1
  have B4 := hide b2
  have L10 := hide ((L8.out.keep g9).keep b3)
  rw [z8'] at B3 B4 L10
  clear g9 LV b1 b2 b3 L8 B2
  go_upto_region 16 with (first | refine wpList_store_arr rfl 27 _ _ rfl _ (zeros 8) KK rfl rfl B3.out (by rw [KL.out, zeros_len]) (by rw [zeros_len]; exact size8) ?_)
  (try simp only [Act.put])
  clear B3
  generalize putArr _ W9.heap.size KK = W10 at *
  generalize W9.heap.size = b10 at *
  go_wp2_with (first | refine wpList_load_arr rfl 27 _ rfl _ rfl _ B4.out _ Tryz.underlying27 rfl (by rw [KL.out]; exact size8) ?_)
  refine (QA.out _ L10.out.2.2.2.2).mono ?_
  rintro x W11 ⟨rfl, g11⟩
  obtain ⟨b1, b2, b3⟩ := fresh_arr W11 27 8 QQ QL.out
  have B5 := hide b1
  have B6 := hide b2
  have L12 := hide ((L10.out.keep g11).keep b3)
  have NQ := hide (show w.heap.size + 1 + 1 + 1 ≤ W11.heap.size from Nat.le_of_lt (L10.out.keep g11).2.2.2.1.lt)
  rw [z8'] at B5 B6 L12
  clear g11 QA b1 b2 b3 L10 B4
  go_upto_region 17 with (first | refine wpList_store_arr rfl 27 _ _ rfl _ (zeros 8) QQ rfl rfl B5.out (by rw [QL.out, zeros_len]) (by rw [zeros_len]; exact size8) ?_)
  (try simp only [Act.put])
  clear B5
  generalize putArr _ W11.heap.size QQ = W12 at *
  generalize W11.heap.size = bq at *
  have LE1 := LE3
  have CE1 := hide (encC_len LE1.out s)
  have AE1 := hide (BlkE.all s LE1.out)
  have LS := L12
  refine wp_region_held_drew (S := fun u => BlkE u w.heap.size e3 s ∧ Blk u bq 27 QQ) (by kernel_rfl) ⟨LS.out.1.keep (gw_start _), B6.out.keep (gw_start _)⟩ (fun hHeld => ?_)
  refine wpAnyH_take (i := 0) (v := .agg (encC e3 s).toArray) rfl (by kernel_rfl) (by kernel_rfl) (by kernel_rfl) (fun _ _ _ h => h) (Or.inl ⟨by rfl, ?yly0⟩) hHeld ?rly0
  case yly0 => (intro w' hSw; exact yields_load_v rfl rfl hSw.1 _ Tryz.underlying32 rfl size226 (by rw [CE1.out]; omega) _ AE1.out)
  (try simp only [Act.put, sL])
  refine wpAnyH_take (i := 1) (v := .agg (arrI QQ)) rfl (by kernel_rfl) (by kernel_rfl) (by kernel_rfl) (fun _ _ _ h => h) (Or.inl ⟨by rfl, ?yly1⟩) hHeld ?rly1
  case yly1 => (intro w' hSw; exact yields_load_arr rfl rfl hSw.2 _ Tryz.underlying27 rfl (by rw [QL.out]; exact size8))
  (try simp only [Act.put, sL])
  refine wpAnyH_take (i := 2) (v := ?vly2) rfl (by kernel_rfl) (by kernel_rfl) (by kernel_rfl) (fun _ _ _ h => h) (Or.inl ⟨by rfl, ?yly2⟩) hHeld ?rly2
  case yly2 => (intro w' hSw; go_simp; (try with_reducible rfl))
  (try simp only [Act.put, sL])
  refine wpAnyH_ready (rs := [3]) (by kernel_rfl) (by simp) (AllReadyH.cons rfl (fun K hK => ?_) AllReadyH.nil)
  (try simp only [Act.put, sL])
  have LD := hide (LS.out.keep (gw_start _))
  have PU := LD.out.2.1.putAll (m := e3) (t := s) (zeros_len 225) LE1.out
  have R1 := hide (LD.out.2.2.1.keepBut PU.2 (by omega))
  have P1 := hide PU.1
  have G1 := hide (grown_own LD.out.2.2.2.2 PU.2 (by omega))
  have HS1 := And.intro (hHeld.1.keepBut PU.2 (by omega)) (hHeld.2.keepBut PU.2 (by have := NQ.out; omega))
  clear PU
  refine step_store_v rfl 32 _ _ rfl (w.heap.size + 1) 0 32 (encC (zeros 225) false) (encC e3 s) rfl rfl LD.out.2.1 (by rw [ZC.out, CE1.out]; omega) (by rw [CE1.out]; exact size226) (encC_one _ _) ?_
  refine hK.out _ _ HS1 (fun hHeld => ?_)
  clear hK
  (try simp only [Act.put, sL])
  clear LD HS1
  generalize putV _ (w.heap.size + 1) 0 (encC e3 s) = wa at *
  refine wpAnyH_ready (rs := [4]) (by kernel_rfl) (by simp) (AllReadyH.cons rfl (fun K hK => ?_) AllReadyH.nil)
  (try simp only [Act.put, sL])
  have PU := put_arr (rs' := QQ) R1.out (QL.out.trans (zeros_len 8).symm)
  have R2 := hide PU.1
  have P2 := hide (P1.out.keepBut PU.2 (by omega))
  have G2 := hide (grown_own G1.out PU.2 (by omega))
  have HS2 := And.intro (hHeld.1.keepBut PU.2 (by omega)) (hHeld.2.keepBut PU.2 (by have := NQ.out; omega))
  clear PU
  refine step_store_arr rfl 27 _ _ rfl (w.heap.size + 1 + 1) (zeros 8) QQ rfl rfl R1.out (QL.out.trans (zeros_len 8).symm) (by rw [zeros_len]; exact size8) ?_
  refine hK.out _ _ HS2 (fun hHeld => ?_)
  clear hK
  (try simp only [Act.put, sL])
  clear HS2 R1 P1 G1
  generalize putArr wa (w.heap.size + 1 + 1) QQ = wb at *
  refine wpAnyH_take (i := 5) (v := ?vly5) rfl (by kernel_rfl) (by kernel_rfl) (by kernel_rfl) (fun _ _ _ h => h) (Or.inl ⟨by rfl, ?yly5⟩) hHeld ?rly5
  case yly5 => (intro w' hSw; go_simp; (try with_reducible rfl))
  (try simp only [Act.put, sL])
  refine wpAnyH_done (by kernel_rfl) ?_ _
  clear hHeld
  have FF := hide (F.out _ G2.out)
  clear F
  have hlv := loadVar_v P2.out _ Tryz.underlying32 rfl (by rw [CE1.out]; exact size226)
  have hlw := loadVar_arr R2.out _ Tryz.underlying27 rfl (by rw [QL.out]; exact size8)
  go_wp2_with fail
  refine bodyPost_ret (v := .tuple #[.agg (encC e3 s).toArray, .agg (arrI QQ), .int .i64 0]) ?_ rfl FF.out
  simp [results, Tryz.results22, asAddr, Act.put, hlv, hlw]
theorem codListened_err (w : World) (e : List Int) (s : Bool) (he : e.length = 225) (v : Value) (l : List Int) (hi : Ints w v l) (hsz : l.length * 8 ≤ 140737488351232) (hk : ¬ enOk e l) : Calls Tryz.prog 22 #[encV e s, v] w (LisE w (encE e l)) := by
  by_cases hl : l.length = 80
  · rcases hg : goodM (enMm e) with _ | _
    · exact codListened_bad w e s he v l hi hsz hl hg
    · rcases hh : enHE e l with _ | _
      · exact codListened_high w e s he v l hi hsz hl hg hh
      · rcases hc : rightB (enI e l) with _ | _
        · exact codListened_corr w e s he v l hi hsz hl hg hh hc
        · exact absurd ⟨hl, hg, hh, hc⟩ hk
  · exact codListened_size w e s he v l hi hsz hl
end Go.Proofs.YtihphpcgjeokmaaGreatDoor

/- CodI -/
namespace Go.Proofs.YtihphpcgjeokmaaGreatDoor
open Go.RowKit
set_option linter.unusedVariables false
set_option linter.unusedSimpArgs false
set_option maxHeartbeats 4000000
theorem ints40C {w : World} {b : Nat} {l : List Int} (h : Blk w b 3 l) (hl : l.length = 40) : Ints w (.slice (some ⟨b, 0, none⟩) 40 40) l := by
  refine ⟨some ⟨b, 0, none⟩, 40, by rw [hl], by omega, fun _ => ⟨_, rfl, fun i hi => ?_⟩⟩
  rw [Addr.add_mid, Nat.zero_add, h.cell i hi]
theorem tabXC (U X : List Int) (s : Int) (hU : U.length = 8) (hX : X.length = 4) : prt ((ovr U 2 X).set 6 s) 2 4 = X := by
  refine (tab_ext hX (fun i hi => ?_)).symm
  rw [setN _ _ _ (by rw [ovr_len, hU]; omega), if_neg (by omega), ovr_nth _ _ _ _ (by rw [hU]; omega), if_pos (by omega), show 2 + i - 2 = i by omega]
theorem ch_lastC (X : List Int) (hX : X.length = 4) (p g s l : Int) : (((ovr [p, g, 0, 0, 0, 0, 0, 0] 2 X).set 6 s).set 7 l) = [p, g, nth X 0, nth X 1, nth X 2, nth X 3, s, l] := by
  match X, hX with
  | [a, b, c, d], _ => rfl
theorem codCf_any (b : Nat) (vr : Value) (r : List Int) (v : Value) (l : List Int) (w : World) (hc : w.cell? ⟨b, 0, none⟩ = some vr) (hr : Ints w vr r) (hl : Ints w v l) (br : r.length ≤ 1000000000000000000) (bl : l.length ≤ 1000000000000000000) :
    Calls Tryz.prog 71 #[v, .pointer (some ⟨b, 0, none⟩)] w fun e w' => ∃ v', e = .returned v' ∧ Own w.heap.size w' v' (foL r l) ∧ w.grownBy w' none := by
  have F := hide (fold_any vr v r l w hr hl br bl)
  obtain ⟨ad, c, rfl, _, _⟩ := hr
  generalize foL r l = L at *
  generalize foE r l = en at *
  clear hl
  go_enter Tryz.func71, Tryz.ntmps71
  go_wp2_with fail
  refine F.out.mono ?_
  rintro e w1 ⟨v1, rfl, o1, g1⟩
  have I := hide o1
  have G := hide g1
  clear o1 g1 F hc
  go_wp2_with fail
  go_ret
  exact ⟨_, rfl, I.out, G.out⟩
theorem enters_num (args : Array Value) (u : World) : (callFunc 71 args).run Tryz.prog u = .ok (.enter 71 args) u := by kernel_rfl
structure NuB (w W : World) (m a : List Int) (s : Bool) (br : Nat) (vr : Value) : Prop where
  mem : BlkM W w.heap.size m s
  prd : BlkV W (w.heap.size + 1) 89 (intsV a)
  res : BlkI W (w.heap.size + 1 + 1) 56 (zeros 8)
  rng : W.cell? ⟨br, 0, none⟩ = some vr
  ring : Ints W vr (chR a)
  grw : w.grownBy W none
theorem NuB.keep {w W W' : World} {m a : List Int} {s : Bool} {br : Nat} {vr : Value} (h : NuB w W m a s br vr) (g : W.grownBy W' none) : NuB w W' m a s br vr := ⟨h.mem.keep g, h.prd.keep g, h.res.keep g, grown_keep g h.rng, Ints_keep h.ring g, grown_none h.grw g⟩
def NuR1 (W0 : World) (L : List Int) (v : Value) (wx : World) : Prop := Own W0.heap.size wx v L ∧ W0.grownBy wx none
def NuS (W : World) (bu : Nat) (u : List Int) (wr : World) : Prop := W.grownBy wr none ∧ BlkI wr bu 56 u
theorem NuS.keep {W : World} {bu : Nat} {u : List Int} {wr wr' : World} (h : NuS W bu u wr) (g : wr.grownBy wr' none) : NuS W bu u wr' := ⟨grown_none h.1 g, h.2.keep g⟩
theorem NuS.setU {W : World} {bu : Nat} {u : List Int} {wr : World} (h : NuS W bu u wr) (hw : W.heap.size ≤ bu) (k : Nat) (z : Int) (hk : k < u.length) : NuS W bu (u.set k z) (wr.setCell ⟨bu, k, none⟩ (.int .i64 z)) :=
  ⟨grown_own h.1 (grown_setCell wr ⟨bu, k, none⟩ _) hw, h.2.set k z hk⟩
theorem NuS.putU {W : World} {bu : Nat} {u : List Int} {wr : World} (h : NuS W bu u wr) (hw : W.heap.size ≤ bu) (o : Nat) (M : List Int) (hl : o + M.length ≤ u.length) : NuS W bu (ovr u o M) (putV wr bu o (intsV M)) := by
  have := h.2.put o M hl
  exact ⟨grown_own h.1 this.2 hw, this.1⟩
set_option maxRecDepth 100000 in
theorem codNumbers_any (w : World) (hT : TabA w 1 gains 8) (hG : Grows w) (m : List Int) (s : Bool) (hm : m.length = 101) (hg : goodM m = true) (a : List Int) (hA : WideP a) (vx : Value) (x : List Int) (hx : Ints w vx x) (xl : x.length = 40) (xr : rightB x = true) :
    Calls Tryz.prog 43 #[memV m s, .agg (arrI a), vx] w (AnsC w (.agg (arrI (chW m a x)))) := by
  have F := hide (show ∀ w', w.grownBy w' none → AnsC w (.agg (arrI (chW m a x))) (.returned (.agg (arrI (chW m a x)))) w' from fun w' q => ⟨rfl, q⟩)
  have B0 := hide (show BlkM (((w.alloc (.cells (memC m s).toArray 30)).alloc (.cells (arrI a) 89)).alloc (.cells #[.int .i64 0, .int .i64 0, .int .i64 0, .int .i64 0, .int .i64 0, .int .i64 0, .int .i64 0, .int .i64 0] 56)) w.heap.size m s ∧ BlkV (((w.alloc (.cells (memC m s).toArray 30)).alloc (.cells (arrI a) 89)).alloc (.cells #[.int .i64 0, .int .i64 0, .int .i64 0, .int .i64 0, .int .i64 0, .int .i64 0, .int .i64 0, .int .i64 0] 56)) (w.heap.size + 1) 89 (intsV a) ∧ BlkI (((w.alloc (.cells (memC m s).toArray 30)).alloc (.cells (arrI a) 89)).alloc (.cells #[.int .i64 0, .int .i64 0, .int .i64 0, .int .i64 0, .int .i64 0, .int .i64 0, .int .i64 0, .int .i64 0] 56)) (w.heap.size + 1 + 1) 56 (zeros 8) ∧ w.grownBy (((w.alloc (.cells (memC m s).toArray 30)).alloc (.cells (arrI a) 89)).alloc (.cells #[.int .i64 0, .int .i64 0, .int .i64 0, .int .i64 0, .int .i64 0, .int .i64 0, .int .i64 0, .int .i64 0] 56)) none from by
    refine ⟨((BlkM.new w m s).keep (grown_alloc _ _ none)).keep (grown_alloc _ _ none), ?_, ?_, grown_none (grown_none (grown_alloc _ _ none) (grown_alloc _ _ none)) (grown_alloc _ _ none)⟩
    · have := (BlkV.new (w.alloc (.cells (memC m s).toArray 30)) 89 (intsV a)).keep (grown_alloc _ (.cells #[.int .i64 0, .int .i64 0, .int .i64 0, .int .i64 0, .int .i64 0, .int .i64 0, .int .i64 0, .int .i64 0] 56) none)
      rw [intsV_arr] at this
      simpa using this
    · have := BlkI.new ((w.alloc (.cells (memC m s).toArray 30)).alloc (.cells (arrI a) 89)) 56 (zeros 8)
      rw [z8'] at this
      simpa using this)
  have HX := hide (fun wr (g : w.grownBy wr none) => Ints_keep hx g)
  have SPK := hide (fun v wr (h : Ints wr v (zeros 40)) (sh : Shp v (zeros 40)) => codSpoken_any a m (zeros 40) s hA.len hm v wr h sh (by rw [zeros_len]; omega))
  rw [show souL a m (zeros 40) = chZ m a from rfl] at SPK
  have LZ := hide (show (souM a m (zeros 40)).length = 101 by rw [souM_len]; exact hm)
  have SH40 := hide (fun b => show Shp (.slice (some ⟨b, 0, none⟩) 40 40) (zeros 40) from .inr ⟨_, _, by rw [zeros_len]⟩)
  have RG := hide (fun wr => ring_any a hA.len 40 wr)
  rw [show rgL a 40 = chR a from rfl] at RG
  have ZK := hide (chZ_ok hg hA)
  have RK := hide (chR_ok hA)
  have TK := hide (chT_ok m a x)
  have UK := hide (chU_ok m a x)
  have LT := hide (fun v u wr (h1 : Ints wr v x) (h2 : Ints wr u (chZ m a)) => codLess_any v u x (chZ m a) wr h1 h2 xl (chZ_ok hg hA).1)
  rw [chT_les hg hA xl xr] at LT
  have CF := hide (fun W br vr (h : NuB w W m a s br vr) v (l : List Int) (hl : Ints W v l) (ll : l.length = 40) => codCf_any br vr (chR a) v l W h.rng h.ring hl (by rw [(chR_ok hA).1]; omega) (by omega))
  have PK := hide (fun W br vr (h : NuB w W m a s br vr) vt (it : Ints W vt (chT m a x)) => pitPick_any (prt m 16 80) (chT m a x) (prt_len _ _ _) 71 #[.pointer (some ⟨br, 0, none⟩)] (chF a) vt W enters_num (fun wx v l g il sl ll rl => (CF.out wx br vr (h.keep g) v l il ll).mono (fun e w' ⟨v', e1, o, g'⟩ => ⟨v', e1, o.ints, by rw [(chF_ok hA ll rl).1]; omega, g'⟩)) it (by rw [(chT_ok m a x).1]; omega))
  rw [ch_pick x hg hA] at PK
  have PB := chP_lag m a x
  have PC := chP_sums m a x
  have NE := hide (fun wr (g : w.grownBy wr none) => pitNear_any (chP m a x).2.1 (chP m a x).2.2 wr (TabA_keep hT g) (by omega) (by omega))
  rw [show neV (chP m a x).2.1 (chP m a x).2.2 = chG m a x from rfl] at NE
  have PA := hide (fun wr => pitPast_any (prt m 16 80) (prt_len _ _ _) ((chP m a x).1 : Int) wr)
  have PAL := hide (show (pasL (prt m 16 80) ((chP m a x).1 : Int)).length = 40 by rw [(chPas m a x).1]; exact pasV_len _ _)
  have PAV := hide (show foL (chR a) (pasL (prt m 16 80) ((chP m a x).1 : Int)) = chV m a x from rfl)
  have VK := hide (chV_ok x hg hA)
  have LO := hide (fun v wr (h : Ints wr v (chV m a x)) (g : w.grownBy wr none) => codLouder_any v (chV m a x) (chG m a x) wr h (chV_ok x hg hA).1 (chV_ok x hg hA).2.1 (TabA_keep hT g))
  have LU := hide (fun v u wr (h1 : Ints wr v (chT m a x)) (h2 : Ints wr u (louL (chV m a x) (gaV (chG m a x)))) => codLess_any v u (chT m a x) (louL (chV m a x) (gaV (chG m a x))) wr h1 h2 (chT_ok m a x).1 (by rw [louL_len]; exact (chV_ok x hg hA).1))
  rw [chU_les x hg hA] at LU
  have TG := hide (fun vt vr wr (h1 : Ints wr vt (chU m a x)) (sh : Shp vt (chU m a x)) (h2 : Ints wr vr (chR a)) => pulTarget_any vt vr (chU m a x) (chR a) wr h1 h2 sh (by rw [(chU_ok m a x).1]; omega) (by rw [(chR_ok hA).1]; omega))
  rw [show tgV (chU m a x) (chR a) = chD m a x from rfl] at TG
  have DK := hide (chD_ok (m := m) x hA)
  have FW := hide (fun vd vr wr (h1 : Ints wr vd (chD m a x)) (h2 : Ints wr vr (chR a)) => pulFew_any vd vr (chD m a x) (chR a) wr h1 h2 (by rw [(chD_ok (m := m) x hA).2.2.1]; omega) (by rw [(chR_ok hA).1]; omega))
  rw [show seX (chD m a x) (chR a) (fewX (chD m a x) (chR a)) = chX m a x from rfl, show seG (chD m a x) (chR a) (fewX (chD m a x) (chR a)) = chS m a x from rfl] at FW
  have XK := hide (chX_ok (m := m) x hA)
  have BU := hide (fun wr => pulBuild_any (chX m a x) (chX_ok (m := m) x hA).1 (chS m a x) 4096 wr)
  rw [show blL (chX m a x) (chS m a x) 4096 = chO m a x from rfl] at BU
  have OK := hide (chO_ok (m := m) x hA)
  have KO := hide (show foL (chR a) (chO m a x) = chK m a x from rfl)
  have KK := hide (chK_ok (m := m) x hA)
  have D1 := hide (fun vt vf wr (h1 : Ints wr vt (chU m a x)) (h2 : Ints wr vf (chK m a x)) => codProduct_any vt vf (chU m a x) (chK m a x) wr h1 h2 (by rw [(chU_ok m a x).1, (chK_ok (m := m) x hA).1]; omega) (by rw [(chU_ok m a x).1]; omega) (chU_ok m a x).2 (chK_ok (m := m) x hA).2.1)
  rw [(chU_ok m a x).1] at D1
  have D2 := hide (fun vf wr (h2 : Ints wr vf (chK m a x)) => codProduct_any vf vf (chK m a x) (chK m a x) wr h2 h2 (Nat.le_refl _) (by rw [(chK_ok (m := m) x hA).1]; omega) (chK_ok (m := m) x hA).2.1 (chK_ok (m := m) x hA).2.1)
  rw [(chK_ok (m := m) x hA).1] at D2
  have DB1 := dot40_bd (chU m a x) (chK m a x) (chU_ok m a x).2 (chK_ok (m := m) x hA).2.1
  have DB2 := dot40_bd (chK m a x) (chK m a x) (chK_ok (m := m) x hA).2.1 (chK_ok (m := m) x hA).2.1
  have GO := hide (fun wr (g : w.grownBy wr none) => gaiOne_any (4096 * dotS (chU m a x) (chK m a x) 40) (dotS (chK m a x) (chK m a x) 40) wr (growsC_keep hG g) (by omega) (by omega))
  rw [show goV (4096 * dotS (chU m a x) (chK m a x) 40) (dotS (chK m a x) (chK m a x) 40) = chL m a x from rfl] at GO
  have FIN := hide (ch_lastC (chX m a x) XK.out.1 (((chP m a x).1 : Int) - 20) (chG m a x) (chS m a x) (chL m a x))
  rw [show [((chP m a x).1 : Int) - 20, chG m a x, nth (chX m a x) 0, nth (chX m a x) 1, nth (chX m a x) 2, nth (chX m a x) 3, chS m a x, chL m a x] = chW m a x from rfl] at FIN
  have GB : 0 ≤ chG m a x ∧ chG m a x ≤ 7 := neV_bd _ _
  obtain ⟨pn, hpn⟩ : ∃ pn : Nat, chG m a x = (pn : Int) := ⟨(chG m a x).toNat, by omega⟩
  have LA := hide hA.len
  have CM := hide (memC_len hm s)
  have AM := hide (BlkM.all s hm)
  have AA := hide (BlkI.all a 9 hA.len)
  have PX := hide (BlkM.part (l := m) s 16 80 (by omega))
  have ZL := hide (memC_len (zeros_len 101) false)
  have hz := zero_mem
  have hmk := make_zeros 40 (by omega)
  rw [show ((40 : Nat) : Int) = 40 from rfl] at hmk
  have hmf : ∀ (fn : Fn) (first cap : Array Value) (w : World), (Instr.makeFunc fn first cap).run Tryz.prog w = .ok (.func fn first cap) w := fun _ _ _ _ => rfl
  rw [hpn] at NE FIN LO LU
  clear hT hG hm hg hA xl xr hpn GB hx
  generalize AnsC w (.agg (arrI (chW m a x))) = T at *
  unfold pickV at PK
  generalize chW m a x = CW at *
  generalize souM a m (zeros 40) = MZ at *
  have CZ := hide (memC_len LZ.out s)
  generalize rgE a 40 = en2 at *
  generalize chP m a x = PP at *
  obtain ⟨lag, pc, pe⟩ := PP
  simp only at PK NE PA PAL PAV PB PC FIN VK
  generalize pasE (lag : Int) = en3 at *
  generalize pasL (prt m 16 80) (lag : Int) = PL at *
  generalize chZ m a = Z at *
  generalize tgE (chU m a x) (chR a) = en4 at *
  generalize seE (chD m a x) (chR a) = en5 at *
  generalize blE (chX m a x) (chS m a x) 4096 = en6 at *
  generalize louL (chV m a x) (gaV (pn : Int)) = LQ at *
  unfold MmL at SPK
  unfold LstE at LT LO LU
  unfold memV at *
  go_enter Tryz.func43, Tryz.ntmps43
  go_upto_region 1 with fail
  generalize ((w.alloc (.cells (memC m s).toArray 30)).alloc (.cells (arrI a) 89)).alloc (.cells #[.int .i64 0, .int .i64 0, .int .i64 0, .int .i64 0, .int .i64 0, .int .i64 0, .int .i64 0, .int .i64 0] 56) = W0 at *
  go_wp2_with (first | refine wpList_load_v rfl 89 _ rfl (w.heap.size + 1) 0 9 rfl 89 (intsV a) B0.out.2.1 _ Tryz.underlying89 rfl size9' (by rw [intsV_len, LA.out]; omega) _ AA.out ?_)
  refine (RG.out _).mono ?_
  rintro e W2 ⟨vr, rfl, o2, g2⟩
  have N2 := hide (show w.heap.size + 1 + 1 + 1 ≤ W2.heap.size from by have := (B0.out.2.2.1.keep g2).lt; omega)
  have BB := hide (show NuB w (W2.alloc (.cells #[vr] 36)) m a s W2.heap.size vr from by
    have g := grown_none g2 (grown_alloc W2 (.cells #[vr] 36) none)
    exact ⟨B0.out.1.keep g, B0.out.2.1.keep g, B0.out.2.2.1.keep g, by rw [cell_of_heap (heap_new W2 (.cells #[vr] 36))]; rfl, Ints_keep o2.ints (grown_alloc W2 _ none), grown_none B0.out.2.2.2 g⟩)
  obtain ⟨gr, cr', hvr, _, _, _⟩ := o2.form (by rw [RK.out.1]; omega)
  rw [RK.out.1] at hvr
  subst hvr
  clear o2 g2 RG B0
  go_upto_region 2 with fail
  generalize W2.alloc (.cells #[.slice (some ⟨gr, 0, none⟩) 40 cr'] 36) = W3 at *
  generalize W2.heap.size = br at *
  go_upto_region 3 with fail
  clear hmf
  go_cut [10, 11] from 26 (fun s10 s11 wx => NuR1 W3 Z s11 wx)
  case first =>
    refine wp_region_held_drew (S := GrownW W3) (by kernel_rfl) (gw_start _) (fun hHeld => ?_)
    refine wpAnyH_take (i := 0) (v := .agg (memC m s).toArray) rfl (by kernel_rfl) (by kernel_rfl) (by kernel_rfl) (fun _ _ _ h => h) (Or.inl ⟨by rfl, ?yna1⟩) hHeld ?rna1
    case yna1 => (intro w' hSw; exact yields_load_v rfl rfl (BB.out.mem.keep hSw) _ Tryz.underlying30 rfl size102 (by rw [CM.out]; omega) _ AM.out)
    (try simp only [Act.put, sL])
    refine wpAnyH_take (i := 1) (v := .agg (intsV a).toArray) rfl (by kernel_rfl) (by kernel_rfl) (by kernel_rfl) (fun _ _ _ h => h) (Or.inl ⟨by rfl, ?yna2⟩) hHeld ?rna2
    case yna2 => (intro w' hSw; exact yields_load_v rfl rfl (BB.out.prd.keep hSw) _ Tryz.underlying89 rfl size9' (by rw [intsV_len, LA.out]; omega) _ AA.out)
    (try simp only [Act.put, sL])
    refine wpAnyH_ready (rs := [2, 7]) (by kernel_rfl) (by simp) (AllReadyH.cons rfl (fun K hK => ?gna3) (AllReadyH.cons rfl (fun K hK => ?gna4) AllReadyH.nil))
    case gna3 =>
      (try simp only [Act.put, sL])
      go_simp
      go_wp2_with fail
      refine hK.out _ _ (gw_alloc hHeld (.cells (arrI (zeros 40)) 3)) (fun hHeld => ?_)
      clear hK
      have OM := hide (show Blk ((W3.alloc (.cells (arrI (zeros 40)) 3)).drew) W3.heap.size 3 (zeros 40) from Blk.new W3.drew 3 (zeros 40))
      generalize (W3.alloc (.cells (arrI (zeros 40)) 3)).drew = wzna5 at *
      (try simp only [Act.put, sL])
      refine wpAnyH_ready (rs := [3, 7]) (by kernel_rfl) (by simp) (AllReadyH.cons rfl (fun K hK => ?gna6) (AllReadyH.cons rfl (fun K hK => ?gna7) AllReadyH.nil))
      case gna6 =>
        (try simp only [Act.put, sL])
        go_simp
        refine (SPK.out _ _ (ints40C OM.out (zeros_len 40)) (SH40.out _)).mono ?_
        rintro e wna8 ⟨vx', rfl, ox, gna8⟩
        have Gna8 := hide gna8
        have OX := hide (ox.base (b' := W3.heap.size) (World.grownBy.size hHeld))
        clear gna8 ox
        (try unfold memV)
        (try unfold encV)
        go_wp2_with fail
        refine hK.out _ _ (gw_trans hHeld Gna8.out) (fun hHeld => ?_)
        clear hK
        have OM := hide (OM.out.keep Gna8.out)
        (try simp only [Act.put, sL])
        refine wpAnyH_take (i := 4) (v := ?vna9) rfl (by kernel_rfl) (by kernel_rfl) (by kernel_rfl) (fun _ _ _ h => h) (Or.inl ⟨by rfl, ?yna9⟩) hHeld ?rna9
        case yna9 => (intro w' hSw; go_simp; (try with_reducible rfl))
        (try simp only [Act.put, sL])
        refine wpAnyH_take (i := 5) (v := ?vna10) rfl (by kernel_rfl) (by kernel_rfl) (by kernel_rfl) (fun _ _ _ h => h) (Or.inl ⟨by rfl, ?yna10⟩) hHeld ?rna10
        case yna10 => (intro w' hSw; go_simp; (try with_reducible rfl))
        (try simp only [Act.put, sL])
        refine wpAnyH_take (i := 6) (v := ?vna11) rfl (by kernel_rfl) (by kernel_rfl) (by kernel_rfl) (fun _ _ _ h => h) (Or.inl ⟨by rfl, ?yna11⟩) hHeld ?rna11
        case yna11 => (intro w' hSw; go_simp; (try with_reducible rfl))
        (try simp only [Act.put, sL])
        refine wpAnyH_ready (rs := [7]) (by kernel_rfl) (by simp) (AllReadyH.cons rfl (fun K hK => ?_) AllReadyH.nil)
        (try simp only [Act.put, sL])
        go_simp
        go_wp2_with fail
        have HB := hide (show W3.heap.size ≤ wna8.heap.size from by first | exact Nat.le_refl _ | exact World.grownBy.size hHeld)
        refine hK.out _ _ (gw_alloc hHeld (.cells (memC (zeros 101) false).toArray 30)) (fun hHeld => ?_)
        clear hK
        have HZ := hide (show BlkM (wna8.alloc (.cells (memC (zeros 101) false).toArray 30)) wna8.heap.size (zeros 101) false from BlkM.new wna8 (zeros 101) false)
        have OM := hide (OM.out.keep (grown_alloc wna8 (.cells (memC (zeros 101) false).toArray 30) none))
        have OX := hide (OX.out.keep (grown_alloc wna8 (.cells (memC (zeros 101) false).toArray 30) none))
        generalize wna8.alloc (.cells (memC (zeros 101) false).toArray 30) = wzna12 at *
        (try simp only [Act.put, sL])
        refine wpAnyH_ready (rs := [8]) (by kernel_rfl) (by simp) (AllReadyH.cons rfl (fun K hK => ?_) AllReadyH.nil)
        (try simp only [Act.put, sL])
        refine step_store_v rfl 30 _ _ rfl (wna8.heap.size) 0 30 (memC (zeros 101) false) (memC MZ s) rfl rfl HZ.out (by rw [ZL.out, CZ.out]; omega) (by rw [CZ.out]; exact size102) (memC_one _ _) ?_
        have PU := HZ.out.putAll (m := MZ) (t := s) (zeros_len 101) LZ.out
        have OX := hide (OX.out.keepBut PU.2 HZ.out (by decide))
        refine hK.out _ _ (gw_own hHeld PU.2 HB.out) (fun hHeld => ?_)
        clear hK
        (try simp only [Act.put, sL])
        refine wpAnyH_take (i := 9) (v := ?vna14) rfl (by kernel_rfl) (by kernel_rfl) (by kernel_rfl) (fun _ _ _ h => h) (Or.inl ⟨by rfl, ?yna14⟩) hHeld ?rna14
        case yna14 => (intro w' hSw; go_simp; (try with_reducible rfl))
        (try simp only [Act.put, sL])
        refine wpAnyH_done (by kernel_rfl) ?_ _
        go_wp2_with fail
        go_meet
        exact ⟨OX.out, hHeld⟩
      case gna7 =>
        (try simp only [Act.put, sL])
        go_simp
        go_wp2_with fail
        have HB := hide (show W3.heap.size ≤ wzna5.heap.size from by first | exact Nat.le_refl _ | exact World.grownBy.size hHeld)
        refine hK.out _ _ (gw_alloc hHeld (.cells (memC (zeros 101) false).toArray 30)) (fun hHeld => ?_)
        clear hK
        have HZ := hide (show BlkM (wzna5.alloc (.cells (memC (zeros 101) false).toArray 30)) wzna5.heap.size (zeros 101) false from BlkM.new wzna5 (zeros 101) false)
        have OM := hide (OM.out.keep (grown_alloc wzna5 (.cells (memC (zeros 101) false).toArray 30) none))
        generalize wzna5.alloc (.cells (memC (zeros 101) false).toArray 30) = wzna15 at *
        (try simp only [Act.put, sL])
        refine wpAnyH_ready (rs := [3]) (by kernel_rfl) (by simp) (AllReadyH.cons rfl (fun K hK => ?_) AllReadyH.nil)
        (try simp only [Act.put, sL])
        go_simp
        refine (SPK.out _ _ (ints40C OM.out (zeros_len 40)) (SH40.out _)).mono ?_
        rintro e wna16 ⟨vx', rfl, ox, gna16⟩
        have Gna16 := hide gna16
        have OX := hide (ox.base (b' := W3.heap.size) (World.grownBy.size hHeld))
        clear gna16 ox
        (try unfold memV)
        (try unfold encV)
        go_wp2_with fail
        refine hK.out _ _ (gw_trans hHeld Gna16.out) (fun hHeld => ?_)
        clear hK
        have OM := hide (OM.out.keep Gna16.out)
        have HZ := hide (HZ.out.keep Gna16.out)
        (try simp only [Act.put, sL])
        refine wpAnyH_take (i := 4) (v := ?vna17) rfl (by kernel_rfl) (by kernel_rfl) (by kernel_rfl) (fun _ _ _ h => h) (Or.inl ⟨by rfl, ?yna17⟩) hHeld ?rna17
        case yna17 => (intro w' hSw; go_simp; (try with_reducible rfl))
        (try simp only [Act.put, sL])
        refine wpAnyH_take (i := 5) (v := ?vna18) rfl (by kernel_rfl) (by kernel_rfl) (by kernel_rfl) (fun _ _ _ h => h) (Or.inl ⟨by rfl, ?yna18⟩) hHeld ?rna18
        case yna18 => (intro w' hSw; go_simp; (try with_reducible rfl))
        (try simp only [Act.put, sL])
        refine wpAnyH_take (i := 6) (v := ?vna19) rfl (by kernel_rfl) (by kernel_rfl) (by kernel_rfl) (fun _ _ _ h => h) (Or.inl ⟨by rfl, ?yna19⟩) hHeld ?rna19
        case yna19 => (intro w' hSw; go_simp; (try with_reducible rfl))
        (try simp only [Act.put, sL])
        refine wpAnyH_ready (rs := [8]) (by kernel_rfl) (by simp) (AllReadyH.cons rfl (fun K hK => ?_) AllReadyH.nil)
        (try simp only [Act.put, sL])
        refine step_store_v rfl 30 _ _ rfl (wzna5.heap.size) 0 30 (memC (zeros 101) false) (memC MZ s) rfl rfl HZ.out (by rw [ZL.out, CZ.out]; omega) (by rw [CZ.out]; exact size102) (memC_one _ _) ?_
        have PU := HZ.out.putAll (m := MZ) (t := s) (zeros_len 101) LZ.out
        have OX := hide (OX.out.keepBut PU.2 HZ.out (by decide))
        refine hK.out _ _ (gw_own hHeld PU.2 HB.out) (fun hHeld => ?_)
        clear hK
        (try simp only [Act.put, sL])
        refine wpAnyH_take (i := 9) (v := ?vna21) rfl (by kernel_rfl) (by kernel_rfl) (by kernel_rfl) (fun _ _ _ h => h) (Or.inl ⟨by rfl, ?yna21⟩) hHeld ?rna21
        case yna21 => (intro w' hSw; go_simp; (try with_reducible rfl))
        (try simp only [Act.put, sL])
        refine wpAnyH_done (by kernel_rfl) ?_ _
        go_wp2_with fail
        go_meet
        exact ⟨OX.out, hHeld⟩
    case gna4 =>
      (try simp only [Act.put, sL])
      go_simp
      go_wp2_with fail
      have HB := hide (show W3.heap.size ≤ W3.heap.size from by first | exact Nat.le_refl _ | exact World.grownBy.size hHeld)
      refine hK.out _ _ (gw_alloc hHeld (.cells (memC (zeros 101) false).toArray 30)) (fun hHeld => ?_)
      clear hK
      have HZ := hide (show BlkM ((W3.alloc (.cells (memC (zeros 101) false).toArray 30)).drew) W3.heap.size (zeros 101) false from BlkM.new W3.drew (zeros 101) false)
      generalize (W3.alloc (.cells (memC (zeros 101) false).toArray 30)).drew = wzna22 at *
      (try simp only [Act.put, sL])
      refine wpAnyH_ready (rs := [2]) (by kernel_rfl) (by simp) (AllReadyH.cons rfl (fun K hK => ?_) AllReadyH.nil)
      (try simp only [Act.put, sL])
      go_simp
      go_wp2_with fail
      refine hK.out _ _ (gw_alloc hHeld (.cells (arrI (zeros 40)) 3)) (fun hHeld => ?_)
      clear hK
      have OM := hide (show Blk (wzna22.alloc (.cells (arrI (zeros 40)) 3)) wzna22.heap.size 3 (zeros 40) from Blk.new wzna22 3 (zeros 40))
      have HZ := hide (HZ.out.keep (grown_alloc wzna22 (.cells (arrI (zeros 40)) 3) none))
      generalize wzna22.alloc (.cells (arrI (zeros 40)) 3) = wzna23 at *
      (try simp only [Act.put, sL])
      refine wpAnyH_ready (rs := [3]) (by kernel_rfl) (by simp) (AllReadyH.cons rfl (fun K hK => ?_) AllReadyH.nil)
      (try simp only [Act.put, sL])
      go_simp
      refine (SPK.out _ _ (ints40C OM.out (zeros_len 40)) (SH40.out _)).mono ?_
      rintro e wna24 ⟨vx', rfl, ox, gna24⟩
      have Gna24 := hide gna24
      have OX := hide (ox.base (b' := W3.heap.size) (World.grownBy.size hHeld))
      clear gna24 ox
      (try unfold memV)
      (try unfold encV)
      go_wp2_with fail
      refine hK.out _ _ (gw_trans hHeld Gna24.out) (fun hHeld => ?_)
      clear hK
      have HZ := hide (HZ.out.keep Gna24.out)
      have OM := hide (OM.out.keep Gna24.out)
      (try simp only [Act.put, sL])
      refine wpAnyH_take (i := 4) (v := ?vna25) rfl (by kernel_rfl) (by kernel_rfl) (by kernel_rfl) (fun _ _ _ h => h) (Or.inl ⟨by rfl, ?yna25⟩) hHeld ?rna25
      case yna25 => (intro w' hSw; go_simp; (try with_reducible rfl))
      (try simp only [Act.put, sL])
      refine wpAnyH_take (i := 5) (v := ?vna26) rfl (by kernel_rfl) (by kernel_rfl) (by kernel_rfl) (fun _ _ _ h => h) (Or.inl ⟨by rfl, ?yna26⟩) hHeld ?rna26
      case yna26 => (intro w' hSw; go_simp; (try with_reducible rfl))
      (try simp only [Act.put, sL])
      refine wpAnyH_take (i := 6) (v := ?vna27) rfl (by kernel_rfl) (by kernel_rfl) (by kernel_rfl) (fun _ _ _ h => h) (Or.inl ⟨by rfl, ?yna27⟩) hHeld ?rna27
      case yna27 => (intro w' hSw; go_simp; (try with_reducible rfl))
      (try simp only [Act.put, sL])
      refine wpAnyH_ready (rs := [8]) (by kernel_rfl) (by simp) (AllReadyH.cons rfl (fun K hK => ?_) AllReadyH.nil)
      (try simp only [Act.put, sL])
      refine step_store_v rfl 30 _ _ rfl (W3.heap.size) 0 30 (memC (zeros 101) false) (memC MZ s) rfl rfl HZ.out (by rw [ZL.out, CZ.out]; omega) (by rw [CZ.out]; exact size102) (memC_one _ _) ?_
      have PU := HZ.out.putAll (m := MZ) (t := s) (zeros_len 101) LZ.out
      have OX := hide (OX.out.keepBut PU.2 HZ.out (by decide))
      refine hK.out _ _ (gw_own hHeld PU.2 HB.out) (fun hHeld => ?_)
      clear hK
      (try simp only [Act.put, sL])
      refine wpAnyH_take (i := 9) (v := ?vna29) rfl (by kernel_rfl) (by kernel_rfl) (by kernel_rfl) (fun _ _ _ h => h) (Or.inl ⟨by rfl, ?yna29⟩) hHeld ?rna29
      case yna29 => (intro w' hSw; go_simp; (try with_reducible rfl))
      (try simp only [Act.put, sL])
      refine wpAnyH_done (by kernel_rfl) ?_ _
      go_wp2_with fail
      go_meet
      exact ⟨OX.out, hHeld⟩
  case rest =>
  obtain ⟨o4, g4⟩ := hcut
  have B4 := hide (BB.out.keep g4)
  have I4 := hide o4.ints
  clear hmk hz SPK SH40 LZ CZ o4 g4 BB AM AA
  go_wp2_with fail
  refine (LT.out _ _ _ (HX.out _ B4.out.grw) I4.out).mono ?_
  rintro e W5 ⟨vt, rfl, ot, g5⟩
  have B5 := hide (B4.out.keep g5)
  have IT := hide ot.ints
  have PK1 := hide (PK.out W5 br _ B5.out vt ot.ints)
  clear LT PK HX B4 I4 g5 ot
  go_upto_region 5 with fail
  go_wp2_with (first | refine wpList_load_v rfl 28 _ rfl w.heap.size 16 80 rfl 30 (memC m s) B5.out.mem _ Tryz.underlying28 rfl size80c (by rw [CM.out]; omega) _ PX.out ?_)
  refine PK1.out.mono ?_
  rintro e W6 ⟨rfl, g6⟩
  have B6 := hide (B5.out.keep g6)
  have IT6 := hide (Ints_keep IT.out g6)
  clear PK1 g6 B5 IT
  have w20 : (20 : Int) ≤ lag := by omega
  go_upto_region 6 with fail
  go_wp2_with fail
  refine (NE.out _ B6.out.grw).mono ?_
  rintro e W7 ⟨rfl, g7⟩
  have B7 := hide (B6.out.keep g7)
  have IT7 := hide (Ints_keep IT6.out g7)
  clear NE g7 B6 IT6
  obtain ⟨U8, hU8⟩ : ∃ U8, [(lag : Int) - 20, (pn : Int), 0, 0, 0, 0, 0, 0] = U8 := ⟨_, rfl⟩
  have UL := hide (show U8.length = 8 by rw [← hU8]; rfl)
  have UP := hide (show nth U8 1 = (pn : Int) by rw [← hU8]; rfl)
  rw [hU8] at FIN
  obtain ⟨c1, c2, c3⟩ := fresh_arr W7 56 8 U8 UL.out
  have C1 := hide c1
  have S8 := hide (show NuS W7 W7.heap.size U8 _ from ⟨c3, c2⟩)
  have NW := hide (Nat.le_refl W7.heap.size)
  rw [z8'] at C1 S8
  clear c1 c2 c3
  go_upto_region 7 with (first | refine wpList_store_arr rfl 56 _ _ rfl _ (zeros 8) U8 rfl (by rw [← hU8]; rfl) C1.out (by rw [UL.out, zeros_len]) (by rw [zeros_len]; exact size8sub) ?_)
  (try simp only [Act.put])
  clear C1 hU8
  generalize putArr _ W7.heap.size U8 = W8 at *
  generalize hbu : W7.heap.size = bu at S8 NW ⊢
  have NWu := hide (show W7.heap.size ≤ bu from by omega)
  clear NW hbu
  have B8 := hide (B7.out.keep S8.out.1)
  go_wp2_with (first | refine wpList_load_v rfl 28 _ rfl w.heap.size 16 80 rfl 30 (memC m s) B8.out.mem _ Tryz.underlying28 rfl size80c (by rw [CM.out]; omega) _ PX.out ?_)
  refine (PA.out _).mono ?_
  rintro e W9 ⟨vp, rfl, op, g9⟩
  have S9 := hide (S8.out.keep g9)
  have B9 := hide (B8.out.keep g9)
  have IP := hide op.ints
  have IT9 := hide (Ints_keep IT7.out S9.out.1)
  have NB9 := hide (show bu + 1 ≤ W9.heap.size from S9.out.2.lt)
  clear PA g9 S8 B8 op IT7
  go_upto_region 8 with fail
  refine wp_region_held_drew (S := GrownW W9) (by kernel_rfl) (gw_start _) (fun hHeld => ?_)
  refine wpAnyH_take (i := 0) (v := ?vnb0) rfl (by kernel_rfl) (by kernel_rfl) (by kernel_rfl) (fun _ _ _ h => h) (Or.inl ⟨by rfl, ?ynb0⟩) hHeld ?rnb0
  case ynb0 => (intro w' hSw; go_simp; (try with_reducible rfl))
  (try simp only [Act.put, sL])
  refine wpAnyH_take (i := 1) (v := ?vnb1) rfl (by kernel_rfl) (by kernel_rfl) (by kernel_rfl) (fun _ _ _ h => h) (Or.inl ⟨by rfl, ?ynb1⟩) hHeld ?rnb1
  case ynb1 => (intro w' hSw; go_simp; (try with_reducible rfl))
  (try simp only [Act.put, sL])
  refine wpAnyH_take (i := 2) (v := ?vnb2) rfl (by kernel_rfl) (by kernel_rfl) (by kernel_rfl) (fun _ _ _ h => h) (Or.inl ⟨by rfl, ?ynb2⟩) hHeld ?rnb2
  case ynb2 => (intro w' hSw; go_simp; (try with_reducible rfl))
  (try simp only [Act.put, sL])
  refine wpAnyH_take (i := 4) (v := ?vnb4) rfl (by kernel_rfl) (by kernel_rfl) (by kernel_rfl) (fun _ _ _ h => h) (Or.inl ⟨by rfl, ?ynb4⟩) hHeld ?rnb4
  case ynb4 => (intro w' hSw; go_simp; (try with_reducible rfl))
  (try simp only [Act.put, sL])
  refine wpAnyH_take (i := 5) (v := .int .i64 (pn : Int)) rfl (by kernel_rfl) (by kernel_rfl) (by kernel_rfl) (fun _ _ _ h => h) (Or.inl ⟨by rfl, ?ynb5⟩) hHeld ?rnb5
  case ynb5 => (intro w' hSw; have cc := (S9.out.2.keep hSw).cell 1 (by rw [UL.out]; omega); rw [UP.out] at cc; go_simp; (try with_reducible rfl))
  (try simp only [Act.put, sL])
  refine wpAnyH_ready (rs := [3]) (by kernel_rfl) (by simp) (AllReadyH.cons rfl (fun K hK => ?_) AllReadyH.nil)
  (try simp only [Act.put, sL])
  go_simp
  refine (CF.out _ br _ (B9.out.keep hHeld) vp PL (Ints_keep IP.out hHeld) PAL.out).mono ?_
  rintro e w1 ⟨vv, rfl, ov, q1⟩
  have Q1 := hide q1
  rw [PAV.out] at ov
  have OV := hide (ov.base (b' := W9.heap.size) hHeld.size)
  clear q1 ov
  go_wp2_with fail
  refine hK.out _ _ (gw_trans hHeld Q1.out) (fun hHeld => ?_)
  clear hK
  (try simp only [Act.put, sL])
  refine wpAnyH_ready (rs := [6]) (by kernel_rfl) (by simp) (AllReadyH.cons rfl (fun K hK => ?_) AllReadyH.nil)
  (try simp only [Act.put, sL])
  go_simp
  refine (LO.out vv _ OV.out.ints (grown_none B9.out.grw hHeld)).mono ?_
  rintro e w2 ⟨vl, rfl, ol, q2⟩
  have Q2 := hide q2
  have OL := hide (ol.base (b' := W9.heap.size) hHeld.size)
  clear q2 ol
  go_wp2_with fail
  refine hK.out _ _ (gw_trans hHeld Q2.out) (fun hHeld => ?_)
  clear hK
  (try simp only [Act.put, sL])
  refine wpAnyH_ready (rs := [7]) (by kernel_rfl) (by simp) (AllReadyH.cons rfl (fun K hK => ?_) AllReadyH.nil)
  (try simp only [Act.put, sL])
  go_simp
  refine (LU.out vt vl _ (Ints_keep IT9.out hHeld) OL.out.ints).mono ?_
  rintro e w3 ⟨vu, rfl, ou, q3⟩
  have Q3 := hide q3
  have OU := hide (ou.base (b' := W9.heap.size) hHeld.size)
  clear q3 ou
  go_wp2_with fail
  refine hK.out _ _ (gw_trans hHeld Q3.out) (fun hHeld => ?_)
  clear hK
  (try simp only [Act.put, sL])
  refine wpAnyH_take (i := 8) (v := ?vnb8) rfl (by kernel_rfl) (by kernel_rfl) (by kernel_rfl) (fun _ _ _ h => h) (Or.inl ⟨by rfl, ?ynb8⟩) hHeld ?rnb8
  case ynb8 => (intro w' hSw; go_simp; (try with_reducible rfl))
  (try simp only [Act.put, sL])
  refine wpAnyH_done (by kernel_rfl) ?_ _
  have S11 := hide (S9.out.keep hHeld)
  have B11 := hide (B9.out.keep hHeld)
  have O11 := hide (OU.out.base (b' := bu + 1) NB9.out)
  clear OV OL OU Q1 Q2 Q3 hHeld S9 B9 IP IT9 LO LU PAL PAV
  go_upto_region 9 with fail
  have rc := B11.out.rng
  have TG1 := hide (TG.out _ _ _ O11.out.ints O11.out.shp B11.out.ring)
  clear TG
  go_wp2_with fail
  refine TG1.out.mono ?_
  rintro e W12 ⟨vd, rfl, od, g12⟩
  have S12 := hide (S11.out.keep g12)
  have B12 := hide (B11.out.keep g12)
  have O12 := hide (O11.out.keep g12)
  have FW1 := hide (FW.out _ _ _ od.ints B12.out.ring)
  clear TG1 FW g12 S11 B11 rc od O11
  have rc := B12.out.rng
  go_upto_region 10 with fail
  go_wp2_with fail
  refine FW1.out.mono ?_
  rintro e W13 ⟨rfl, g13⟩
  have S13 := hide (S12.out.keep g13)
  have O13 := hide (O12.out.keep g13)
  have X4 := hide (show (intsV (chX m a x)).length = 4 by rw [intsV_len]; exact XK.out.1)
  have IX := hide (intsV_one (chX m a x))
  have U4 := hide (show (intsV U8).length = 8 by rw [intsV_len]; exact UL.out)
  have S14 := hide (S13.out.putU NWu.out 2 (chX m a x) (by rw [XK.out.1, UL.out]; omega))
  have O14 := hide (O13.out.keepLt (S13.out.2.put 2 (chX m a x) (by rw [XK.out.1, UL.out]; omega)).2 (by omega))
  have U14 := hide (show (ovr U8 2 (chX m a x)).length = 8 by rw [ovr_len]; exact UL.out)
  have S15 := hide (S14.out.setU NWu.out 6 (chS m a x) (by rw [U14.out]; omega))
  have O15 := hide (O14.out.keepLt (grown_setCell (putV W13 bu 2 (intsV (chX m a x))) ⟨bu, 6, none⟩ (.int .i64 (chS m a x))) (by simp))
  have c6 := S14.out.2.cell 6 (by rw [U14.out]; omega)
  have f6 := S14.out.2.free 6
  clear FW1 g13 S12 B12 rc O12 O13
  go_upto_region 11 with (first | refine wpList_store_v rfl 54 _ _ rfl bu 2 56 (intsV U8) (intsV (chX m a x)) rfl rfl S13.out.2 (by rw [X4.out, U4.out]; omega) (by rw [X4.out]; exact size4c) IX.out ?_)
  (try simp only [Act.put])
  clear c6 f6 S13 S14 O14
  generalize (putV W13 bu 2 (intsV (chX m a x))).setCell ⟨bu, 6, none⟩ (.int .i64 (chS m a x)) = W15 at *
  have P4 := hide (show prt ((ovr U8 2 (chX m a x)).set 6 (chS m a x)) 2 4 = chX m a x from tabXC U8 (chX m a x) (chS m a x) UL.out XK.out.1)
  have P6 := hide (show nth ((ovr U8 2 (chX m a x)).set 6 (chS m a x)) 6 = chS m a x from by rw [setN _ _ _ (by rw [U14.out]; omega), if_pos rfl])
  have U15 := hide (show ((ovr U8 2 (chX m a x)).set 6 (chS m a x)).length = 8 by rw [List.length_set]; exact U14.out)
  clear UL UP U4 U14
  generalize (ovr U8 2 (chX m a x)).set 6 (chS m a x) = U16 at *
  have c6 := S15.out.2.cell 6 (by rw [U15.out]; omega)
  rw [P6.out] at c6
  have PT := hide (BlkI.part (l := U16) 2 4 (by rw [U15.out]; omega))
  rw [P4.out] at PT
  have UV := hide (show (intsV U16).length = 8 by rw [intsV_len]; exact U15.out)
  go_wp2_with (first | refine wpList_load_v rfl 54 _ rfl bu 2 4 rfl 56 (intsV U16) S15.out.2 _ Tryz.underlying54 rfl size4c (by rw [UV.out]; omega) _ PT.out ?_)
  refine (BU.out _).mono ?_
  rintro e W16 ⟨vo, rfl, oo, g16⟩
  have S16 := hide (S15.out.keep g16)
  have O16 := hide (O15.out.keep g16)
  have B16 := hide (B7.out.keep S16.out.1)
  have CF2 := hide (CF.out W16 br _ B16.out vo (chO m a x) oo.ints OK.out.1)
  rw [KO.out] at CF2
  clear BU g16 S15 oo c6 CF O15
  go_upto_region 12 with fail
  go_wp2_with fail
  refine CF2.out.mono ?_
  rintro e W17 ⟨vf, rfl, of, g17⟩
  have S17 := hide (S16.out.keep g17)
  have O17 := hide (O16.out.keep g17)
  have IF := hide of.ints
  have D11 := hide (D1.out _ _ _ O17.out.ints IF.out)
  clear CF2 g17 S16 B16 of D1 O16
  go_upto_region 13 with fail
  generalize dotS (chU m a x) (chK m a x) 40 = d1 at *
  generalize dotS (chK m a x) (chK m a x) 40 = d2 at *
  go_wp2_with fail
  refine D11.out.mono ?_
  rintro e w18 ⟨rfl, rfl⟩
  have D21 := hide (D2.out _ _ IF.out)
  clear D11 IF D2
  go_wp2_with fail
  refine D21.out.mono ?_
  rintro e w19 ⟨rfl, rfl⟩
  have GO1 := hide (GO.out _ (grown_none B7.out.grw S17.out.1))
  clear D21 GO
  go_wp2_with fail
  refine GO1.out.mono ?_
  rintro e w20' ⟨rfl, rfl⟩
  have c7 := S17.out.2.cell 7 (by rw [U15.out]; omega)
  have f7 := S17.out.2.free 7
  have S21 := hide (S17.out.setU NWu.out 7 (chL m a x) (by rw [U15.out]; omega))
  rw [FIN.out] at S21
  clear GO1 S17 O17
  go_upto_region 14 with fail
  clear c7 f7
  generalize World.setCell _ ⟨bu, 7, none⟩ (.int .i64 (chL m a x)) = W21 at *
  have B21 := hide (B7.out.keep S21.out.1)
  have CW8 := hide (show (intsV CW).length = 8 by rw [intsV_len, ← FIN.out, List.length_set]; exact U15.out)
  have CA := hide (BlkI.all CW 8 (by have := CW8.out; rwa [intsV_len] at this))
  have ZV := hide (show (intsV (zeros 8)).length = 8 by rw [intsV_len, zeros_len])
  have IC := hide (intsV_one CW)
  have PB := hide (B21.out.res.putAll (m := CW) (by have := CW8.out; rw [intsV_len] at this; rw [this, zeros_len]))
  have FF := hide (F.out _ (grown_own B21.out.grw PB.out.2 (by omega)))
  clear F
  go_wp2_with (first | refine wpList_load_v rfl 56 _ rfl bu 0 8 rfl 56 (intsV CW) S21.out.2 _ Tryz.underlying56 rfl size8sub (by rw [CW8.out]; omega) _ CA.out ?_ | refine wpList_store_v rfl 56 _ _ rfl (w.heap.size + 1 + 1) 0 56 (intsV (zeros 8)) (intsV CW) rfl rfl B21.out.res (by rw [CW8.out, ZV.out]; omega) (by rw [CW8.out]; exact size8sub) IC.out ?_)
  have hlv := loadVar_v PB.out.1.v _ Tryz.underlying56 rfl (by rw [CW8.out]; exact size8sub)
  refine bodyPost_ret (v := .agg (arrI CW)) ?_ rfl FF.out
  simp [results, Tryz.results43, asAddr, Act.put, hlv]
  rfl
end Go.Proofs.YtihphpcgjeokmaaGreatDoor

/- CodJ -/
namespace Go.Proofs.YtihphpcgjeokmaaGreatDoor
open Go.RowKit
set_option linter.unusedVariables false
set_option linter.unusedSimpArgs false
set_option maxHeartbeats 4000000
theorem size16s : (Tryz.prog.info? 57).map (·.size) = some 16 := by kernel_rfl
theorem zSubs : (Tryz.prog.info? 57).bind (·.zero) = some (.agg (arrI (zeros 16))) := by kernel_rfl
def ChoQ (w : World) (l : List Int) (s : Bool) (p : List Int) (wr : World) : Prop := BlkM wr w.heap.size l s ∧ BlkV wr (w.heap.size + 1) 59 (intsV p) ∧ BlkV wr (w.heap.size + 1 + 1) 57 (intsV (zeros 16)) ∧ w.grownBy wr none
theorem ChoQ.new (w : World) (l : List Int) (s : Bool) (p : List Int) : ChoQ w l s p (((w.alloc (.cells (memC l s).toArray 30)).alloc (.cells (arrI p) 59)).alloc (.cells (arrI (zeros 16)) 57)) := by
  refine ⟨((BlkM.new w l s).keep (grown_alloc _ _ none)).keep (grown_alloc _ _ none), ?_, ?_, grown_none (grown_none (grown_alloc _ _ none) (grown_alloc _ _ none)) (grown_alloc _ _ none)⟩
  · have := (BlkV.new (w.alloc (.cells (memC l s).toArray 30)) 59 (intsV p)).keep (grown_alloc _ (.cells (arrI (zeros 16)) 57) none)
    rw [intsV_arr] at this
    simpa using this
  · have := BlkV.new ((w.alloc (.cells (memC l s).toArray 30)).alloc (.cells (arrI p) 59)) 57 (intsV (zeros 16))
    rw [intsV_arr] at this
    simpa using this
theorem ChoQ.keep {w : World} {l : List Int} {s : Bool} {p : List Int} {wr wr' : World} (h : ChoQ w l s p wr) (g : wr.grownBy wr' none) : ChoQ w l s p wr' := ⟨h.1.keep g, h.2.1.keep g, h.2.2.1.keep g, grown_none h.2.2.2 g⟩
theorem ChoQ.all {w : World} {l m : List Int} {s t : Bool} {p : List Int} {wr : World} (h : ChoQ w l s p wr) (hl : l.length = 101) (hm : m.length = 101) : ChoQ w m t p (putV wr w.heap.size 0 (memC m t)) ∧ wr.grownBy (putV wr w.heap.size 0 (memC m t)) (some w.heap.size) := by
  have := h.1.putAll (m := m) (t := t) hl hm
  exact ⟨⟨this.1, h.2.1.keepBut this.2 (by omega), h.2.2.1.keepBut this.2 (by omega), grown_own h.2.2.2 this.2 (Nat.le_refl _)⟩, this.2⟩
theorem ChoQ.putP {w : World} {l : List Int} {s : Bool} {p : List Int} {wr : World} (h : ChoQ w l s p wr) (o : Nat) (M : List Int) (hl : o + M.length ≤ p.length) : ChoQ w l s (ovr p o M) (putV wr (w.heap.size + 1) o (intsV M)) ∧ wr.grownBy (putV wr (w.heap.size + 1) o (intsV M)) (some (w.heap.size + 1)) := by
  have := putI h.2.1 o M hl
  exact ⟨⟨h.1.keepBut this.2 (by omega), this.1, h.2.2.1.keepBut this.2 (by omega), grown_own h.2.2.2 this.2 (by omega)⟩, this.2⟩
theorem pksN_subs {P : List Int} (U : Nat → List Int) (hP : P.length = 25) (u0 : (U 0).length = 8) (u1 : (U 1).length = 8) : prt (pksN P U 2) 9 16 = U 0 ++ U 1 := by
  have e : (U 0 ++ U 1).length = 16 := by simp [u0, u1]
  refine (tab_ext e (fun i hi => ?_)).symm
  rw [pksN_two U (nth P 0) hP rfl (prt_len P 1 8) (fun i hi => by rw [prt_nth _ _ _ _ hi]) u0 u1]
  show _ = nth (nth P 0 :: (prt P 1 8 ++ (U 0 ++ U 1))) (9 + i)
  rw [show 9 + i = (8 + i) + 1 by omega]
  show _ = nth (prt P 1 8 ++ (U 0 ++ U 1)) (8 + i)
  rw [nth_app_r (prt P 1 8) _ _ (by rw [prt_len]; omega), prt_len, Nat.add_sub_cancel_left]
theorem slice_tail {W : World} {a : Addr} {c : Nat} {l : List Int} (h : Ints W (.slice (some a) l.length c) l) (i : Nat) (hi : i < l.length) :
    (∀ u, Sem.run Tryz.prog (Instr.slice 36 (.slice (some a) l.length c) (some (.int .i64 (i : Int))) none none) u = .ok (.slice (some (a.add i)) (l.length - i) (c - i)) u) ∧ Ints W (.slice (some (a.add i)) (l.length - i) (c - i)) (l.drop i) := by
  obtain ⟨_, hc, hcell⟩ := ints_some h
  refine ⟨fun u => ?_, ⟨_, c - i, by rw [List.length_drop], by rw [List.length_drop]; omega, fun hp => ⟨_, rfl, fun x hx => ?_⟩⟩⟩
  · rw [run_slice_l (P := Tryz.prog) u 36 (some a) l.length c (by kernel_rfl) .i64 i (by omega) (by omega)]
    simp [go_sem, sliced]
    omega
  · rw [List.length_drop] at hx
    rw [Addr.add_add, hcell (i + x) (by omega), nth_drop]
theorem slice_head {W : World} {a : Addr} {c : Nat} {l : List Int} (h : Ints W (.slice (some a) l.length c) l) (j : Nat) (hj : j ≤ l.length) :
    (∀ u, Sem.run Tryz.prog (Instr.slice 36 (.slice (some a) l.length c) none (some (.int .i64 (j : Int))) none) u = .ok (.slice (some a) j c) u) ∧ Ints W (.slice (some a) j c) (l.take j) := by
  obtain ⟨_, hc, hcell⟩ := ints_some h
  refine ⟨fun u => ?_, ⟨_, c, by rw [List.length_take]; congr 1; omega, by rw [List.length_take]; omega, fun hp => ⟨_, rfl, fun x hx => ?_⟩⟩⟩
  · rw [run_slice_h (P := Tryz.prog) u 36 (some a) l.length c (by kernel_rfl) .i64 j (by omega) (by omega)]
    simp [go_sem, sliced]
  · rw [List.length_take] at hx
    rw [hcell x (by omega), nth_take _ _ _ (by omega)]
set_option maxRecDepth 100000 in
theorem codChosen_any (w : World) (hW : Wide w) (hT : TabA w 1 gains 8) (hG : Grows w) (m : List Int) (s : Bool) (hm : m.length = 101) (hg : goodM m = true) (p : List Int) (hp : p.length = 25) (hq : gudQ (prt p 1 8)) (hk2 : ¬ nth p 0 = 2) (vx : Value) (x : List Int) (hx : Ints w vx x) (xl : x.length = 80) (xr : rightB x = true) (m0 : List Int) (hm0 : (if nth p 0 = 1 then freL else m) = m0) :
    Calls Tryz.prog 24 #[memV m s, .agg (arrI p), vx] w (AnsC w (.agg (arrI (enU (nowL (prt p 1 8)) m0 x 0 ++ enU (nowL (prt p 1 8)) m0 x 1)))) := by
  have M0 := hide (ChoQ.new w m s p)
  obtain ⟨kd, hkd⟩ : ∃ kd, nth p 0 = kd := ⟨_, rfl⟩
  obtain ⟨now, hnow⟩ : ∃ now, nowL (prt p 1 8) = now := ⟨_, rfl⟩
  have nl : now.length = 8 := by rw [← hnow]; exact nowL_len _
  have ns : steadyB now = true := by rw [← hnow]; exact nowL_steady _ hq
  obtain ⟨f1, f2⟩ : m0.length = 101 ∧ goodM m0 = true := by
    rw [← hm0]
    split
    · exact ⟨freL_len, freL_good⟩
    · exact ⟨hm, hg⟩
  rw [hnow]
  have AH := hide (fun wr => codAhead_any m s kd hm wr)
  rw [show (if kd = 1 then freL else m) = m0 from by rw [← hkd]; exact hm0] at AH
  obtain ⟨s0, hs0⟩ : ∃ s0 : Bool, (if kd = 1 then false else s) = s0 := ⟨_, rfl⟩
  rw [hs0] at AH
  have VA := hide (fun wr (g : w.grownBy wr none) => Values_any (prt p 1 8) (prt_len _ _ _) wr (Wide_keep hW g))
  rw [(eachLev _ hq).1, (eachLev _ hq).2, hnow] at VA
  have PR := hide (fun wr => codPredictors_any (prt m0 0 8) now (prt_len _ _ _) nl (reflM_steady f2) ns wr)
  have IX' := hide (fun k (hk : k < 2) u => index_prd (prL (prt m0 0 8) now 2) (prL_len _ _ 2) k hk u)
  have IE := hide (fun k (hk : k < 2) => prL_part (prt m0 0 8) now k hk)
  have LL := hide (fun k => enM_len now x f1 k)
  have AL' := hide (fun k => prdP_len (prt m0 0 8) now k)
  have GU := fun k => enU_good x f1 f2 nl ns k
  have WD := fun k => enA_wide x f1 f2 nl ns k
  have NU := hide (show ∀ (k : Nat), k < 2 → ∀ wr, w.grownBy wr none → ∀ v, Ints wr v (prt x (40 * k) 40) → Calls Tryz.prog 43 #[memV (enM now m0 x k) s0, .agg (arrI (prdP (prt m0 0 8) now k)), v] wr (AnsC wr (.agg (arrI (enU now m0 x k)))) from fun k hk wr q v hv => by
    have c := codNumbers_any wr (TabA_keep hT q) (growsC_keep hG q) (enM now m0 x k) s0 (LL.out k) (enM_good x f1 f2 nl ns k) (enA now m0 x k) (WD k) v (prt x (40 * k) 40) hv (prt_len _ _ _) (by
      rw [rightB_iff, prt_len]
      intro i hi
      rw [prt_nth _ _ _ _ hi]
      exact right_nth xr _)
    rw [enA_eq now x f1 k] at c
    unfold enU
    rw [enA_eq now x f1 k]
    exact c)
  have SP := hide (show ∀ (k : Nat), k < 2 → ∀ wr, w.grownBy wr none → Calls Tryz.prog 44 #[memV (enM now m0 x k) s0, .agg (arrI (prdP (prt m0 0 8) now k)), .int .i64 kd, .agg (arrI (enU now m0 x k))] wr (MmL wr (enM now m0 x (k + 1)) s0 (hfL (prdP (prt m0 0 8) now k) false (enM now m0 x k) (enU now m0 x k))) from fun k hk wr q => by
    have c := codHalf_any (prdP (prt m0 0 8) now k) (enM now m0 x k) (enU now m0 x k) s0 kd (AL'.out k) (LL.out k) (enM_good x f1 f2 nl ns k) (GU k) wr (TabA_keep hT q) (growsC_keep hG q)
    rw [decide_eq_false (show ¬ kd = 2 by rw [← hkd]; exact hk2), enM_half now m0 x f1 k] at c
    exact c)
  have UL' := hide (fun k => (GU k).len)
  have HX := hide (fun wr (g : w.grownBy wr none) => Ints_keep hx g)
  obtain ⟨ax, cx, hvx⟩ := shp_pos hx (by omega)
  have XT := hide (fun k (hk : k < 2) wr (h : Ints wr (.slice (some ax) x.length cx) x) => slice_tail h (40 * k) (by omega))
  rw [← hvx] at XT
  clear hvx
  have XP := hide (fun k (hk : k < 2) => show (x.drop (40 * k)).take 40 = prt x (40 * k) 40 from prt_eq x (40 * k) 40 (by omega))
  have XL := hide xl
  have E0 := hide (show enM now m0 x 0 = m0 from rfl)
  have F := hide (show ∀ w', w.grownBy w' none → AnsC w (.agg (arrI (enU now m0 x 0 ++ enU now m0 x 1))) (.returned (.agg (arrI (prt (pksN p (enU now m0 x) 2) 9 16)))) w' from fun w' q => ⟨by rw [pksN_subs (enU now m0 x) hp (UL'.out 0) (UL'.out 1)], q⟩)
  have LP := hide (fun k => show (pksN p (enU now m0 x) k).length = 25 by rw [pksN_len]; exact hp)
  have KD := hide (fun k => show nth (pksN p (enU now m0 x) k) 0 = kd by rw [pksN_low _ hp 0 (by omega) k]; exact hkd)
  have ST := hide (fun k => show ovr (pksN p (enU now m0 x) k) (9 + 8 * k) (enU now m0 x k) = pksN p (enU now m0 x) (k + 1) from rfl)
  have PS := hide (fun k (hk : k < 2) => show ((intsV (pksN p (enU now m0 x) (k + 1))).drop (9 + 8 * k)).take 8 = intsV (enU now m0 x k) from by
    rw [ints_partC _ _ _ (by rw [LP.out]; omega), pksN_sub (enU now m0 x) hp k hk (UL'.out k)])
  have P9 := hide (ints_partC (pksN p (enU now m0 x) 2) 9 16 (by rw [LP.out]; omega))
  have E1 := hide (show pksN p (enU now m0 x) 0 = p from rfl)
  have NL := hide nl
  have HP := hide hp
  have HL := hide hm
  have HL0 := hide f1
  have CL := hide (memC_len hm s)
  have C0 := hide (memC_len f1 s0)
  have AL0 := hide (BlkM.all s hm)
  have PV := hide (ints_partC p 1 8 (by omega))
  have P0 := hide (BlkM.part (l := m0) s0 0 8 (by omega))
  have KD0 := hide hkd
  have hz := zero_mem
  have hz2 := zero_arr zSubs
  clear hg hm hp hq f1 f2 nl ns hnow hkd hm0 hs0 hW hT hG GU WD hk2 hx xr xl
  generalize AnsC w (.agg (arrI (enU now m0 x 0 ++ enU now m0 x 1))) = T at *
  generalize enM now m0 x = EM at *
  generalize enU now m0 x = U at *
  generalize prL (prt m0 0 8) now 2 = PRL at *
  unfold AnsC at AH PR NU
  unfold MmL at SP
  unfold memV at hz AH NU SP ⊢
  go_enter Tryz.func24, Tryz.ntmps24
  go_upto_region 1 with fail
  generalize ((w.alloc (.cells (memC m s).toArray 30)).alloc (.cells (arrI p) 59)).alloc (.cells (arrI (zeros 16)) 57) = W0 at *
  clear hz hz2
  have cp := (M0.out.2.1.cell 0).trans (ints_getC p 0 (by rw [HP.out]; omega))
  rw [KD0.out] at cp
  go_wp2_with (first | refine wpList_load_v rfl 30 _ rfl w.heap.size 0 102 rfl 30 (memC m s) M0.out.1 _ Tryz.underlying30 rfl size102 (by rw [CL.out]; omega) _ AL0.out ?_)
  refine (AH.out W0).mono ?_
  rintro e W1 ⟨rfl, g1⟩
  have M1 := hide (M0.out.keep g1)
  have MA := M1.out.all (m := m0) (t := s0) HL.out HL0.out
  have M2 := hide MA.1
  have I0 := hide (memC_one m0 s0)
  clear MA M0 g1 AH cp AL0
  go_upto_region 2 with (first | refine wpList_store_v rfl 30 _ _ rfl w.heap.size 0 30 (memC m s) (memC m0 s0) rfl rfl M1.out.1 (by rw [CL.out, C0.out]; omega) (by rw [C0.out]; exact size102) I0.out ?_)
  (try simp only [Act.put])
  clear M1 I0 CL
  generalize putV W1 w.heap.size 0 (memC m0 s0) = W2 at *
  go_wp2_with (first | refine wpList_load_v rfl 27 _ rfl (w.heap.size + 1) 1 8 rfl 59 (intsV p) M2.out.2.1 _ Tryz.underlying27 rfl size8 (by rw [intsV_len, HP.out]; omega) _ PV.out ?_)
  refine (VA.out _ M2.out.2.2.2).mono ?_
  rintro e W3 ⟨rfl, g3⟩
  obtain ⟨b1, b2, b3⟩ := fresh_arr W3 27 8 now NL.out
  have B1 := hide b1
  have B2 := hide b2
  have M3 := hide ((M2.out.keep g3).keep b3)
  have NB := hide (show w.heap.size + 1 + 1 + 1 ≤ W3.heap.size from (M2.out.keep g3).2.2.1.lt)
  rw [z8'] at B1 B2 M3
  clear g3 VA b1 b2 b3 M2 PV
  go_upto_region 3 with (first | refine wpList_store_arr rfl 27 _ _ rfl _ (zeros 8) now rfl rfl B1.out (by rw [NL.out, zeros_len]) (by rw [zeros_len]; exact size8) ?_)
  (try simp only [Act.put])
  clear B1
  generalize putArr _ W3.heap.size now = W4 at *
  generalize W3.heap.size = ba at *
  have PR1 := hide (PR.out W4)
  clear PR
  go_wp2_with (first | refine wpList_load_v rfl 27 _ rfl w.heap.size 0 8 rfl 30 (memC m0 s0) M3.out.1 _ Tryz.underlying27 rfl size8 (by rw [C0.out]; omega) _ P0.out ?_ | refine wpList_load_arr rfl 27 _ rfl _ rfl _ B2.out _ Tryz.underlying27 rfl (by rw [NL.out]; exact size8) ?_)
  refine PR1.out.mono ?_
  rintro e W6 ⟨rfl, g6⟩
  have M6 := hide (M3.out.keep g6)
  have B6 := hide (B2.out.keep g6)
  clear g6 PR1 M3 B2 P0
  go_wp2_with fail
  go_loopw [25] (fun i wr => ∃ k : Nat, i = .int .i64 (k : Int) ∧ k ≤ 2 ∧ Hid (ChoQ w (EM k) s0 (pksN p U k) wr) ∧ Hid (Blk wr ba 27 now)) (fun i _ => 2 - (intOf i).toNat)
  case atStart => exact ⟨0, rfl, Nat.zero_le _, by rw [E0.out, E1.out]; exact M6.out, B6.out⟩
  case round =>
    obtain ⟨k, rfl, hk, hM, hB⟩ := hrel
    clear M6 B6
    by_cases hkl : k < 2
    · have hk3 : (k : Int) < 2 := by omega
      have A1 := hide (BlkM.all s0 (LL.out k))
      have C1 := hide (memC_len (LL.out k) s0)
      have CK := hide (memC_len (LL.out (k + 1)) s0)
      have IK := hide (memC_one (EM (k + 1)) s0)
      have NU1 := hide (NU.out k hkl)
      have SP1 := hide (SP.out k hkl)
      have AL := hide (AL'.out k)
      have UL := hide (UL'.out k)
      have PU := hide (PS.out k hkl)
      have hix := IX'.out k hkl
      rw [IE.out k hkl] at hix
      have T1 := XT.out k hkl wr (HX.out wr hM.out.2.2.2)
      have XE := hide (XP.out k hkl)
      obtain ⟨vl1, hvl1⟩ : ∃ vl1, Value.slice (some (ax.add (40 * k))) (x.length - 40 * k) (cx - 40 * k) = vl1 := ⟨_, rfl⟩
      rw [hvl1] at T1
      have T2 := slice_head (W := wr) (a := ax.add (40 * k)) (c := cx - 40 * k) (l := x.drop (40 * k)) (by rw [List.length_drop, hvl1]; exact T1.2) 40 (by rw [List.length_drop, XL.out]; omega)
      rw [List.length_drop, hvl1, XE.out] at T2
      obtain ⟨vl2, hvl2⟩ : ∃ vl2, Value.slice (some (ax.add (40 * k))) 40 (cx - 40 * k) = vl2 := ⟨_, rfl⟩
      rw [hvl2] at T2
      have hs1 := T1.1
      rw [show ((40 * k : Nat) : Int) = 40 * (k : Int) by omega] at hs1
      have hs2 := T2.1
      rw [show ((40 : Nat) : Int) = 40 from rfl] at hs2
      have IS0 := hide T2.2
      have m40 : (k : Int) * 40 = 40 * (k : Int) := by omega
      have w40 := wrapI (40 * (k : Int)) (by omega) (by omega)
      clear T1 T2 XE XT XP NU SP AL' PS IX' IE F UL' HX hvl1 hvl2
      generalize hfL (prdP (prt m0 0 8) now k) false (EM k) (U k) = LX at *
      generalize prdP (prt m0 0 8) now k = AK at *
      obtain ⟨b1, b2, b3⟩ := fresh_arr wr 89 9 AK AL.out
      have B1 := hide b1
      have BA := hide b2
      have M1 := hide (hM.out.keep b3)
      have BN := hide (hB.out.keep b3)
      have IS := hide (Ints_keep IS0.out b3)
      have NQ := hide (show w.heap.size + 1 + 1 + 1 ≤ wr.heap.size from hM.out.2.2.1.lt)
      rw [z9'] at B1 BA M1 BN IS
      clear b1 b2 b3 hM hB IS0
      go_upto_region 6 with (first | refine wpList_store_arr rfl 89 _ _ rfl _ (zeros 9) AK rfl rfl B1.out (by rw [AL.out, zeros_len]) (by rw [zeros_len]; exact size9') ?_)
      (try simp only [Act.put])
      clear B1 hix
      generalize putArr _ wr.heap.size AK = wq at *
      generalize wr.heap.size = bq at *
      have hM := M1
      have hB := BN
      clear M1 BN
      refine wp_region_G 11 (GrownW wq) 12 (by rfl) #[false, false, false, false, false, false, false, false, false, false, false, false] (by rfl) (by kernel_rfl) (fun hcl => ?_)
      have hHeld := (gw_start wq)
      refine wpAnyG_take (i := 0) (v := ?vca0) rfl (by kernel_rfl) hcl (fun _ _ _ h => h) (Or.inl ⟨by rfl, ?yca0⟩) hHeld (fun hcl => ?rca0)
      case yca0 => (intro w' hSw; (try dsimp only at hSw); go_simp; (try with_reducible rfl))
      (try simp only [Act.put, sL])
      refine wpAnyG_take (i := 1) (v := .agg (memC (EM k) s0).toArray) rfl (by kernel_rfl) hcl (fun _ _ _ h => h) (Or.inl ⟨by rfl, ?yca1⟩) hHeld (fun hcl => ?rca1)
      case yca1 => (intro w' hSw; (try dsimp only at hSw); exact yields_load_v rfl rfl (hM.out.1.keep hSw) _ Tryz.underlying30 rfl size102 (by rw [C1.out]; omega) _ A1.out)
      (try simp only [Act.put, sL])
      refine wpAnyG_take (i := 2) (v := .agg (arrI AK)) rfl (by kernel_rfl) hcl (fun _ _ _ h => h) (Or.inl ⟨by rfl, ?yca2⟩) hHeld (fun hcl => ?rca2)
      case yca2 => (intro w' hSw; (try dsimp only at hSw); exact yields_load_arr rfl rfl (BA.out.keep hSw) _ Tryz.underlying89 rfl (by rw [AL.out]; exact size9'))
      (try simp only [Act.put, sL])
      refine wpAnyG_take (i := 3) (v := ?vca3) rfl (by kernel_rfl) hcl (fun _ _ _ h => h) (Or.inl ⟨by rfl, ?yca3⟩) hHeld (fun hcl => ?rca3)
      case yca3 => (intro w' hSw; (try dsimp only at hSw); go_simp; (try with_reducible rfl))
      (try simp only [Act.put, sL])
      refine wpAnyG_take (i := 4) (v := ?vca4) rfl (by kernel_rfl) hcl (fun _ _ _ h => h) (Or.inl ⟨by rfl, ?yca4⟩) hHeld (fun hcl => ?rca4)
      case yca4 => (intro w' hSw; (try dsimp only at hSw); go_simp; (try with_reducible rfl))
      (try simp only [Act.put, sL])
      refine wpAnyG_take (i := 5) (v := .int .i64 (40 * (k : Int))) rfl (by kernel_rfl) hcl (fun _ _ _ h => h) (Or.inl ⟨by rfl, ?yca5⟩) hHeld (fun hcl => ?rca5)
      case yca5 => (intro w' hSw; (try dsimp only at hSw); go_simp; (try simp only [m40, w40]); (try with_reducible rfl))
      (try simp only [Act.put, sL])
      refine wpAnyG_take (i := 6) (v := vl1) rfl (by kernel_rfl) hcl (fun _ _ _ h => h) (Or.inl ⟨by rfl, ?yca6⟩) hHeld (fun hcl => ?rca6)
      case yca6 => (intro w' hSw; (try dsimp only at hSw); go_simp; (try (rw [hs1]; rfl)))
      (try simp only [Act.put, sL])
      refine wpAnyG_take (i := 7) (v := vl2) rfl (by kernel_rfl) hcl (fun _ _ _ h => h) (Or.inl ⟨by rfl, ?yca7⟩) hHeld (fun hcl => ?rca7)
      case yca7 => (intro w' hSw; (try dsimp only at hSw); go_simp; (try (rw [hs2]; rfl)))
      (try simp only [Act.put, sL])
      refine wpAnyG_take (i := 9) (v := ?vca9) rfl (by kernel_rfl) hcl (fun _ _ _ h => h) (Or.inl ⟨by rfl, ?yca9⟩) hHeld (fun hcl => ?rca9)
      case yca9 => (intro w' hSw; (try dsimp only at hSw); go_simp; (try with_reducible rfl))
      (try simp only [Act.put, sL])
      refine wpAnyG_exec (i := 8) rfl (by kernel_rfl) hcl (fun K hK => ?_)
      (try simp only [Act.put, sL])
      go_simp
      refine (NU1.out _ (grown_none hM.out.2.2.2 hHeld) vl2 (Ints_keep IS.out hHeld)).mono ?_
      rintro e w2 ⟨rfl, q2⟩
      have Q2 := hide q2
      clear q2
      go_wp2_with fail
      have hNew := (gw_trans hHeld Q2.out)
      refine hK.out _ _ (fun _ => hNew) (fun hcl => ?_)
      clear hK
      replace hHeld := hNew
      clear hNew
      (try simp only [Act.put, sL])
      refine wpAnyG_take (i := 10) (v := .pointer (some ⟨w.heap.size + 1, 9 + 8 * k, none⟩)) rfl (by kernel_rfl) hcl (fun _ _ _ h => h) (Or.inl ⟨by rfl, ?yca10⟩) hHeld (fun hcl => ?rca10)
      case yca10 => (intro w' hSw; (try dsimp only at hSw); go_simp; (try simp only [Nat.mul_comm]); (try with_reducible rfl))
      (try simp only [Act.put, sL])
      refine wpAnyG_exec (i := 11) rfl (by kernel_rfl) hcl (fun K hK => ?_)
      (try simp only [Act.put, sL])
      have M2 := hide (hM.out.keep hHeld)
      have MA := M2.out.putP (9 + 8 * k) (U k) (by rw [UL.out, LP.out k]; omega)
      have M3 := hide MA.1
      rw [ST.out k] at M3
      have A3 := hide ((BA.out.keep hHeld).keepBut MA.2 (by have := NQ.out; omega))
      have B3 := hide ((hB.out.keep hHeld).keepBut MA.2 (by have := NB.out; omega))
      clear MA
      refine step_store_v rfl 56 _ _ rfl (w.heap.size + 1) (9 + 8 * k) 59 (intsV (pksN p U k)) (intsV (U k)) rfl rfl M2.out.2.1 (by rw [intsV_len, intsV_len, UL.out, LP.out k]; omega) (by rw [intsV_len, UL.out]; exact size8sub) (intsV_one _) ?_
      refine hK.out _ _ (fun h => by cases h) (fun hcl => ?_)
      clear hK hHeld
      (try simp only [Act.put, sL])
      clear M2 Q2 hM BA hB
      generalize putV w2 (w.heap.size + 1) (9 + 8 * k) (intsV (U k)) = w3 at *
      refine wpAnyG_of_any _ _ _ _ (by rfl) ?_
      refine wpAny_done (by kernel_rfl) ?_ _
      clear NU1 hs1 hs2 IS m40 w40
      go_upto_region 7 with fail
      refine wp_region_G 12 (GrownW w3) 13 (by rfl) #[false, false, false, false, false, false, false, false, false, false, false, false, false] (by rfl) (by kernel_rfl) (fun hcl => ?_)
      have hHeld := (gw_start w3)
      refine wpAnyG_take (i := 0) (v := .agg (memC (EM k) s0).toArray) rfl (by kernel_rfl) hcl (fun _ _ _ h => h) (Or.inl ⟨by rfl, ?ycb0⟩) hHeld (fun hcl => ?rcb0)
      case ycb0 => (intro w' hSw; (try dsimp only at hSw); exact yields_load_v rfl rfl (M3.out.1.keep hSw) _ Tryz.underlying30 rfl size102 (by rw [C1.out]; omega) _ A1.out)
      (try simp only [Act.put, sL])
      refine wpAnyG_take (i := 1) (v := .agg (arrI AK)) rfl (by kernel_rfl) hcl (fun _ _ _ h => h) (Or.inl ⟨by rfl, ?ycb1⟩) hHeld (fun hcl => ?rcb1)
      case ycb1 => (intro w' hSw; (try dsimp only at hSw); exact yields_load_arr rfl rfl (A3.out.keep hSw) _ Tryz.underlying89 rfl (by rw [AL.out]; exact size9'))
      (try simp only [Act.put, sL])
      refine wpAnyG_take (i := 2) (v := ?vcb2) rfl (by kernel_rfl) hcl (fun _ _ _ h => h) (Or.inl ⟨by rfl, ?ycb2⟩) hHeld (fun hcl => ?rcb2)
      case ycb2 => (intro w' hSw; (try dsimp only at hSw); go_simp; (try with_reducible rfl))
      (try simp only [Act.put, sL])
      refine wpAnyG_take (i := 3) (v := .int .i64 kd) rfl (by kernel_rfl) hcl (fun _ _ _ h => h) (Or.inl ⟨by rfl, ?ycb3⟩) hHeld (fun hcl => ?rcb3)
      case ycb3 => (intro w' hSw; (try dsimp only at hSw); have cc := ((M3.out.2.1.keep hSw).cell 0).trans (ints_getC (pksN p U (k + 1)) 0 (by rw [LP.out (k + 1)]; omega)); rw [KD.out (k + 1)] at cc; go_simp; (try with_reducible rfl))
      (try simp only [Act.put, sL])
      refine wpAnyG_take (i := 4) (v := ?vcb4) rfl (by kernel_rfl) hcl (fun _ _ _ h => h) (Or.inl ⟨by rfl, ?ycb4⟩) hHeld (fun hcl => ?rcb4)
      case ycb4 => (intro w' hSw; (try dsimp only at hSw); go_simp; (try with_reducible rfl))
      (try simp only [Act.put, sL])
      refine wpAnyG_take (i := 5) (v := ?vcb5) rfl (by kernel_rfl) hcl (fun _ _ _ h => h) (Or.inl ⟨by rfl, ?ycb5⟩) hHeld (fun hcl => ?rcb5)
      case ycb5 => (intro w' hSw; (try dsimp only at hSw); go_simp; (try with_reducible rfl))
      (try simp only [Act.put, sL])
      refine wpAnyG_take (i := 6) (v := .pointer (some ⟨w.heap.size + 1, 9 + 8 * k, none⟩)) rfl (by kernel_rfl) hcl (fun _ _ _ h => h) (Or.inl ⟨by rfl, ?ycb6⟩) hHeld (fun hcl => ?rcb6)
      case ycb6 => (intro w' hSw; (try dsimp only at hSw); go_simp; (try simp only [Nat.mul_comm]); (try with_reducible rfl))
      (try simp only [Act.put, sL])
      refine wpAnyG_take (i := 7) (v := .agg (intsV (U k)).toArray) rfl (by kernel_rfl) hcl (fun _ _ _ h => h) (Or.inl ⟨by rfl, ?ycb7⟩) hHeld (fun hcl => ?rcb7)
      case ycb7 => (intro w' hSw; (try dsimp only at hSw); exact yields_load_v rfl rfl (M3.out.2.1.keep hSw) _ Tryz.underlying56 rfl size8sub (by rw [intsV_len, LP.out (k + 1)]; omega) _ PU.out)
      (try simp only [Act.put, sL])
      refine wpAnyG_exec (i := 8) rfl (by kernel_rfl) hcl (fun K hK => ?_)
      (try simp only [Act.put, sL])
      go_simp
      refine (SP1.out _ (grown_none M3.out.2.2.2 hHeld)).mono ?_
      rintro e w4 ⟨v4, rfl, _, q4⟩
      have Q4 := hide q4
      clear q4
      (try unfold memV)
      go_wp2_with fail
      have hNew := (gw_trans hHeld Q4.out)
      refine hK.out _ _ (fun _ => hNew) (fun hcl => ?_)
      clear hK
      replace hHeld := hNew
      clear hNew
      (try simp only [Act.put, sL])
      refine wpAnyG_take (i := 9) (v := ?vcb9) rfl (by kernel_rfl) hcl (fun _ _ _ h => h) (Or.inl ⟨by rfl, ?ycb9⟩) hHeld (fun hcl => ?rcb9)
      case ycb9 => (intro w' hSw; (try dsimp only at hSw); go_simp; (try with_reducible rfl))
      (try simp only [Act.put, sL])
      refine wpAnyG_take (i := 10) (v := ?vcb10) rfl (by kernel_rfl) hcl (fun _ _ _ h => h) (Or.inl ⟨by rfl, ?ycb10⟩) hHeld (fun hcl => ?rcb10)
      case ycb10 => (intro w' hSw; (try dsimp only at hSw); go_simp; (try with_reducible rfl))
      (try simp only [Act.put, sL])
      refine wpAnyG_takeF (i := 11) (v := ?vcb11) rfl (by kernel_rfl) hcl (fun _ _ _ h => h) (Or.inl ⟨by rfl, ?ycb11⟩) hHeld (fun hcl => ?rcb11)
      case ycb11 => (intro w' _; go_simp; (try with_reducible rfl))
      (try simp only [Act.put, sL])
      refine wpAnyG_exec (i := 12) rfl (by kernel_rfl) hcl (fun K hK => ?_)
      (try simp only [Act.put, sL])
      have M4 := hide (M3.out.keep hHeld)
      have MA := M4.out.all (m := EM (k + 1)) (t := s0) (LL.out k) (LL.out (k + 1))
      have M5 := hide MA.1
      have B5 := hide ((B3.out.keep hHeld).keepBut MA.2 (by have := NB.out; omega))
      clear MA
      refine step_store_v rfl 30 _ _ rfl w.heap.size 0 30 (memC (EM k) s0) (memC (EM (k + 1)) s0) rfl rfl M4.out.1 (by rw [C1.out, CK.out]; omega) (by rw [CK.out]; exact size102) IK.out ?_
      refine hK.out _ _ (fun h => by cases h) (fun hcl => ?_)
      clear hK hHeld
      (try simp only [Act.put, sL])
      clear M4 Q4 M3 B3 A3
      generalize putV w4 w.heap.size 0 (memC (EM (k + 1)) s0) = w5 at *
      refine wpAnyG_of_any _ _ _ _ (by rfl) ?_
      refine wpAny_done (by kernel_rfl) ?_ _
      clear A1 C1 SP1 PU hkl
      go_wp2_with fail
      go_roundw
      case rel => exact ⟨k + 1, by go_num, by omega, M5.out, B5.out⟩
      case measure => simp [intOf]; omega
    · obtain rfl : k = 2 := by omega
      have L2 := hide (LP.out 2)
      clear NU SP XT XP PS AL' IX' IE ST KD LP
      generalize pksN p U 2 = P2 at *
      have PL := hide (prt_len P2 9 16)
      generalize prt P2 9 16 = SS at *
      have I_ := hide (intsV_one SS)
      have IL := hide (show (intsV SS).length = 16 by rw [intsV_len]; exact PL.out)
      have IZ := hide (show (intsV (zeros 16)).length = 16 by rw [intsV_len]; exact zeros_len 16)
      have PU := put_v hM.out.2.2.1 0 (intsV SS) (by rw [IL.out, IZ.out]; omega)
      rw [splV_all _ _ (by rw [IL.out, IZ.out])] at PU
      have PB := hide PU
      have FF := hide (F.out _ (grown_own hM.out.2.2.2 PU.2 (by omega)))
      rw [show arrI SS = (intsV SS).toArray from rfl] at FF
      clear PU F
      go_wp2_with (first | refine wpList_load_v rfl 57 _ rfl (w.heap.size + 1) 9 16 rfl 59 (intsV P2) hM.out.2.1 _ Tryz.underlying57 rfl size16s (by rw [intsV_len, L2.out]; omega) _ P9.out ?_ | refine wpList_store_v rfl 57 _ _ rfl (w.heap.size + 1 + 1) 0 57 (intsV (zeros 16)) (intsV SS) rfl rfl hM.out.2.2.1 (by rw [IL.out, IZ.out]; omega) (by rw [IL.out]; exact size16s) I_.out ?_)
      have hlv := loadVar_v PB.out.1 _ Tryz.underlying57 rfl (by rw [IL.out]; exact size16s)
      refine bodyPost_ret (v := .agg (intsV SS).toArray) ?_ rfl FF.out
      simp [results, Tryz.results24, asAddr, Act.put, hlv]
end Go.Proofs.YtihphpcgjeokmaaGreatDoor
