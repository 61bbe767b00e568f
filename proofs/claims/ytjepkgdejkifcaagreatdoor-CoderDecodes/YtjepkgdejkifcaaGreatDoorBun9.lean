/- Texts put together: RefPly, LCdD. -/
import Derived.Test.YtjepkgdejkifcaaGreatDoorBun2
import Derived.Test.YtjepkgdejkifcaaGreatDoorBun8
import Derived.BigQuiet
import Derived.Deep.QuietTactic
import Derived.Test.YtjepkgdejkifcaaGreatDoorBun7
import Derived.Test.YtjepkgdejkifcaaGreatDoorBun6
/- RefPly -/
namespace Go.Proofs.YtjepkgdejkifcaaGreatDoor
open Go.RowKit
set_option linter.unusedVariables false
set_option linter.unusedSimpArgs false
set_option maxHeartbeats 4000000
theorem blk_ownP {wr wr' : World} {b : Nat} {T : TypeId} {a : List Int} {r : Option Nat} (h : Blk wr b T a) (g : wr.grownBy wr' r) (hr : ∀ x, r = some x → b ≠ x) : Blk wr' b T a := by
  rcases r with _ | x
  · exact h.keep g
  · exact h.keepBut g (hr x rfl)
theorem size8y : (Tryz.prog.info? 35).map (·.size) = some 8 := by kernel_rfl
set_option maxRecDepth 100000 in
theorem refPlay_v (w : World) (a0 : Addr) (c0 : Nat) (hW : WideR w a0 c0) (a1 : Addr) (c1 : Nat) (hS : Steps w a1 c1) (a2 : Addr) (c2 : Nat) (hG : GainR w a2 c2) (l : List Int) (s : Bool) (hl : l.length = 101) (hg : goodM l = true) (p : List Int) (hp : p.length = 25) (gp : gudP p = true) (hk : nth p 0 = 0) :
    Calls Tryz.prog 35 #[memV l s, .agg (arrI p)] w (MemL w (plyM l p) (plyS p) (plyL l p)) := by
  have M0 := hide (PlQ.new w l s p)
  obtain ⟨l0, hl0⟩ : ∃ l0, plF l p = l0 := ⟨_, rfl⟩
  obtain ⟨f1, f2⟩ := plF_good (p := p) hl hg
  rw [hl0] at f1 f2
  obtain ⟨now, hnow⟩ : ∃ now, vlL p = now := ⟨_, rfl⟩
  have nl : now.length = 8 := by rw [← hnow]; exact vlL_len p
  have ns : steadyB now = true := by rw [← hnow]; exact vlL_steady p gp
  obtain ⟨sil, hsil⟩ : ∃ sil, plyS p = sil := ⟨_, rfl⟩
  have es : sil = false := by rw [← hsil]; unfold plyS; exact decide_eq_false (by omega)
  have VA := hide (fun wr (g : w.grownBy wr none) => refValues_any (prt p 1 8) (prt_len _ _ _) a0 c0 wr (WideR_keep hW g))
  rw [(vals_eq gp).1, (vals_eq gp).2, hnow] at VA
  obtain ⟨s0, hs0⟩ : ∃ s0 : Bool, s = s0 := ⟨_, rfl⟩
  have LL := hide (fun k => plM_len sil now p f1 k)
  have LG : ∀ k, k ≤ 2 → goodM (plM sil now l0 p k) = true := fun k hk => plM_good sil f1 f2 nl ns gp k hk
  have OL := hide (fun k (hk : k ≤ 2) => (plO_right sil f1 f2 nl ns gp k hk).1)
  have SP := hide (show ∀ (k : Nat), k < 2 → ∀ wr, w.grownBy wr none → Calls Tryz.prog 56 #[memV (plM sil now l0 p k) s0, .agg (arrI (subL p k))] wr (MemL wr (plP sil (plM sil now l0 p k) (subL p k)) s0 (plX sil (plM sil now l0 p k) (subL p k))) from fun k hk wr q => by
    have g := LG k (by omega)
    have c := refSpoken_any wr a1 c1 (Steps_keep hS q) a2 c2 (GainR_keep hG q) (plM sil now l0 p k) s0 (LL.out k) (good_64 (LL.out k) g) (subL p k) (subL_good p gp k hk)
    rw [es] at c ⊢
    rw [plP_f, plX_f]
    exact c)
  have PKL' := hide (fun k => plP_len sil (LL.out k) (subL p k))
  have XL := hide (fun k (hk : k < 2) => (plX_right sil (LG k (by omega)) (subL_good p gp k hk)).1)
  have PR' := hide (fun (k : Nat) wr => refPrd_any (prt (plP sil (plM sil now l0 p k) (subL p k)) 0 8) now (prt_len _ _ _) nl k wr)
  have AL := hide (fun k (hk : k < 2) => (prdP_wide (prt (plP sil (plM sil now l0 p k) (subL p k)) 0 8) now k (prt_len _ _ _) nl (reflM_steady (plP_good sil (LL.out k) (LG k (by omega)) (subL_good p gp k hk))) ns).len)
  have MK' := hide (fun (k : Nat) (hk : k < 2) v wr (h : Ints wr v (plX sil (plM sil now l0 p k) (subL p k))) (sh : Shp v (plX sil (plM sil now l0 p k) (subL p k))) => refMake_any (prdP (prt (plP sil (plM sil now l0 p k) (subL p k)) 0 8) now k) (prt (plP sil (plM sil now l0 p k) (subL p k)) 8 8) (AL.out k hk) (prt_len _ _ _) v (plX sil (plM sil now l0 p k) (subL p k)) wr h sh (by rw [XL.out k hk]; omega))
  have SN := hide (fun (k : Nat) (hk : k < 2) => show (mkL (prdP (prt (plP sil (plM sil now l0 p k) (subL p k)) 0 8) now k) (prt (plP sil (plM sil now l0 p k) (subL p k)) 8 8) (plX sil (plM sil now l0 p k) (subL p k))).length ≤ 40 by
    have := mkL_le (prdP (prt (plP sil (plM sil now l0 p k) (subL p k)) 0 8) now k) (prt (plP sil (plM sil now l0 p k) (subL p k)) 8 8) (plX sil (plM sil now l0 p k) (subL p k))
    rw [XL.out k hk] at this
    exact this)
  have S1 := hide (fun (k : Nat) => show ovr (plP sil (plM sil now l0 p k) (subL p k)) 8 (mkP (prdP (prt (plP sil (plM sil now l0 p k) (subL p k)) 0 8) now k) (prt (plP sil (plM sil now l0 p k) (subL p k)) 8 8) (plX sil (plM sil now l0 p k) (subL p k))) = plM sil now l0 p (k + 1) from rfl)
  have S2 := hide (fun (k : Nat) => show plO sil now l0 p k ++ mkL (prdP (prt (plP sil (plM sil now l0 p k) (subL p k)) 0 8) now k) (prt (plP sil (plM sil now l0 p k) (subL p k)) 8 8) (plX sil (plM sil now l0 p k) (subL p k)) = plO sil now l0 p (k + 1) from rfl)
  have E0 := hide (show plM sil now l0 p 0 = l0 from rfl)
  have E1 := hide (show plO sil now l0 p 0 = [] from rfl)
  have F := hide (show ∀ v' w', Own w.heap.size w' v' (plO sil now l0 p 2) → w.grownBy w' none → MemL w (plyM l p) (plyS p) (plyL l p) (.returned (.tuple #[memV ((ovr (plM sil now l0 p 2) 0 now).set 99 0) sil, v'])) w' from fun v' w' o q =>
    ⟨v', by unfold plyM; rw [hsil, hnow, hl0], by unfold plyL; rw [hsil, hnow, hl0]; exact o, q⟩)
  have FR := hide (fun u => refFresh_any u)
  have NL := hide nl
  have HP := hide hp
  have HL := hide hl
  have HL0 := hide (show l0 = l from by rw [← hl0]; exact if_neg (by omega))
  have CL := hide (memC_len hl s)
  have PS := hide (fun k (hk : k < 2) => intsV_partP p (9 + 8 * k) 8 (by omega))
  have PV := hide (intsV_partP p 1 8 (by omega))
  have ZL := hide (memC_len (zeros_len 101) false)
  have hz := zero_mem
  obtain ⟨kd, hkd⟩ : ∃ kd, nth p 0 = kd := ⟨_, rfl⟩
  have hk1 : (kd == 1) = false := by rw [← hkd]; exact beq_eq_false_iff_ne.2 (by omega)
  have hk2 : (kd == 2) = sil := by rw [es, ← hkd]; exact beq_eq_false_iff_ne.2 (by omega)
  have KD := hide hkd
  have HS0 := hide hs0
  have ES := hide es
  clear es
  clear hg hl gp hp f1 f2 nl ns hnow hsil hkd hW hS hG LG hl0 hk hs0
  generalize MemL w (plyM l p) (plyS p) (plyL l p) = T at *
  generalize plM sil now l0 p = LM at *
  generalize plO sil now l0 p = LO at *
  unfold memV at hz F SP FR ⊢
  unfold AnsC at FR
  go_enter Tryz.func35, Tryz.ntmps35
  go_upto_region 1 with fail
  generalize ((w.alloc (.cells (memC l s).toArray 25)).alloc (.cells (arrI p) 38)).alloc (.cells (memC (zeros 101) false).toArray 25) = W0 at *
  clear hz
  have cp := M0.out.num 0 (by rw [HP.out]; omega)
  rw [KD.out] at cp
  go_upto_region 3 with fail
  have M2 := hide (show PlQ w l0 s0 p W0 from by rw [HL0.out, ← HS0.out]; exact M0.out)
  clear M0
  clear cp
  go_wp2_with (first | refine wpList_load_v rfl 22 _ rfl (w.heap.size + 1) 1 8 rfl 38 (intsV p) M2.out.2.1 _ Tryz.underlying22 rfl size8 (by rw [intsV_len, HP.out]; omega) _ PV.out ?_)
  refine (VA.out _ M2.out.2.2.2).mono ?_
  rintro e W3 ⟨rfl, g3⟩
  obtain ⟨b1, b2, b3⟩ := fresh_arr W3 22 8 now NL.out
  have B1 := hide b1
  have B2 := hide b2
  have M3 := hide ((M2.out.keep g3).keep b3)
  have NB := hide (show w.heap.size + 1 + 1 + 1 ≤ W3.heap.size from (M2.out.keep g3).2.2.1.lt)
  rw [z8'] at B1 B2 M3
  clear g3 VA b1 b2 b3 M2 PV
  go_upto_region 4 with (first | refine wpList_store_arr rfl 22 _ _ rfl _ (zeros 8) now rfl rfl B1.out (by rw [NL.out, zeros_len]) (by rw [zeros_len]; exact size8) ?_)
  clear B1
  generalize putArr _ W3.heap.size now = W4 at *
  generalize W3.heap.size = ba at *
  have N4 := hide (show ba + 1 ≤ W4.heap.size from B2.out.lt)
  go_wp2_with fail
  go_loopw [8, 9] (fun va i wr => ∃ k : Nat, i = .int .i64 k ∧ k ≤ 2 ∧ Hid (Own (ba + 1) wr va (LO k)) ∧ Hid (PlQ w (LM k) s0 p wr) ∧ Hid (Blk wr ba 22 now) ∧ Hid (ba + 1 ≤ wr.heap.size)) (fun _ i _ => 2 - (intOf i).toNat)
  case atStart => exact ⟨0, rfl, Nat.zero_le _, by rw [E1.out]; exact Own_nil _ _, by rw [E0.out]; exact M3.out, B2.out, N4.out⟩
  case round =>
    obtain ⟨k, rfl, hk, hO, hM, hB, hN⟩ := hrel
    clear M3 B2 N4
    by_cases hkl : k < 2
    · have hk2' : (k : Int) < 2 := by omega
      have hkb : (kd == 2) = false := by rw [hk2, ES.out]
      clear hk2
      have A1 := hide (BlkM.all s0 (LL.out k))
      have C1 := hide (memC_len (LL.out k) s0)
      have cp := hM.out.num 0 (by rw [HP.out]; omega)
      rw [KD.out] at cp
      have PKL := hide (PKL'.out k)
      have PR := hide (PR'.out k)
      have MK := hide (MK'.out k hkl)
      have Q1 := hide (S1.out k)
      have Q2 := hide (S2.out k)
      have OK := hide (OL.out k hk)
      have SK := hide (SN.out k hkl)
      have SP1 := hide (SP.out k hkl)
      have PU := hide (PS.out k hkl)
      rw [show prt p (9 + 8 * k) 8 = subL p k from rfl] at PU
      clear PKL' PR' MK' S1 S2 OL SN SP PS AL XL FR F
      have PPL := hide (mkP_len (prdP (prt (plP sil (LM k) (subL p k)) 0 8) now k) (prt (plP sil (LM k) (subL p k)) 8 8) (plX sil (LM k) (subL p k)))
      generalize mkP (prdP (prt (plP sil (LM k) (subL p k)) 0 8) now k) (prt (plP sil (LM k) (subL p k)) 8 8) (plX sil (LM k) (subL p k)) = PP at *
      generalize mkL (prdP (prt (plP sil (LM k) (subL p k)) 0 8) now k) (prt (plP sil (LM k) (subL p k)) 8 8) (plX sil (LM k) (subL p k)) = LX at *
      generalize fiE (prdP (prt (plP sil (LM k) (subL p k)) 0 8) now k) (prt (plP sil (LM k) (subL p k)) 8 8) (plX sil (LM k) (subL p k)) = x3 at *
      generalize prdP (prt (plP sil (LM k) (subL p k)) 0 8) now k = AK at *
      generalize plX sil (LM k) (subL p k) = XK at *
      generalize plP sil (LM k) (subL p k) = PK at *
      have CK := hide (memC_len PKL.out s0)
      have IK := hide (memC_one PK s0)
      have P0 := hide (BlkM.part (l := PK) s0 0 8 (by rw [PKL.out]; omega))
      have P8 := hide (BlkM.part (l := PK) s0 8 8 (by rw [PKL.out]; omega))
      replace SP1 := hide (fun u (h : GrownW wr u) => SP1.out u (grown_none hM.out.2.2.2 h))
      go_upto_region 11 with fail
      clear cp
      refine wp_region_G 9 (GrownW wr) 11 (by rfl) #[false, false, false, false, false, false, false, false, false, false, false] (by rfl) (by kernel_rfl) (fun hcl => ?_)
      have hHeld := (gw_start wr)
      refine wpAnyG_take (i := 0) (v := .agg (memC (LM k) s0).toArray) rfl (by kernel_rfl) hcl (fun _ _ _ h => h) (Or.inl ⟨by rfl, ?ypa0⟩) hHeld (fun hcl => ?rpa0)
      case ypa0 => (intro w' hSw; (try dsimp only at hSw); exact yields_load_v rfl rfl (hM.out.1.keep hSw) _ Tryz.underlying25 rfl size102 (by rw [C1.out]; omega) _ A1.out)
      (try simp only [Act.put, sL])
      refine wpAnyG_take (i := 1) (v := ?vpa1) rfl (by kernel_rfl) hcl (fun _ _ _ h => h) (Or.inl ⟨by rfl, ?ypa1⟩) hHeld (fun hcl => ?rpa1)
      case ypa1 => (intro w' hSw; (try dsimp only at hSw); go_simp; (try with_reducible rfl))
      (try simp only [Act.put, sL])
      refine wpAnyG_take (i := 2) (v := ?vpa2) rfl (by kernel_rfl) hcl (fun _ _ _ h => h) (Or.inl ⟨by rfl, ?ypa2⟩) hHeld (fun hcl => ?rpa2)
      case ypa2 => (intro w' hSw; (try dsimp only at hSw); go_simp; (try with_reducible rfl))
      (try simp only [Act.put, sL])
      refine wpAnyG_take (i := 3) (v := .pointer (some ⟨w.heap.size + 1, 9 + 8 * k, none⟩)) rfl (by kernel_rfl) hcl (fun _ _ _ h => h) (Or.inl ⟨by rfl, ?ypa3⟩) hHeld (fun hcl => ?rpa3)
      case ypa3 => (intro w' hSw; (try dsimp only at hSw); go_simp; (try simp only [Nat.mul_comm]); (try with_reducible rfl))
      (try simp only [Act.put, sL])
      refine wpAnyG_take (i := 4) (v := .agg (intsV (subL p k)).toArray) rfl (by kernel_rfl) hcl (fun _ _ _ h => h) (Or.inl ⟨by rfl, ?ypa4⟩) hHeld (fun hcl => ?rpa4)
      case ypa4 => (intro w' hSw; (try dsimp only at hSw); exact yields_load_v rfl rfl (hM.out.2.1.keep hSw) _ Tryz.underlying35 rfl size8y (by rw [intsV_len, HP.out]; omega) _ PU.out)
      (try simp only [Act.put, sL])
      refine wpAnyG_exec (i := 5) rfl (by kernel_rfl) hcl (fun K hK => ?_)
      (try simp only [Act.put, sL])
      go_simp
      refine (SP1.out _ hHeld).mono ?_
      rintro e w2 ⟨v2, rfl, o2, q2⟩
      have Q2 := hide q2
      have X2 := hide (o2.base (Nat.le_trans hN.out hHeld.size))
      clear q2 o2
      unfold memV
      go_wp2_with fail
      have hNew := (gw_trans hHeld Q2.out)
      refine hK.out _ _ (fun _ => hNew) (fun hcl => ?_)
      clear hK
      replace hHeld := hNew
      clear hNew
      (try simp only [Act.put, sL])
      refine wpAnyG_take (i := 6) (v := ?vpa6) rfl (by kernel_rfl) hcl (fun _ _ _ h => h) (Or.inl ⟨by rfl, ?ypa6⟩) hHeld (fun hcl => ?rpa6)
      case ypa6 => (intro w' hSw; (try dsimp only at hSw); go_simp; (try with_reducible rfl))
      (try simp only [Act.put, sL])
      refine wpAnyG_take (i := 7) (v := ?vpa7) rfl (by kernel_rfl) hcl (fun _ _ _ h => h) (Or.inl ⟨by rfl, ?ypa7⟩) hHeld (fun hcl => ?rpa7)
      case ypa7 => (intro w' hSw; (try dsimp only at hSw); go_simp; (try with_reducible rfl))
      (try simp only [Act.put, sL])
      refine wpAnyG_takeF (i := 8) (v := ?vpa8) rfl (by kernel_rfl) hcl (fun _ _ _ h => h) (Or.inl ⟨by rfl, ?ypa8⟩) hHeld (fun hcl => ?rpa8)
      case ypa8 => (intro w' _; go_simp; (try with_reducible rfl))
      (try simp only [Act.put, sL])
      refine wpAnyG_exec (i := 9) rfl (by kernel_rfl) hcl (fun K hK => ?_)
      (try simp only [Act.put, sL])
      have M2 := hide (hM.out.keep hHeld)
      have MA := M2.out.all (m := PK) (t := s0) (LL.out k) PKL.out
      have M3 := hide MA.1
      have O3 := hide ((hO.out.keep hHeld).keepLt MA.2 (by have := NB.out; omega))
      have X3 := hide (X2.out.keepLt MA.2 (by have := NB.out; omega))
      have B3 := hide ((hB.out.keep hHeld).keepBut MA.2 (by have := NB.out; omega))
      have N3 := hide (Nat.le_trans (Nat.le_trans hN.out hHeld.size) MA.2.size)
      clear MA X2
      refine step_store_v rfl 25 _ _ rfl w.heap.size 0 25 (memC (LM k) s0) (memC PK s0) rfl rfl M2.out.1 (by rw [C1.out, CK.out]; omega) (by rw [CK.out]; exact size102) IK.out ?_
      refine hK.out _ _ (fun h => by cases h) (fun hcl => ?_)
      clear hK hHeld
      (try simp only [Act.put, sL])
      clear M2 Q2 hM hO hB
      generalize putV w2 w.heap.size 0 (memC PK s0) = w3 at *
      refine wpAnyG_of_any _ _ _ _ (by rfl) ?_
      refine wpAny_take (i := 10) (v := ?vpa10) rfl (by kernel_rfl) (by kernel_rfl) (by kernel_rfl) (fun _ _ _ h => h) (Or.inl ⟨by rfl, ?ypa10⟩) ?rpa10
      case ypa10 => (intro w'; go_simp; (try with_reducible rfl))
      (try simp only [Act.put, sL])
      refine wpAny_done (by kernel_rfl) ?_ _
      clear A1 C1 SP1 PU
      go_upto_region 12 with fail
      refine wp_region_G 15 (GrownW w3) 16 (by rfl) #[false, false, false, false, false, false, false, false, false, false, false, false, false, false, false, false] (by rfl) (by kernel_rfl) (fun hcl => ?_)
      have hHeld := (gw_start w3)
      refine wpAnyG_take (i := 0) (v := ?vpb0) rfl (by kernel_rfl) hcl (fun _ _ _ h => h) (Or.inl ⟨by rfl, ?ypb0⟩) hHeld (fun hcl => ?rpb0)
      case ypb0 => (intro w' hSw; (try dsimp only at hSw); go_simp; (try with_reducible rfl))
      (try simp only [Act.put, sL])
      refine wpAnyG_take (i := 1) (v := .agg (intsV (prt PK 0 8)).toArray) rfl (by kernel_rfl) hcl (fun _ _ _ h => h) (Or.inl ⟨by rfl, ?ypb1⟩) hHeld (fun hcl => ?rpb1)
      case ypb1 => (intro w' hSw; (try dsimp only at hSw); exact yields_load_v rfl rfl (M3.out.1.keep hSw) _ Tryz.underlying22 rfl size8 (by rw [CK.out]; omega) _ P0.out)
      (try simp only [Act.put, sL])
      refine wpAnyG_take (i := 2) (v := .agg (arrI now)) rfl (by kernel_rfl) hcl (fun _ _ _ h => h) (Or.inl ⟨by rfl, ?ypb2⟩) hHeld (fun hcl => ?rpb2)
      case ypb2 => (intro w' hSw; (try dsimp only at hSw); exact yields_load_arr rfl rfl (B3.out.keep hSw) _ Tryz.underlying22 rfl (by rw [NL.out]; exact size8))
      (try simp only [Act.put, sL])
      refine wpAnyG_take (i := 3) (v := ?vpb3) rfl (by kernel_rfl) hcl (fun _ _ _ h => h) (Or.inl ⟨by rfl, ?ypb3⟩) hHeld (fun hcl => ?rpb3)
      case ypb3 => (intro w' hSw; (try dsimp only at hSw); go_simp; (try with_reducible rfl))
      (try simp only [Act.put, sL])
      refine wpAnyG_take (i := 5) (v := ?vpb5) rfl (by kernel_rfl) hcl (fun _ _ _ h => h) (Or.inl ⟨by rfl, ?ypb5⟩) hHeld (fun hcl => ?rpb5)
      case ypb5 => (intro w' hSw; (try dsimp only at hSw); go_simp; (try with_reducible rfl))
      (try simp only [Act.put, sL])
      refine wpAnyG_take (i := 6) (v := .agg (intsV (prt PK 8 8)).toArray) rfl (by kernel_rfl) hcl (fun _ _ _ h => h) (Or.inl ⟨by rfl, ?ypb6⟩) hHeld (fun hcl => ?rpb6)
      case ypb6 => (intro w' hSw; (try dsimp only at hSw); exact yields_load_v rfl rfl (M3.out.1.keep hSw) _ Tryz.underlying22 rfl size8 (by rw [CK.out]; omega) _ P8.out)
      (try simp only [Act.put, sL])
      refine wpAnyG_take (i := 7) (v := ?vpb7) rfl (by kernel_rfl) hcl (fun _ _ _ h => h) (Or.inl ⟨by rfl, ?ypb7⟩) hHeld (fun hcl => ?rpb7)
      case ypb7 => (intro w' hSw; (try dsimp only at hSw); go_simp; (try with_reducible rfl))
      (try simp only [Act.put, sL])
      refine wpAnyG_exec (i := 4) rfl (by kernel_rfl) hcl (fun K hK => ?_)
      (try simp only [Act.put, sL])
      go_simp
      refine (PR.out _).mono ?_
      rintro e w4 ⟨rfl, q4⟩
      have Q4 := hide q4
      clear q4
      go_wp2_with fail
      have hNew := (gw_trans hHeld Q4.out)
      refine hK.out _ _ (fun _ => hNew) (fun hcl => ?_)
      clear hK
      replace hHeld := hNew
      clear hNew
      (try simp only [Act.put, sL])
      refine wpAnyG_exec (i := 8) rfl (by kernel_rfl) hcl (fun K hK => ?_)
      (try simp only [Act.put, sL])
      go_simp
      refine (MK.out v2 _ (X3.out.keep hHeld).ints (X3.out.keep hHeld).shp).mono ?_
      rintro e w5 ⟨v5, rfl, o5, q5⟩
      have Q5 := hide q5
      have X5 := hide (o5.base (Nat.le_trans N3.out hHeld.size))
      clear q5 o5
      go_wp2_with fail
      have hNew := (gw_trans hHeld Q5.out)
      refine hK.out _ _ (fun _ => hNew) (fun hcl => ?_)
      clear hK
      replace hHeld := hNew
      clear hNew
      (try simp only [Act.put, sL])
      refine wpAnyG_take (i := 9) (v := ?vpb9) rfl (by kernel_rfl) hcl (fun _ _ _ h => h) (Or.inl ⟨by rfl, ?ypb9⟩) hHeld (fun hcl => ?rpb9)
      case ypb9 => (intro w' hSw; (try dsimp only at hSw); go_simp; (try with_reducible rfl))
      (try simp only [Act.put, sL])
      refine wpAnyG_take (i := 10) (v := ?vpb10) rfl (by kernel_rfl) hcl (fun _ _ _ h => h) (Or.inl ⟨by rfl, ?ypb10⟩) hHeld (fun hcl => ?rpb10)
      case ypb10 => (intro w' hSw; (try dsimp only at hSw); go_simp; (try with_reducible rfl))
      (try simp only [Act.put, sL])
      refine wpAnyG_take (i := 11) (v := ?vpb11) rfl (by kernel_rfl) hcl (fun _ _ _ h => h) (Or.inl ⟨by rfl, ?ypb11⟩) hHeld (fun hcl => ?rpb11)
      case ypb11 => (intro w' hSw; (try dsimp only at hSw); go_simp; (try with_reducible rfl))
      (try simp only [Act.put, sL])
      refine wpAnyG_takeF (i := 12) (v := ?vpb12) rfl (by kernel_rfl) hcl (fun _ _ _ h => h) (Or.inl ⟨by rfl, ?ypb12⟩) hHeld (fun hcl => ?rpb12)
      case ypb12 => (intro w' _; go_simp; (try with_reducible rfl))
      (try simp only [Act.put, sL])
      refine wpAnyG_take (i := 13) (v := ?vpb13) rfl (by kernel_rfl) hcl (fun _ _ _ h => h) (Or.inl ⟨by rfl, ?ypb13⟩) hHeld (fun hcl => ?rpb13)
      case ypb13 => (intro w' hSw; (try dsimp only at hSw); go_simp; (try with_reducible rfl))
      (try simp only [Act.put, sL])
      refine wpAnyG_take (i := 14) (v := ?vpb14) rfl (by kernel_rfl) hcl (fun _ _ _ h => h) (Or.inl ⟨by rfl, ?ypb14⟩) hHeld (fun hcl => ?rpb14)
      case ypb14 => (intro w' hSw; (try dsimp only at hSw); go_simp; (try with_reducible rfl))
      (try simp only [Act.put, sL])
      refine wpAnyG_exec (i := 15) rfl (by kernel_rfl) hcl (fun K hK => ?_)
      (try simp only [Act.put, sL])
      have M5 := hide (M3.out.keep hHeld)
      have MA := M5.out.put 8 PP (by rw [PPL.out, PKL.out]; omega)
      have M6 := hide MA.1
      have O6 := hide ((O3.out.keep hHeld).keepLt MA.2 (by have := NB.out; omega))
      have X6 := hide (X5.out.keepLt MA.2 (by have := NB.out; omega))
      have B6 := hide ((B3.out.keep hHeld).keepBut MA.2 (by have := NB.out; omega))
      have N6 := hide (Nat.le_trans (Nat.le_trans N3.out hHeld.size) MA.2.size)
      rw [Q1.out] at M6
      clear MA X5 Q1
      refine step_store_v rfl 22 _ _ rfl w.heap.size 8 25 (memC PK s0) (intsV PP) rfl rfl M5.out.1 (by rw [intsV_len, PPL.out, CK.out]; omega) (by rw [intsV_len, PPL.out]; exact size8) (intsV_one _) ?_
      refine hK.out _ _ (fun h => by cases h) (fun hcl => ?_)
      clear hK hHeld
      (try simp only [Act.put, sL])
      clear M5 M3 O3 B3 X3 Q5 Q4
      generalize putV w5 w.heap.size 8 (intsV PP) = w6 at *
      refine wpAnyG_of_any _ _ _ _ (by rfl) ?_
      refine wpAny_done (by kernel_rfl) ?_ _
      clear PR MK P0 P8 hkl
      go_upto_region 13 with fail
      have LB := hide (show ((LO k).length + LX.length) * 8 ≤ 140737488355328 by rw [OK.out]; have := SK.out; omega)
      have XI := hide X6.out.ints
      have XS := hide X6.out.shp
      go_wp2_with (at_builtin; refine wpList_append_both (by rfl) _ _ rfl (ba + 1) _ _ (LO k) LX rfl rfl O6.out XI.out XS.out LB.out N6.out ?_)
      intro v7 w7 h7 g7
      rw [Q2.out] at h7
      have O7 := hide h7
      have M7 := hide (M6.out.own g7 (fun x e => by have := (O6.out.lt x e).1; have := NB.out; omega))
      have B7 := hide (blk_ownP B6.out g7 (fun x e => by have := (O6.out.lt x e).1; omega))
      have N7 := hide (Nat.le_trans N6.out g7.size)
      clear h7 g7 O6 M6 B6 N6 X6 Q2 XI XS
      go_wp2_with fail
      go_roundw
      case rel => exact ⟨k + 1, by go_num, by omega, O7.out, M7.out, B7.out, N7.out⟩
      case measure => simp [intOf]; omega
    · obtain rfl : k = 2 := by omega
      have C2 := hide (memC_len (LL.out 2) s0)
      clear PKL' PR' MK' S1 S2 OL SN SP PS AL XL FR
      go_upto_region 14 with fail
      refine wp_region_held_drew (S := fun u => BlkV u (w.heap.size + 1) 38 (intsV p) ∧ Blk u ba 22 now) (by kernel_rfl) ⟨hM.out.2.1.keep (gw_start wr), hB.out.keep (gw_start wr)⟩ (fun hHeld => ?_)
      refine wpAnyH_take (i := 0) (v := .agg (arrI now)) rfl (by kernel_rfl) (by kernel_rfl) (by kernel_rfl) (fun _ _ _ h => h) (Or.inl ⟨by rfl, ?ypc0⟩) hHeld ?rpc0
      case ypc0 => (intro w' hSw; exact yields_load_arr rfl rfl hSw.2 _ Tryz.underlying22 rfl (by rw [NL.out]; exact size8))
      (try simp only [Act.put, sL])
      refine wpAnyH_take (i := 1) (v := ?vpc1) rfl (by kernel_rfl) (by kernel_rfl) (by kernel_rfl) (fun _ _ _ h => h) (Or.inl ⟨by rfl, ?ypc1⟩) hHeld ?rpc1
      case ypc1 => (intro w' hSw; go_simp; (try with_reducible rfl))
      (try simp only [Act.put, sL])
      refine wpAnyH_take (i := 2) (v := .int .i64 kd) rfl (by kernel_rfl) (by kernel_rfl) (by kernel_rfl) (fun _ _ _ h => h) (Or.inl ⟨by rfl, ?ypc2⟩) hHeld ?rpc2
      case ypc2 => (intro w' hSw; have cc := (hSw.1.cell 0).trans (intsV_getP p 0 (by rw [HP.out]; omega)); rw [KD.out] at cc; go_simp; (try with_reducible rfl))
      (try simp only [Act.put, sL])
      refine wpAnyH_take (i := 3) (v := .bool sil) rfl (by kernel_rfl) (by kernel_rfl) (by kernel_rfl) (fun _ _ _ h => h) (Or.inl ⟨by rfl, ?ypc3⟩) hHeld ?rpc3
      case ypc3 => (intro w' hSw; go_simp; (try simp only [hk2]); (try with_reducible rfl))
      (try simp only [Act.put, sL])
      refine wpAnyH_take (i := 4) (v := ?vpc4) rfl (by kernel_rfl) (by kernel_rfl) (by kernel_rfl) (fun _ _ _ h => h) (Or.inl ⟨by rfl, ?ypc4⟩) hHeld ?rpc4
      case ypc4 => (intro w' hSw; go_simp; (try with_reducible rfl))
      (try simp only [Act.put, sL])
      refine wpAnyH_ready (rs := [5]) (by kernel_rfl) (by simp) (AllReadyH.cons rfl (fun K hK => ?_) AllReadyH.nil)
      (try simp only [Act.put, sL])
      have MD := hide (hM.out.keep (gw_start wr))
      have MA := MD.out.put 0 now (by rw [NL.out, LL.out]; omega)
      have M6 := hide MA.1
      have O6 := hide ((hO.out.keep (gw_start wr)).keepLt MA.2 (by have := NB.out; omega))
      have HS6 := And.intro (hHeld.1.keepBut MA.2 (by omega)) (hHeld.2.keepBut MA.2 (by have := NB.out; omega))
      clear MA
      refine step_store_v rfl 22 _ _ rfl w.heap.size 0 25 (memC (LM 2) s0) (intsV now) rfl rfl MD.out.1 (by rw [intsV_len, NL.out, C2.out]; omega) (by rw [intsV_len, NL.out]; exact size8) (intsV_one _) ?_
      refine hK.out _ _ HS6 (fun hHeld => ?_)
      clear hK
      (try simp only [Act.put, sL])
      clear MD HS6
      generalize putV wr.drew w.heap.size 0 (intsV now) = w6 at *
      have L6 := hide (show (ovr (LM 2) 0 now).length = 101 by rw [ovr_len]; exact LL.out 2)
      generalize ovr (LM 2) 0 now = m6 at *
      refine wpAnyH_take (i := 6) (v := ?vpc6) rfl (by kernel_rfl) (by kernel_rfl) (by kernel_rfl) (fun _ _ _ h => h) (Or.inl ⟨by rfl, ?ypc6⟩) hHeld ?rpc6
      case ypc6 => (intro w' hSw; go_simp; (try with_reducible rfl))
      (try simp only [Act.put, sL])
      refine wpAnyH_ready (rs := [7]) (by kernel_rfl) (by simp) (AllReadyH.cons rfl (fun K hK => ?_) AllReadyH.nil)
      (try simp only [Act.put, sL])
      have ck := M6.out.1.cell 99 (by rw [L6.out]; omega)
      have fk := M6.out.1.free 99
      have M7 := hide (M6.out.set 99 0 (by rw [L6.out]; omega))
      have O7 := hide (O6.out.keepLt (grown_setCell w6 ⟨w.heap.size, 99, none⟩ (.int .i64 0)) (by have := NB.out; simp; omega))
      have HS7 := And.intro (hHeld.1.keepBut (grown_setCell w6 ⟨w.heap.size, 99, none⟩ (.int .i64 0)) (by simp)) (hHeld.2.keepBut (grown_setCell w6 ⟨w.heap.size, 99, none⟩ (.int .i64 0)) (by have := NB.out; simp; omega))
      go_simp
      go_wp2_with fail
      refine hK.out _ _ HS7 (fun hHeld => ?_)
      clear hK
      (try simp only [Act.put, sL])
      clear ck fk M6 O6 HS7
      generalize w6.setCell ⟨w.heap.size, 99, none⟩ (.int .i64 0) = w7 at *
      have L7 := hide (show (m6.set 99 0).length = 101 by rw [List.length_set]; exact L6.out)
      generalize m6.set 99 0 = m7 at *
      refine wpAnyH_take (i := 8) (v := ?vpc8) rfl (by kernel_rfl) (by kernel_rfl) (by kernel_rfl) (fun _ _ _ h => h) (Or.inl ⟨by rfl, ?ypc8⟩) hHeld ?rpc8
      case ypc8 => (intro w' hSw; go_simp; (try with_reducible rfl))
      (try simp only [Act.put, sL])
      refine wpAnyH_ready (rs := [9]) (by kernel_rfl) (by simp) (AllReadyH.cons rfl (fun K hK => ?_) AllReadyH.nil)
      (try simp only [Act.put, sL])
      have ck := M7.out.1.cellS L7.out
      have fk := M7.out.1.free 101
      have M8 := hide (M7.out.setS L7.out sil)
      have O8 := hide (O7.out.keepLt (grown_setCell w7 ⟨w.heap.size, 101, none⟩ (.bool sil)) (by have := NB.out; simp; omega))
      have HS8 := And.intro (hHeld.1.keepBut (grown_setCell w7 ⟨w.heap.size, 101, none⟩ (.bool sil)) (by simp)) (hHeld.2.keepBut (grown_setCell w7 ⟨w.heap.size, 101, none⟩ (.bool sil)) (by have := NB.out; simp; omega))
      go_simp
      go_wp2_with fail
      refine hK.out _ _ HS8 (fun hHeld => ?_)
      clear hK
      (try simp only [Act.put, sL])
      clear ck fk M7 O7 HS8
      generalize w7.setCell ⟨w.heap.size, 101, none⟩ (.bool sil) = w8 at *
      refine wpAnyH_done (by kernel_rfl) ?_ _
      clear hHeld
      go_upto_region 15 with fail
      have A8 := hide (BlkM.all sil L7.out)
      have C8 := hide (memC_len L7.out sil)
      have ON := hide (memC_one m7 sil)
      have PB := hide (M8.out.fin m7 sil L7.out)
      have O9 := hide (O8.out.keepLt PB.out.2.2 (by have := NB.out; omega))
      have FF := hide (F.out _ _ (O9.out.base (b' := w.heap.size) (by have := NB.out; omega)) PB.out.2.1)
      clear F O8 O9
      go_wp2_with (first | refine wpList_load_v rfl 25 _ rfl w.heap.size 0 102 rfl 25 (memC m7 sil) M8.out.1 _ Tryz.underlying25 rfl size102 (by rw [C8.out]; omega) _ A8.out ?_ | refine wpList_store_v rfl 25 _ _ rfl (w.heap.size + 1 + 1) 0 25 (memC (zeros 101) false) (memC m7 sil) rfl rfl M8.out.2.2.1 (by rw [ZL.out, C8.out]; omega) (by rw [C8.out]; exact size102) ON.out ?_)
      have hlv := loadVar_v PB.out.1 _ Tryz.underlying25 rfl (by rw [C8.out]; exact size102)
      refine bodyPost_ret (v := .tuple #[.agg (memC m7 sil).toArray, _]) ?_ rfl FF.out
      simp [results, Tryz.results35, asAddr, Act.put, hlv]
set_option maxRecDepth 100000 in
theorem refPlay_r (w : World) (a0 : Addr) (c0 : Nat) (hW : WideR w a0 c0) (a1 : Addr) (c1 : Nat) (hS : Steps w a1 c1) (a2 : Addr) (c2 : Nat) (hG : GainR w a2 c2) (l : List Int) (s : Bool) (hl : l.length = 101) (hg : goodM l = true) (p : List Int) (hp : p.length = 25) (gp : gudP p = true) (hk : nth p 0 = 1) :
    Calls Tryz.prog 35 #[memV l s, .agg (arrI p)] w (MemL w (plyM l p) (plyS p) (plyL l p)) := by
  have M0 := hide (PlQ.new w l s p)
  obtain ⟨l0, hl0⟩ : ∃ l0, plF l p = l0 := ⟨_, rfl⟩
  obtain ⟨f1, f2⟩ := plF_good (p := p) hl hg
  rw [hl0] at f1 f2
  obtain ⟨now, hnow⟩ : ∃ now, vlL p = now := ⟨_, rfl⟩
  have nl : now.length = 8 := by rw [← hnow]; exact vlL_len p
  have ns : steadyB now = true := by rw [← hnow]; exact vlL_steady p gp
  obtain ⟨sil, hsil⟩ : ∃ sil, plyS p = sil := ⟨_, rfl⟩
  have es : sil = false := by rw [← hsil]; unfold plyS; exact decide_eq_false (by omega)
  have VA := hide (fun wr (g : w.grownBy wr none) => refValues_any (prt p 1 8) (prt_len _ _ _) a0 c0 wr (WideR_keep hW g))
  rw [(vals_eq gp).1, (vals_eq gp).2, hnow] at VA
  obtain ⟨s0, hs0⟩ : ∃ s0 : Bool, false = s0 := ⟨_, rfl⟩
  have LL := hide (fun k => plM_len sil now p f1 k)
  have LG : ∀ k, k ≤ 2 → goodM (plM sil now l0 p k) = true := fun k hk => plM_good sil f1 f2 nl ns gp k hk
  have OL := hide (fun k (hk : k ≤ 2) => (plO_right sil f1 f2 nl ns gp k hk).1)
  have SP := hide (show ∀ (k : Nat), k < 2 → ∀ wr, w.grownBy wr none → Calls Tryz.prog 56 #[memV (plM sil now l0 p k) s0, .agg (arrI (subL p k))] wr (MemL wr (plP sil (plM sil now l0 p k) (subL p k)) s0 (plX sil (plM sil now l0 p k) (subL p k))) from fun k hk wr q => by
    have g := LG k (by omega)
    have c := refSpoken_any wr a1 c1 (Steps_keep hS q) a2 c2 (GainR_keep hG q) (plM sil now l0 p k) s0 (LL.out k) (good_64 (LL.out k) g) (subL p k) (subL_good p gp k hk)
    rw [es] at c ⊢
    rw [plP_f, plX_f]
    exact c)
  have PKL' := hide (fun k => plP_len sil (LL.out k) (subL p k))
  have XL := hide (fun k (hk : k < 2) => (plX_right sil (LG k (by omega)) (subL_good p gp k hk)).1)
  have PR' := hide (fun (k : Nat) wr => refPrd_any (prt (plP sil (plM sil now l0 p k) (subL p k)) 0 8) now (prt_len _ _ _) nl k wr)
  have AL := hide (fun k (hk : k < 2) => (prdP_wide (prt (plP sil (plM sil now l0 p k) (subL p k)) 0 8) now k (prt_len _ _ _) nl (reflM_steady (plP_good sil (LL.out k) (LG k (by omega)) (subL_good p gp k hk))) ns).len)
  have MK' := hide (fun (k : Nat) (hk : k < 2) v wr (h : Ints wr v (plX sil (plM sil now l0 p k) (subL p k))) (sh : Shp v (plX sil (plM sil now l0 p k) (subL p k))) => refMake_any (prdP (prt (plP sil (plM sil now l0 p k) (subL p k)) 0 8) now k) (prt (plP sil (plM sil now l0 p k) (subL p k)) 8 8) (AL.out k hk) (prt_len _ _ _) v (plX sil (plM sil now l0 p k) (subL p k)) wr h sh (by rw [XL.out k hk]; omega))
  have SN := hide (fun (k : Nat) (hk : k < 2) => show (mkL (prdP (prt (plP sil (plM sil now l0 p k) (subL p k)) 0 8) now k) (prt (plP sil (plM sil now l0 p k) (subL p k)) 8 8) (plX sil (plM sil now l0 p k) (subL p k))).length ≤ 40 by
    have := mkL_le (prdP (prt (plP sil (plM sil now l0 p k) (subL p k)) 0 8) now k) (prt (plP sil (plM sil now l0 p k) (subL p k)) 8 8) (plX sil (plM sil now l0 p k) (subL p k))
    rw [XL.out k hk] at this
    exact this)
  have S1 := hide (fun (k : Nat) => show ovr (plP sil (plM sil now l0 p k) (subL p k)) 8 (mkP (prdP (prt (plP sil (plM sil now l0 p k) (subL p k)) 0 8) now k) (prt (plP sil (plM sil now l0 p k) (subL p k)) 8 8) (plX sil (plM sil now l0 p k) (subL p k))) = plM sil now l0 p (k + 1) from rfl)
  have S2 := hide (fun (k : Nat) => show plO sil now l0 p k ++ mkL (prdP (prt (plP sil (plM sil now l0 p k) (subL p k)) 0 8) now k) (prt (plP sil (plM sil now l0 p k) (subL p k)) 8 8) (plX sil (plM sil now l0 p k) (subL p k)) = plO sil now l0 p (k + 1) from rfl)
  have E0 := hide (show plM sil now l0 p 0 = l0 from rfl)
  have E1 := hide (show plO sil now l0 p 0 = [] from rfl)
  have F := hide (show ∀ v' w', Own w.heap.size w' v' (plO sil now l0 p 2) → w.grownBy w' none → MemL w (plyM l p) (plyS p) (plyL l p) (.returned (.tuple #[memV ((ovr (plM sil now l0 p 2) 0 now).set 99 0) sil, v'])) w' from fun v' w' o q =>
    ⟨v', by unfold plyM; rw [hsil, hnow, hl0], by unfold plyL; rw [hsil, hnow, hl0]; exact o, q⟩)
  have FR := hide (fun u => refFresh_any u)
  have NL := hide nl
  have HP := hide hp
  have HL := hide hl
  have HL0 := hide (show l0 = freL from by rw [← hl0]; exact if_pos hk)
  have CL := hide (memC_len hl s)
  have PS := hide (fun k (hk : k < 2) => intsV_partP p (9 + 8 * k) 8 (by omega))
  have PV := hide (intsV_partP p 1 8 (by omega))
  have ZL := hide (memC_len (zeros_len 101) false)
  have hz := zero_mem
  obtain ⟨kd, hkd⟩ : ∃ kd, nth p 0 = kd := ⟨_, rfl⟩
  have hk1 : (kd == 1) = true := by rw [← hkd]; exact beq_iff_eq.2 hk
  have hk2 : (kd == 2) = sil := by rw [es, ← hkd]; exact beq_eq_false_iff_ne.2 (by omega)
  have KD := hide hkd
  have HS0 := hide hs0
  have ES := hide es
  clear es
  clear hg hl gp hp f1 f2 nl ns hnow hsil hkd hW hS hG LG hl0 hk hs0
  generalize MemL w (plyM l p) (plyS p) (plyL l p) = T at *
  generalize plM sil now l0 p = LM at *
  generalize plO sil now l0 p = LO at *
  unfold memV at hz F SP FR ⊢
  unfold AnsC at FR
  go_enter Tryz.func35, Tryz.ntmps35
  go_upto_region 1 with fail
  generalize ((w.alloc (.cells (memC l s).toArray 25)).alloc (.cells (arrI p) 38)).alloc (.cells (memC (zeros 101) false).toArray 25) = W0 at *
  clear hz
  have cp := M0.out.num 0 (by rw [HP.out]; omega)
  rw [KD.out] at cp
  go_wp2_with fail
  refine (FR.out _).mono ?_
  rintro e W1 ⟨rfl, g1⟩
  have M1 := hide (M0.out.keep g1)
  have MA := M1.out.all (m := freL) (t := false) HL.out freL_len
  have M2 := hide (show PlQ w l0 s0 p (putV W1 w.heap.size 0 (memC freL false)) from by rw [HL0.out, ← HS0.out]; exact MA.1)
  have CF := hide (memC_len freL_len false)
  have IF := hide (memC_one freL false)
  clear M0 g1 MA
  generalize memC freL false = FC at *
  go_upto_region 3 with (first | refine wpList_store_v rfl 25 _ _ rfl w.heap.size 0 25 (memC l s) FC rfl rfl M1.out.1 (by rw [CL.out, CF.out]; omega) (by rw [CF.out]; exact size102) IF.out ?_)
  clear M1 IF CF
  generalize putV W1 w.heap.size 0 FC = W2 at *
  clear cp
  go_wp2_with (first | refine wpList_load_v rfl 22 _ rfl (w.heap.size + 1) 1 8 rfl 38 (intsV p) M2.out.2.1 _ Tryz.underlying22 rfl size8 (by rw [intsV_len, HP.out]; omega) _ PV.out ?_)
  refine (VA.out _ M2.out.2.2.2).mono ?_
  rintro e W3 ⟨rfl, g3⟩
  obtain ⟨b1, b2, b3⟩ := fresh_arr W3 22 8 now NL.out
  have B1 := hide b1
  have B2 := hide b2
  have M3 := hide ((M2.out.keep g3).keep b3)
  have NB := hide (show w.heap.size + 1 + 1 + 1 ≤ W3.heap.size from (M2.out.keep g3).2.2.1.lt)
  rw [z8'] at B1 B2 M3
  clear g3 VA b1 b2 b3 M2 PV
  go_upto_region 4 with (first | refine wpList_store_arr rfl 22 _ _ rfl _ (zeros 8) now rfl rfl B1.out (by rw [NL.out, zeros_len]) (by rw [zeros_len]; exact size8) ?_)
  clear B1
  generalize putArr _ W3.heap.size now = W4 at *
  generalize W3.heap.size = ba at *
  have N4 := hide (show ba + 1 ≤ W4.heap.size from B2.out.lt)
  go_wp2_with fail
  go_loopw [8, 9] (fun va i wr => ∃ k : Nat, i = .int .i64 k ∧ k ≤ 2 ∧ Hid (Own (ba + 1) wr va (LO k)) ∧ Hid (PlQ w (LM k) s0 p wr) ∧ Hid (Blk wr ba 22 now) ∧ Hid (ba + 1 ≤ wr.heap.size)) (fun _ i _ => 2 - (intOf i).toNat)
  case atStart => exact ⟨0, rfl, Nat.zero_le _, by rw [E1.out]; exact Own_nil _ _, by rw [E0.out]; exact M3.out, B2.out, N4.out⟩
  case round =>
    obtain ⟨k, rfl, hk, hO, hM, hB, hN⟩ := hrel
    clear M3 B2 N4
    by_cases hkl : k < 2
    · have hk2' : (k : Int) < 2 := by omega
      have hkb : (kd == 2) = false := by rw [hk2, ES.out]
      clear hk2
      have A1 := hide (BlkM.all s0 (LL.out k))
      have C1 := hide (memC_len (LL.out k) s0)
      have cp := hM.out.num 0 (by rw [HP.out]; omega)
      rw [KD.out] at cp
      have PKL := hide (PKL'.out k)
      have PR := hide (PR'.out k)
      have MK := hide (MK'.out k hkl)
      have Q1 := hide (S1.out k)
      have Q2 := hide (S2.out k)
      have OK := hide (OL.out k hk)
      have SK := hide (SN.out k hkl)
      have SP1 := hide (SP.out k hkl)
      have PU := hide (PS.out k hkl)
      rw [show prt p (9 + 8 * k) 8 = subL p k from rfl] at PU
      clear PKL' PR' MK' S1 S2 OL SN SP PS AL XL FR F
      have PPL := hide (mkP_len (prdP (prt (plP sil (LM k) (subL p k)) 0 8) now k) (prt (plP sil (LM k) (subL p k)) 8 8) (plX sil (LM k) (subL p k)))
      generalize mkP (prdP (prt (plP sil (LM k) (subL p k)) 0 8) now k) (prt (plP sil (LM k) (subL p k)) 8 8) (plX sil (LM k) (subL p k)) = PP at *
      generalize mkL (prdP (prt (plP sil (LM k) (subL p k)) 0 8) now k) (prt (plP sil (LM k) (subL p k)) 8 8) (plX sil (LM k) (subL p k)) = LX at *
      generalize fiE (prdP (prt (plP sil (LM k) (subL p k)) 0 8) now k) (prt (plP sil (LM k) (subL p k)) 8 8) (plX sil (LM k) (subL p k)) = x3 at *
      generalize prdP (prt (plP sil (LM k) (subL p k)) 0 8) now k = AK at *
      generalize plX sil (LM k) (subL p k) = XK at *
      generalize plP sil (LM k) (subL p k) = PK at *
      have CK := hide (memC_len PKL.out s0)
      have IK := hide (memC_one PK s0)
      have P0 := hide (BlkM.part (l := PK) s0 0 8 (by rw [PKL.out]; omega))
      have P8 := hide (BlkM.part (l := PK) s0 8 8 (by rw [PKL.out]; omega))
      replace SP1 := hide (fun u (h : GrownW wr u) => SP1.out u (grown_none hM.out.2.2.2 h))
      go_upto_region 11 with fail
      clear cp
      refine wp_region_G 9 (GrownW wr) 11 (by rfl) #[false, false, false, false, false, false, false, false, false, false, false] (by rfl) (by kernel_rfl) (fun hcl => ?_)
      have hHeld := (gw_start wr)
      refine wpAnyG_take (i := 0) (v := .agg (memC (LM k) s0).toArray) rfl (by kernel_rfl) hcl (fun _ _ _ h => h) (Or.inl ⟨by rfl, ?ypa0⟩) hHeld (fun hcl => ?rpa0)
      case ypa0 => (intro w' hSw; (try dsimp only at hSw); exact yields_load_v rfl rfl (hM.out.1.keep hSw) _ Tryz.underlying25 rfl size102 (by rw [C1.out]; omega) _ A1.out)
      (try simp only [Act.put, sL])
      refine wpAnyG_take (i := 1) (v := ?vpa1) rfl (by kernel_rfl) hcl (fun _ _ _ h => h) (Or.inl ⟨by rfl, ?ypa1⟩) hHeld (fun hcl => ?rpa1)
      case ypa1 => (intro w' hSw; (try dsimp only at hSw); go_simp; (try with_reducible rfl))
      (try simp only [Act.put, sL])
      refine wpAnyG_take (i := 2) (v := ?vpa2) rfl (by kernel_rfl) hcl (fun _ _ _ h => h) (Or.inl ⟨by rfl, ?ypa2⟩) hHeld (fun hcl => ?rpa2)
      case ypa2 => (intro w' hSw; (try dsimp only at hSw); go_simp; (try with_reducible rfl))
      (try simp only [Act.put, sL])
      refine wpAnyG_take (i := 3) (v := .pointer (some ⟨w.heap.size + 1, 9 + 8 * k, none⟩)) rfl (by kernel_rfl) hcl (fun _ _ _ h => h) (Or.inl ⟨by rfl, ?ypa3⟩) hHeld (fun hcl => ?rpa3)
      case ypa3 => (intro w' hSw; (try dsimp only at hSw); go_simp; (try simp only [Nat.mul_comm]); (try with_reducible rfl))
      (try simp only [Act.put, sL])
      refine wpAnyG_take (i := 4) (v := .agg (intsV (subL p k)).toArray) rfl (by kernel_rfl) hcl (fun _ _ _ h => h) (Or.inl ⟨by rfl, ?ypa4⟩) hHeld (fun hcl => ?rpa4)
      case ypa4 => (intro w' hSw; (try dsimp only at hSw); exact yields_load_v rfl rfl (hM.out.2.1.keep hSw) _ Tryz.underlying35 rfl size8y (by rw [intsV_len, HP.out]; omega) _ PU.out)
      (try simp only [Act.put, sL])
      refine wpAnyG_exec (i := 5) rfl (by kernel_rfl) hcl (fun K hK => ?_)
      (try simp only [Act.put, sL])
      go_simp
      refine (SP1.out _ hHeld).mono ?_
      rintro e w2 ⟨v2, rfl, o2, q2⟩
      have Q2 := hide q2
      have X2 := hide (o2.base (Nat.le_trans hN.out hHeld.size))
      clear q2 o2
      unfold memV
      go_wp2_with fail
      have hNew := (gw_trans hHeld Q2.out)
      refine hK.out _ _ (fun _ => hNew) (fun hcl => ?_)
      clear hK
      replace hHeld := hNew
      clear hNew
      (try simp only [Act.put, sL])
      refine wpAnyG_take (i := 6) (v := ?vpa6) rfl (by kernel_rfl) hcl (fun _ _ _ h => h) (Or.inl ⟨by rfl, ?ypa6⟩) hHeld (fun hcl => ?rpa6)
      case ypa6 => (intro w' hSw; (try dsimp only at hSw); go_simp; (try with_reducible rfl))
      (try simp only [Act.put, sL])
      refine wpAnyG_take (i := 7) (v := ?vpa7) rfl (by kernel_rfl) hcl (fun _ _ _ h => h) (Or.inl ⟨by rfl, ?ypa7⟩) hHeld (fun hcl => ?rpa7)
      case ypa7 => (intro w' hSw; (try dsimp only at hSw); go_simp; (try with_reducible rfl))
      (try simp only [Act.put, sL])
      refine wpAnyG_takeF (i := 8) (v := ?vpa8) rfl (by kernel_rfl) hcl (fun _ _ _ h => h) (Or.inl ⟨by rfl, ?ypa8⟩) hHeld (fun hcl => ?rpa8)
      case ypa8 => (intro w' _; go_simp; (try with_reducible rfl))
      (try simp only [Act.put, sL])
      refine wpAnyG_exec (i := 9) rfl (by kernel_rfl) hcl (fun K hK => ?_)
      (try simp only [Act.put, sL])
      have M2 := hide (hM.out.keep hHeld)
      have MA := M2.out.all (m := PK) (t := s0) (LL.out k) PKL.out
      have M3 := hide MA.1
      have O3 := hide ((hO.out.keep hHeld).keepLt MA.2 (by have := NB.out; omega))
      have X3 := hide (X2.out.keepLt MA.2 (by have := NB.out; omega))
      have B3 := hide ((hB.out.keep hHeld).keepBut MA.2 (by have := NB.out; omega))
      have N3 := hide (Nat.le_trans (Nat.le_trans hN.out hHeld.size) MA.2.size)
      clear MA X2
      refine step_store_v rfl 25 _ _ rfl w.heap.size 0 25 (memC (LM k) s0) (memC PK s0) rfl rfl M2.out.1 (by rw [C1.out, CK.out]; omega) (by rw [CK.out]; exact size102) IK.out ?_
      refine hK.out _ _ (fun h => by cases h) (fun hcl => ?_)
      clear hK hHeld
      (try simp only [Act.put, sL])
      clear M2 Q2 hM hO hB
      generalize putV w2 w.heap.size 0 (memC PK s0) = w3 at *
      refine wpAnyG_of_any _ _ _ _ (by rfl) ?_
      refine wpAny_take (i := 10) (v := ?vpa10) rfl (by kernel_rfl) (by kernel_rfl) (by kernel_rfl) (fun _ _ _ h => h) (Or.inl ⟨by rfl, ?ypa10⟩) ?rpa10
      case ypa10 => (intro w'; go_simp; (try with_reducible rfl))
      (try simp only [Act.put, sL])
      refine wpAny_done (by kernel_rfl) ?_ _
      clear A1 C1 SP1 PU
      go_upto_region 12 with fail
      refine wp_region_G 15 (GrownW w3) 16 (by rfl) #[false, false, false, false, false, false, false, false, false, false, false, false, false, false, false, false] (by rfl) (by kernel_rfl) (fun hcl => ?_)
      have hHeld := (gw_start w3)
      refine wpAnyG_take (i := 0) (v := ?vpb0) rfl (by kernel_rfl) hcl (fun _ _ _ h => h) (Or.inl ⟨by rfl, ?ypb0⟩) hHeld (fun hcl => ?rpb0)
      case ypb0 => (intro w' hSw; (try dsimp only at hSw); go_simp; (try with_reducible rfl))
      (try simp only [Act.put, sL])
      refine wpAnyG_take (i := 1) (v := .agg (intsV (prt PK 0 8)).toArray) rfl (by kernel_rfl) hcl (fun _ _ _ h => h) (Or.inl ⟨by rfl, ?ypb1⟩) hHeld (fun hcl => ?rpb1)
      case ypb1 => (intro w' hSw; (try dsimp only at hSw); exact yields_load_v rfl rfl (M3.out.1.keep hSw) _ Tryz.underlying22 rfl size8 (by rw [CK.out]; omega) _ P0.out)
      (try simp only [Act.put, sL])
      refine wpAnyG_take (i := 2) (v := .agg (arrI now)) rfl (by kernel_rfl) hcl (fun _ _ _ h => h) (Or.inl ⟨by rfl, ?ypb2⟩) hHeld (fun hcl => ?rpb2)
      case ypb2 => (intro w' hSw; (try dsimp only at hSw); exact yields_load_arr rfl rfl (B3.out.keep hSw) _ Tryz.underlying22 rfl (by rw [NL.out]; exact size8))
      (try simp only [Act.put, sL])
      refine wpAnyG_take (i := 3) (v := ?vpb3) rfl (by kernel_rfl) hcl (fun _ _ _ h => h) (Or.inl ⟨by rfl, ?ypb3⟩) hHeld (fun hcl => ?rpb3)
      case ypb3 => (intro w' hSw; (try dsimp only at hSw); go_simp; (try with_reducible rfl))
      (try simp only [Act.put, sL])
      refine wpAnyG_take (i := 5) (v := ?vpb5) rfl (by kernel_rfl) hcl (fun _ _ _ h => h) (Or.inl ⟨by rfl, ?ypb5⟩) hHeld (fun hcl => ?rpb5)
      case ypb5 => (intro w' hSw; (try dsimp only at hSw); go_simp; (try with_reducible rfl))
      (try simp only [Act.put, sL])
      refine wpAnyG_take (i := 6) (v := .agg (intsV (prt PK 8 8)).toArray) rfl (by kernel_rfl) hcl (fun _ _ _ h => h) (Or.inl ⟨by rfl, ?ypb6⟩) hHeld (fun hcl => ?rpb6)
      case ypb6 => (intro w' hSw; (try dsimp only at hSw); exact yields_load_v rfl rfl (M3.out.1.keep hSw) _ Tryz.underlying22 rfl size8 (by rw [CK.out]; omega) _ P8.out)
      (try simp only [Act.put, sL])
      refine wpAnyG_take (i := 7) (v := ?vpb7) rfl (by kernel_rfl) hcl (fun _ _ _ h => h) (Or.inl ⟨by rfl, ?ypb7⟩) hHeld (fun hcl => ?rpb7)
      case ypb7 => (intro w' hSw; (try dsimp only at hSw); go_simp; (try with_reducible rfl))
      (try simp only [Act.put, sL])
      refine wpAnyG_exec (i := 4) rfl (by kernel_rfl) hcl (fun K hK => ?_)
      (try simp only [Act.put, sL])
      go_simp
      refine (PR.out _).mono ?_
      rintro e w4 ⟨rfl, q4⟩
      have Q4 := hide q4
      clear q4
      go_wp2_with fail
      have hNew := (gw_trans hHeld Q4.out)
      refine hK.out _ _ (fun _ => hNew) (fun hcl => ?_)
      clear hK
      replace hHeld := hNew
      clear hNew
      (try simp only [Act.put, sL])
      refine wpAnyG_exec (i := 8) rfl (by kernel_rfl) hcl (fun K hK => ?_)
      (try simp only [Act.put, sL])
      go_simp
      refine (MK.out v2 _ (X3.out.keep hHeld).ints (X3.out.keep hHeld).shp).mono ?_
      rintro e w5 ⟨v5, rfl, o5, q5⟩
      have Q5 := hide q5
      have X5 := hide (o5.base (Nat.le_trans N3.out hHeld.size))
      clear q5 o5
      go_wp2_with fail
      have hNew := (gw_trans hHeld Q5.out)
      refine hK.out _ _ (fun _ => hNew) (fun hcl => ?_)
      clear hK
      replace hHeld := hNew
      clear hNew
      (try simp only [Act.put, sL])
      refine wpAnyG_take (i := 9) (v := ?vpb9) rfl (by kernel_rfl) hcl (fun _ _ _ h => h) (Or.inl ⟨by rfl, ?ypb9⟩) hHeld (fun hcl => ?rpb9)
      case ypb9 => (intro w' hSw; (try dsimp only at hSw); go_simp; (try with_reducible rfl))
      (try simp only [Act.put, sL])
      refine wpAnyG_take (i := 10) (v := ?vpb10) rfl (by kernel_rfl) hcl (fun _ _ _ h => h) (Or.inl ⟨by rfl, ?ypb10⟩) hHeld (fun hcl => ?rpb10)
      case ypb10 => (intro w' hSw; (try dsimp only at hSw); go_simp; (try with_reducible rfl))
      (try simp only [Act.put, sL])
      refine wpAnyG_take (i := 11) (v := ?vpb11) rfl (by kernel_rfl) hcl (fun _ _ _ h => h) (Or.inl ⟨by rfl, ?ypb11⟩) hHeld (fun hcl => ?rpb11)
      case ypb11 => (intro w' hSw; (try dsimp only at hSw); go_simp; (try with_reducible rfl))
      (try simp only [Act.put, sL])
      refine wpAnyG_takeF (i := 12) (v := ?vpb12) rfl (by kernel_rfl) hcl (fun _ _ _ h => h) (Or.inl ⟨by rfl, ?ypb12⟩) hHeld (fun hcl => ?rpb12)
      case ypb12 => (intro w' _; go_simp; (try with_reducible rfl))
      (try simp only [Act.put, sL])
      refine wpAnyG_take (i := 13) (v := ?vpb13) rfl (by kernel_rfl) hcl (fun _ _ _ h => h) (Or.inl ⟨by rfl, ?ypb13⟩) hHeld (fun hcl => ?rpb13)
      case ypb13 => (intro w' hSw; (try dsimp only at hSw); go_simp; (try with_reducible rfl))
      (try simp only [Act.put, sL])
      refine wpAnyG_take (i := 14) (v := ?vpb14) rfl (by kernel_rfl) hcl (fun _ _ _ h => h) (Or.inl ⟨by rfl, ?ypb14⟩) hHeld (fun hcl => ?rpb14)
      case ypb14 => (intro w' hSw; (try dsimp only at hSw); go_simp; (try with_reducible rfl))
      (try simp only [Act.put, sL])
      refine wpAnyG_exec (i := 15) rfl (by kernel_rfl) hcl (fun K hK => ?_)
      (try simp only [Act.put, sL])
      have M5 := hide (M3.out.keep hHeld)
      have MA := M5.out.put 8 PP (by rw [PPL.out, PKL.out]; omega)
      have M6 := hide MA.1
      have O6 := hide ((O3.out.keep hHeld).keepLt MA.2 (by have := NB.out; omega))
      have X6 := hide (X5.out.keepLt MA.2 (by have := NB.out; omega))
      have B6 := hide ((B3.out.keep hHeld).keepBut MA.2 (by have := NB.out; omega))
      have N6 := hide (Nat.le_trans (Nat.le_trans N3.out hHeld.size) MA.2.size)
      rw [Q1.out] at M6
      clear MA X5 Q1
      refine step_store_v rfl 22 _ _ rfl w.heap.size 8 25 (memC PK s0) (intsV PP) rfl rfl M5.out.1 (by rw [intsV_len, PPL.out, CK.out]; omega) (by rw [intsV_len, PPL.out]; exact size8) (intsV_one _) ?_
      refine hK.out _ _ (fun h => by cases h) (fun hcl => ?_)
      clear hK hHeld
      (try simp only [Act.put, sL])
      clear M5 M3 O3 B3 X3 Q5 Q4
      generalize putV w5 w.heap.size 8 (intsV PP) = w6 at *
      refine wpAnyG_of_any _ _ _ _ (by rfl) ?_
      refine wpAny_done (by kernel_rfl) ?_ _
      clear PR MK P0 P8 hkl
      go_upto_region 13 with fail
      have LB := hide (show ((LO k).length + LX.length) * 8 ≤ 140737488355328 by rw [OK.out]; have := SK.out; omega)
      have XI := hide X6.out.ints
      have XS := hide X6.out.shp
      go_wp2_with (at_builtin; refine wpList_append_both (by rfl) _ _ rfl (ba + 1) _ _ (LO k) LX rfl rfl O6.out XI.out XS.out LB.out N6.out ?_)
      intro v7 w7 h7 g7
      rw [Q2.out] at h7
      have O7 := hide h7
      have M7 := hide (M6.out.own g7 (fun x e => by have := (O6.out.lt x e).1; have := NB.out; omega))
      have B7 := hide (blk_ownP B6.out g7 (fun x e => by have := (O6.out.lt x e).1; omega))
      have N7 := hide (Nat.le_trans N6.out g7.size)
      clear h7 g7 O6 M6 B6 N6 X6 Q2 XI XS
      go_wp2_with fail
      go_roundw
      case rel => exact ⟨k + 1, by go_num, by omega, O7.out, M7.out, B7.out, N7.out⟩
      case measure => simp [intOf]; omega
    · obtain rfl : k = 2 := by omega
      have C2 := hide (memC_len (LL.out 2) s0)
      clear PKL' PR' MK' S1 S2 OL SN SP PS AL XL FR
      go_upto_region 14 with fail
      refine wp_region_held_drew (S := fun u => BlkV u (w.heap.size + 1) 38 (intsV p) ∧ Blk u ba 22 now) (by kernel_rfl) ⟨hM.out.2.1.keep (gw_start wr), hB.out.keep (gw_start wr)⟩ (fun hHeld => ?_)
      refine wpAnyH_take (i := 0) (v := .agg (arrI now)) rfl (by kernel_rfl) (by kernel_rfl) (by kernel_rfl) (fun _ _ _ h => h) (Or.inl ⟨by rfl, ?ypc0⟩) hHeld ?rpc0
      case ypc0 => (intro w' hSw; exact yields_load_arr rfl rfl hSw.2 _ Tryz.underlying22 rfl (by rw [NL.out]; exact size8))
      (try simp only [Act.put, sL])
      refine wpAnyH_take (i := 1) (v := ?vpc1) rfl (by kernel_rfl) (by kernel_rfl) (by kernel_rfl) (fun _ _ _ h => h) (Or.inl ⟨by rfl, ?ypc1⟩) hHeld ?rpc1
      case ypc1 => (intro w' hSw; go_simp; (try with_reducible rfl))
      (try simp only [Act.put, sL])
      refine wpAnyH_take (i := 2) (v := .int .i64 kd) rfl (by kernel_rfl) (by kernel_rfl) (by kernel_rfl) (fun _ _ _ h => h) (Or.inl ⟨by rfl, ?ypc2⟩) hHeld ?rpc2
      case ypc2 => (intro w' hSw; have cc := (hSw.1.cell 0).trans (intsV_getP p 0 (by rw [HP.out]; omega)); rw [KD.out] at cc; go_simp; (try with_reducible rfl))
      (try simp only [Act.put, sL])
      refine wpAnyH_take (i := 3) (v := .bool sil) rfl (by kernel_rfl) (by kernel_rfl) (by kernel_rfl) (fun _ _ _ h => h) (Or.inl ⟨by rfl, ?ypc3⟩) hHeld ?rpc3
      case ypc3 => (intro w' hSw; go_simp; (try simp only [hk2]); (try with_reducible rfl))
      (try simp only [Act.put, sL])
      refine wpAnyH_take (i := 4) (v := ?vpc4) rfl (by kernel_rfl) (by kernel_rfl) (by kernel_rfl) (fun _ _ _ h => h) (Or.inl ⟨by rfl, ?ypc4⟩) hHeld ?rpc4
      case ypc4 => (intro w' hSw; go_simp; (try with_reducible rfl))
      (try simp only [Act.put, sL])
      refine wpAnyH_ready (rs := [5]) (by kernel_rfl) (by simp) (AllReadyH.cons rfl (fun K hK => ?_) AllReadyH.nil)
      (try simp only [Act.put, sL])
      have MD := hide (hM.out.keep (gw_start wr))
      have MA := MD.out.put 0 now (by rw [NL.out, LL.out]; omega)
      have M6 := hide MA.1
      have O6 := hide ((hO.out.keep (gw_start wr)).keepLt MA.2 (by have := NB.out; omega))
      have HS6 := And.intro (hHeld.1.keepBut MA.2 (by omega)) (hHeld.2.keepBut MA.2 (by have := NB.out; omega))
      clear MA
      refine step_store_v rfl 22 _ _ rfl w.heap.size 0 25 (memC (LM 2) s0) (intsV now) rfl rfl MD.out.1 (by rw [intsV_len, NL.out, C2.out]; omega) (by rw [intsV_len, NL.out]; exact size8) (intsV_one _) ?_
      refine hK.out _ _ HS6 (fun hHeld => ?_)
      clear hK
      (try simp only [Act.put, sL])
      clear MD HS6
      generalize putV wr.drew w.heap.size 0 (intsV now) = w6 at *
      have L6 := hide (show (ovr (LM 2) 0 now).length = 101 by rw [ovr_len]; exact LL.out 2)
      generalize ovr (LM 2) 0 now = m6 at *
      refine wpAnyH_take (i := 6) (v := ?vpc6) rfl (by kernel_rfl) (by kernel_rfl) (by kernel_rfl) (fun _ _ _ h => h) (Or.inl ⟨by rfl, ?ypc6⟩) hHeld ?rpc6
      case ypc6 => (intro w' hSw; go_simp; (try with_reducible rfl))
      (try simp only [Act.put, sL])
      refine wpAnyH_ready (rs := [7]) (by kernel_rfl) (by simp) (AllReadyH.cons rfl (fun K hK => ?_) AllReadyH.nil)
      (try simp only [Act.put, sL])
      have ck := M6.out.1.cell 99 (by rw [L6.out]; omega)
      have fk := M6.out.1.free 99
      have M7 := hide (M6.out.set 99 0 (by rw [L6.out]; omega))
      have O7 := hide (O6.out.keepLt (grown_setCell w6 ⟨w.heap.size, 99, none⟩ (.int .i64 0)) (by have := NB.out; simp; omega))
      have HS7 := And.intro (hHeld.1.keepBut (grown_setCell w6 ⟨w.heap.size, 99, none⟩ (.int .i64 0)) (by simp)) (hHeld.2.keepBut (grown_setCell w6 ⟨w.heap.size, 99, none⟩ (.int .i64 0)) (by have := NB.out; simp; omega))
      go_simp
      go_wp2_with fail
      refine hK.out _ _ HS7 (fun hHeld => ?_)
      clear hK
      (try simp only [Act.put, sL])
      clear ck fk M6 O6 HS7
      generalize w6.setCell ⟨w.heap.size, 99, none⟩ (.int .i64 0) = w7 at *
      have L7 := hide (show (m6.set 99 0).length = 101 by rw [List.length_set]; exact L6.out)
      generalize m6.set 99 0 = m7 at *
      refine wpAnyH_take (i := 8) (v := ?vpc8) rfl (by kernel_rfl) (by kernel_rfl) (by kernel_rfl) (fun _ _ _ h => h) (Or.inl ⟨by rfl, ?ypc8⟩) hHeld ?rpc8
      case ypc8 => (intro w' hSw; go_simp; (try with_reducible rfl))
      (try simp only [Act.put, sL])
      refine wpAnyH_ready (rs := [9]) (by kernel_rfl) (by simp) (AllReadyH.cons rfl (fun K hK => ?_) AllReadyH.nil)
      (try simp only [Act.put, sL])
      have ck := M7.out.1.cellS L7.out
      have fk := M7.out.1.free 101
      have M8 := hide (M7.out.setS L7.out sil)
      have O8 := hide (O7.out.keepLt (grown_setCell w7 ⟨w.heap.size, 101, none⟩ (.bool sil)) (by have := NB.out; simp; omega))
      have HS8 := And.intro (hHeld.1.keepBut (grown_setCell w7 ⟨w.heap.size, 101, none⟩ (.bool sil)) (by simp)) (hHeld.2.keepBut (grown_setCell w7 ⟨w.heap.size, 101, none⟩ (.bool sil)) (by have := NB.out; simp; omega))
      go_simp
      go_wp2_with fail
      refine hK.out _ _ HS8 (fun hHeld => ?_)
      clear hK
      (try simp only [Act.put, sL])
      clear ck fk M7 O7 HS8
      generalize w7.setCell ⟨w.heap.size, 101, none⟩ (.bool sil) = w8 at *
      refine wpAnyH_done (by kernel_rfl) ?_ _
      clear hHeld
      go_upto_region 15 with fail
      have A8 := hide (BlkM.all sil L7.out)
      have C8 := hide (memC_len L7.out sil)
      have ON := hide (memC_one m7 sil)
      have PB := hide (M8.out.fin m7 sil L7.out)
      have O9 := hide (O8.out.keepLt PB.out.2.2 (by have := NB.out; omega))
      have FF := hide (F.out _ _ (O9.out.base (b' := w.heap.size) (by have := NB.out; omega)) PB.out.2.1)
      clear F O8 O9
      go_wp2_with (first | refine wpList_load_v rfl 25 _ rfl w.heap.size 0 102 rfl 25 (memC m7 sil) M8.out.1 _ Tryz.underlying25 rfl size102 (by rw [C8.out]; omega) _ A8.out ?_ | refine wpList_store_v rfl 25 _ _ rfl (w.heap.size + 1 + 1) 0 25 (memC (zeros 101) false) (memC m7 sil) rfl rfl M8.out.2.2.1 (by rw [ZL.out, C8.out]; omega) (by rw [C8.out]; exact size102) ON.out ?_)
      have hlv := loadVar_v PB.out.1 _ Tryz.underlying25 rfl (by rw [C8.out]; exact size102)
      refine bodyPost_ret (v := .tuple #[.agg (memC m7 sil).toArray, _]) ?_ rfl FF.out
      simp [results, Tryz.results35, asAddr, Act.put, hlv]
set_option maxRecDepth 100000 in
theorem refPlay_s (w : World) (a0 : Addr) (c0 : Nat) (hW : WideR w a0 c0) (a1 : Addr) (c1 : Nat) (hS : Steps w a1 c1) (a2 : Addr) (c2 : Nat) (hG : GainR w a2 c2) (l : List Int) (s : Bool) (hl : l.length = 101) (hg : goodM l = true) (p : List Int) (hp : p.length = 25) (gp : gudP p = true) (hk : nth p 0 = 2) :
    Calls Tryz.prog 35 #[memV l s, .agg (arrI p)] w (MemL w (plyM l p) (plyS p) (plyL l p)) := by
  have M0 := hide (PlQ.new w l s p)
  obtain ⟨l0, hl0⟩ : ∃ l0, plF l p = l0 := ⟨_, rfl⟩
  obtain ⟨f1, f2⟩ := plF_good (p := p) hl hg
  rw [hl0] at f1 f2
  obtain ⟨now, hnow⟩ : ∃ now, vlL p = now := ⟨_, rfl⟩
  have nl : now.length = 8 := by rw [← hnow]; exact vlL_len p
  have ns : steadyB now = true := by rw [← hnow]; exact vlL_steady p gp
  obtain ⟨sil, hsil⟩ : ∃ sil, plyS p = sil := ⟨_, rfl⟩
  have es : sil = true := by rw [← hsil]; unfold plyS; exact decide_eq_true hk
  have VA := hide (fun wr (g : w.grownBy wr none) => refValues_any (prt p 1 8) (prt_len _ _ _) a0 c0 wr (WideR_keep hW g))
  rw [(vals_eq gp).1, (vals_eq gp).2, hnow] at VA
  obtain ⟨s0, hs0⟩ : ∃ s0 : Bool, s = s0 := ⟨_, rfl⟩
  have LL := hide (fun k => plM_len sil now p f1 k)
  have LG : ∀ k, k ≤ 2 → goodM (plM sil now l0 p k) = true := fun k hk => plM_good sil f1 f2 nl ns gp k hk
  have OL := hide (fun k (hk : k ≤ 2) => (plO_right sil f1 f2 nl ns gp k hk).1)
  have SP := hide (show ∀ (k : Nat), k < 2 → ∀ wr, Calls Tryz.prog 84 #[memV (plM sil now l0 p k) s0] wr (MemE wr (plP sil (plM sil now l0 p k) (subL p k)) s0 (plX sil (plM sil now l0 p k) (subL p k)) 0) from fun k hk wr => by
    have g := LG k (by omega)
    have c := refSilent_any (plM sil now l0 p k) s0 (LL.out k) (good_64 (LL.out k) g) wr
    rw [(si_yes (s := s0) g).2.1, (si_yes (s := s0) g).2.2.2] at c
    rw [es] at c ⊢
    rw [plP_t, plX_t]
    exact c)
  have PKL' := hide (fun k => plP_len sil (LL.out k) (subL p k))
  have XL := hide (fun k (hk : k < 2) => (plX_right sil (LG k (by omega)) (subL_good p gp k hk)).1)
  have PR' := hide (fun (k : Nat) wr => refPrd_any (prt (plP sil (plM sil now l0 p k) (subL p k)) 0 8) now (prt_len _ _ _) nl k wr)
  have AL := hide (fun k (hk : k < 2) => (prdP_wide (prt (plP sil (plM sil now l0 p k) (subL p k)) 0 8) now k (prt_len _ _ _) nl (reflM_steady (plP_good sil (LL.out k) (LG k (by omega)) (subL_good p gp k hk))) ns).len)
  have MK' := hide (fun (k : Nat) (hk : k < 2) v wr (h : Ints wr v (plX sil (plM sil now l0 p k) (subL p k))) (sh : Shp v (plX sil (plM sil now l0 p k) (subL p k))) => refMake_any (prdP (prt (plP sil (plM sil now l0 p k) (subL p k)) 0 8) now k) (prt (plP sil (plM sil now l0 p k) (subL p k)) 8 8) (AL.out k hk) (prt_len _ _ _) v (plX sil (plM sil now l0 p k) (subL p k)) wr h sh (by rw [XL.out k hk]; omega))
  have SN := hide (fun (k : Nat) (hk : k < 2) => show (mkL (prdP (prt (plP sil (plM sil now l0 p k) (subL p k)) 0 8) now k) (prt (plP sil (plM sil now l0 p k) (subL p k)) 8 8) (plX sil (plM sil now l0 p k) (subL p k))).length ≤ 40 by
    have := mkL_le (prdP (prt (plP sil (plM sil now l0 p k) (subL p k)) 0 8) now k) (prt (plP sil (plM sil now l0 p k) (subL p k)) 8 8) (plX sil (plM sil now l0 p k) (subL p k))
    rw [XL.out k hk] at this
    exact this)
  have S1 := hide (fun (k : Nat) => show ovr (plP sil (plM sil now l0 p k) (subL p k)) 8 (mkP (prdP (prt (plP sil (plM sil now l0 p k) (subL p k)) 0 8) now k) (prt (plP sil (plM sil now l0 p k) (subL p k)) 8 8) (plX sil (plM sil now l0 p k) (subL p k))) = plM sil now l0 p (k + 1) from rfl)
  have S2 := hide (fun (k : Nat) => show plO sil now l0 p k ++ mkL (prdP (prt (plP sil (plM sil now l0 p k) (subL p k)) 0 8) now k) (prt (plP sil (plM sil now l0 p k) (subL p k)) 8 8) (plX sil (plM sil now l0 p k) (subL p k)) = plO sil now l0 p (k + 1) from rfl)
  have E0 := hide (show plM sil now l0 p 0 = l0 from rfl)
  have E1 := hide (show plO sil now l0 p 0 = [] from rfl)
  have F := hide (show ∀ v' w', Own w.heap.size w' v' (plO sil now l0 p 2) → w.grownBy w' none → MemL w (plyM l p) (plyS p) (plyL l p) (.returned (.tuple #[memV ((ovr (plM sil now l0 p 2) 0 now).set 99 0) sil, v'])) w' from fun v' w' o q =>
    ⟨v', by unfold plyM; rw [hsil, hnow, hl0], by unfold plyL; rw [hsil, hnow, hl0]; exact o, q⟩)
  have FR := hide (fun u => refFresh_any u)
  have NL := hide nl
  have HP := hide hp
  have HL := hide hl
  have HL0 := hide (show l0 = l from by rw [← hl0]; exact if_neg (by omega))
  have CL := hide (memC_len hl s)
  have PS := hide (fun k (hk : k < 2) => intsV_partP p (9 + 8 * k) 8 (by omega))
  have PV := hide (intsV_partP p 1 8 (by omega))
  have ZL := hide (memC_len (zeros_len 101) false)
  have hz := zero_mem
  obtain ⟨kd, hkd⟩ : ∃ kd, nth p 0 = kd := ⟨_, rfl⟩
  have hk1 : (kd == 1) = false := by rw [← hkd]; exact beq_eq_false_iff_ne.2 (by omega)
  have hk2 : (kd == 2) = sil := by rw [es, ← hkd]; exact beq_iff_eq.2 hk
  have KD := hide hkd
  have HS0 := hide hs0
  have ES := hide es
  clear es
  clear hg hl gp hp f1 f2 nl ns hnow hsil hkd hW hS hG LG hl0 hk hs0
  generalize MemL w (plyM l p) (plyS p) (plyL l p) = T at *
  generalize plM sil now l0 p = LM at *
  generalize plO sil now l0 p = LO at *
  unfold memV at hz F SP FR ⊢
  unfold AnsC at FR
  go_enter Tryz.func35, Tryz.ntmps35
  go_upto_region 1 with fail
  generalize ((w.alloc (.cells (memC l s).toArray 25)).alloc (.cells (arrI p) 38)).alloc (.cells (memC (zeros 101) false).toArray 25) = W0 at *
  clear hz
  have cp := M0.out.num 0 (by rw [HP.out]; omega)
  rw [KD.out] at cp
  go_upto_region 3 with fail
  have M2 := hide (show PlQ w l0 s0 p W0 from by rw [HL0.out, ← HS0.out]; exact M0.out)
  clear M0
  clear cp
  go_wp2_with (first | refine wpList_load_v rfl 22 _ rfl (w.heap.size + 1) 1 8 rfl 38 (intsV p) M2.out.2.1 _ Tryz.underlying22 rfl size8 (by rw [intsV_len, HP.out]; omega) _ PV.out ?_)
  refine (VA.out _ M2.out.2.2.2).mono ?_
  rintro e W3 ⟨rfl, g3⟩
  obtain ⟨b1, b2, b3⟩ := fresh_arr W3 22 8 now NL.out
  have B1 := hide b1
  have B2 := hide b2
  have M3 := hide ((M2.out.keep g3).keep b3)
  have NB := hide (show w.heap.size + 1 + 1 + 1 ≤ W3.heap.size from (M2.out.keep g3).2.2.1.lt)
  rw [z8'] at B1 B2 M3
  clear g3 VA b1 b2 b3 M2 PV
  go_upto_region 4 with (first | refine wpList_store_arr rfl 22 _ _ rfl _ (zeros 8) now rfl rfl B1.out (by rw [NL.out, zeros_len]) (by rw [zeros_len]; exact size8) ?_)
  clear B1
  generalize putArr _ W3.heap.size now = W4 at *
  generalize W3.heap.size = ba at *
  have N4 := hide (show ba + 1 ≤ W4.heap.size from B2.out.lt)
  go_wp2_with fail
  go_loopw [8, 9] (fun va i wr => ∃ k : Nat, i = .int .i64 k ∧ k ≤ 2 ∧ Hid (Own (ba + 1) wr va (LO k)) ∧ Hid (PlQ w (LM k) s0 p wr) ∧ Hid (Blk wr ba 22 now) ∧ Hid (ba + 1 ≤ wr.heap.size)) (fun _ i _ => 2 - (intOf i).toNat)
  case atStart => exact ⟨0, rfl, Nat.zero_le _, by rw [E1.out]; exact Own_nil _ _, by rw [E0.out]; exact M3.out, B2.out, N4.out⟩
  case round =>
    obtain ⟨k, rfl, hk, hO, hM, hB, hN⟩ := hrel
    clear M3 B2 N4
    by_cases hkl : k < 2
    · have hk2' : (k : Int) < 2 := by omega
      have hkb : (kd == 2) = true := by rw [hk2, ES.out]
      clear hk2
      have A1 := hide (BlkM.all s0 (LL.out k))
      have C1 := hide (memC_len (LL.out k) s0)
      have cp := hM.out.num 0 (by rw [HP.out]; omega)
      rw [KD.out] at cp
      have PKL := hide (PKL'.out k)
      have PR := hide (PR'.out k)
      have MK := hide (MK'.out k hkl)
      have Q1 := hide (S1.out k)
      have Q2 := hide (S2.out k)
      have OK := hide (OL.out k hk)
      have SK := hide (SN.out k hkl)
      have SP1 := hide (SP.out k hkl)
      have PU := hide (PS.out k hkl)
      rw [show prt p (9 + 8 * k) 8 = subL p k from rfl] at PU
      clear PKL' PR' MK' S1 S2 OL SN SP PS AL XL FR F
      have PPL := hide (mkP_len (prdP (prt (plP sil (LM k) (subL p k)) 0 8) now k) (prt (plP sil (LM k) (subL p k)) 8 8) (plX sil (LM k) (subL p k)))
      generalize mkP (prdP (prt (plP sil (LM k) (subL p k)) 0 8) now k) (prt (plP sil (LM k) (subL p k)) 8 8) (plX sil (LM k) (subL p k)) = PP at *
      generalize mkL (prdP (prt (plP sil (LM k) (subL p k)) 0 8) now k) (prt (plP sil (LM k) (subL p k)) 8 8) (plX sil (LM k) (subL p k)) = LX at *
      generalize fiE (prdP (prt (plP sil (LM k) (subL p k)) 0 8) now k) (prt (plP sil (LM k) (subL p k)) 8 8) (plX sil (LM k) (subL p k)) = x3 at *
      generalize prdP (prt (plP sil (LM k) (subL p k)) 0 8) now k = AK at *
      generalize plX sil (LM k) (subL p k) = XK at *
      generalize plP sil (LM k) (subL p k) = PK at *
      have CK := hide (memC_len PKL.out s0)
      have IK := hide (memC_one PK s0)
      have P0 := hide (BlkM.part (l := PK) s0 0 8 (by rw [PKL.out]; omega))
      have P8 := hide (BlkM.part (l := PK) s0 8 8 (by rw [PKL.out]; omega))
      go_upto_region 10 with fail
      clear cp
      go_wp2_with (first | refine wpList_load_v rfl 25 _ rfl w.heap.size 0 102 rfl 25 (memC (LM k) s0) hM.out.1 _ Tryz.underlying25 rfl size102 (by rw [C1.out]; omega) _ A1.out ?_)
      refine (SP1.out _).mono ?_
      rintro e w2 ⟨v2, rfl, o2, g2⟩
      have M2 := hide (hM.out.keep g2)
      have X2 := hide (o2.base hN.out)
      have MA := M2.out.all (m := PK) (t := s0) (LL.out k) PKL.out
      have M3 := hide MA.1
      have O3 := hide ((hO.out.keep g2).keepLt MA.2 (by have := NB.out; omega))
      have X3 := hide (X2.out.keepLt MA.2 (by have := NB.out; omega))
      have B3 := hide ((hB.out.keep g2).keepBut MA.2 (by have := NB.out; omega))
      have N3 := hide (Nat.le_trans (Nat.le_trans hN.out g2.size) MA.2.size)
      clear MA X2 hM hO hB hN g2 o2
      unfold memV
      go_upto_region 12 with (first | refine wpList_store_v rfl 25 _ _ rfl w.heap.size 0 25 (memC (LM k) s0) (memC PK s0) rfl rfl M2.out.1 (by rw [C1.out, CK.out]; omega) (by rw [CK.out]; exact size102) IK.out ?_)
      clear M2
      generalize putV w2 w.heap.size 0 (memC PK s0) = w3 at *
      clear A1 C1 SP1 PU
      go_upto_region 12 with fail
      refine wp_region_G 15 (GrownW w3) 16 (by rfl) #[false, false, false, false, false, false, false, false, false, false, false, false, false, false, false, false] (by rfl) (by kernel_rfl) (fun hcl => ?_)
      have hHeld := (gw_start w3)
      refine wpAnyG_take (i := 0) (v := ?vpb0) rfl (by kernel_rfl) hcl (fun _ _ _ h => h) (Or.inl ⟨by rfl, ?ypb0⟩) hHeld (fun hcl => ?rpb0)
      case ypb0 => (intro w' hSw; (try dsimp only at hSw); go_simp; (try with_reducible rfl))
      (try simp only [Act.put, sL])
      refine wpAnyG_take (i := 1) (v := .agg (intsV (prt PK 0 8)).toArray) rfl (by kernel_rfl) hcl (fun _ _ _ h => h) (Or.inl ⟨by rfl, ?ypb1⟩) hHeld (fun hcl => ?rpb1)
      case ypb1 => (intro w' hSw; (try dsimp only at hSw); exact yields_load_v rfl rfl (M3.out.1.keep hSw) _ Tryz.underlying22 rfl size8 (by rw [CK.out]; omega) _ P0.out)
      (try simp only [Act.put, sL])
      refine wpAnyG_take (i := 2) (v := .agg (arrI now)) rfl (by kernel_rfl) hcl (fun _ _ _ h => h) (Or.inl ⟨by rfl, ?ypb2⟩) hHeld (fun hcl => ?rpb2)
      case ypb2 => (intro w' hSw; (try dsimp only at hSw); exact yields_load_arr rfl rfl (B3.out.keep hSw) _ Tryz.underlying22 rfl (by rw [NL.out]; exact size8))
      (try simp only [Act.put, sL])
      refine wpAnyG_take (i := 3) (v := ?vpb3) rfl (by kernel_rfl) hcl (fun _ _ _ h => h) (Or.inl ⟨by rfl, ?ypb3⟩) hHeld (fun hcl => ?rpb3)
      case ypb3 => (intro w' hSw; (try dsimp only at hSw); go_simp; (try with_reducible rfl))
      (try simp only [Act.put, sL])
      refine wpAnyG_take (i := 5) (v := ?vpb5) rfl (by kernel_rfl) hcl (fun _ _ _ h => h) (Or.inl ⟨by rfl, ?ypb5⟩) hHeld (fun hcl => ?rpb5)
      case ypb5 => (intro w' hSw; (try dsimp only at hSw); go_simp; (try with_reducible rfl))
      (try simp only [Act.put, sL])
      refine wpAnyG_take (i := 6) (v := .agg (intsV (prt PK 8 8)).toArray) rfl (by kernel_rfl) hcl (fun _ _ _ h => h) (Or.inl ⟨by rfl, ?ypb6⟩) hHeld (fun hcl => ?rpb6)
      case ypb6 => (intro w' hSw; (try dsimp only at hSw); exact yields_load_v rfl rfl (M3.out.1.keep hSw) _ Tryz.underlying22 rfl size8 (by rw [CK.out]; omega) _ P8.out)
      (try simp only [Act.put, sL])
      refine wpAnyG_take (i := 7) (v := ?vpb7) rfl (by kernel_rfl) hcl (fun _ _ _ h => h) (Or.inl ⟨by rfl, ?ypb7⟩) hHeld (fun hcl => ?rpb7)
      case ypb7 => (intro w' hSw; (try dsimp only at hSw); go_simp; (try with_reducible rfl))
      (try simp only [Act.put, sL])
      refine wpAnyG_exec (i := 4) rfl (by kernel_rfl) hcl (fun K hK => ?_)
      (try simp only [Act.put, sL])
      go_simp
      refine (PR.out _).mono ?_
      rintro e w4 ⟨rfl, q4⟩
      have Q4 := hide q4
      clear q4
      go_wp2_with fail
      have hNew := (gw_trans hHeld Q4.out)
      refine hK.out _ _ (fun _ => hNew) (fun hcl => ?_)
      clear hK
      replace hHeld := hNew
      clear hNew
      (try simp only [Act.put, sL])
      refine wpAnyG_exec (i := 8) rfl (by kernel_rfl) hcl (fun K hK => ?_)
      (try simp only [Act.put, sL])
      go_simp
      refine (MK.out v2 _ (X3.out.keep hHeld).ints (X3.out.keep hHeld).shp).mono ?_
      rintro e w5 ⟨v5, rfl, o5, q5⟩
      have Q5 := hide q5
      have X5 := hide (o5.base (Nat.le_trans N3.out hHeld.size))
      clear q5 o5
      go_wp2_with fail
      have hNew := (gw_trans hHeld Q5.out)
      refine hK.out _ _ (fun _ => hNew) (fun hcl => ?_)
      clear hK
      replace hHeld := hNew
      clear hNew
      (try simp only [Act.put, sL])
      refine wpAnyG_take (i := 9) (v := ?vpb9) rfl (by kernel_rfl) hcl (fun _ _ _ h => h) (Or.inl ⟨by rfl, ?ypb9⟩) hHeld (fun hcl => ?rpb9)
      case ypb9 => (intro w' hSw; (try dsimp only at hSw); go_simp; (try with_reducible rfl))
      (try simp only [Act.put, sL])
      refine wpAnyG_take (i := 10) (v := ?vpb10) rfl (by kernel_rfl) hcl (fun _ _ _ h => h) (Or.inl ⟨by rfl, ?ypb10⟩) hHeld (fun hcl => ?rpb10)
      case ypb10 => (intro w' hSw; (try dsimp only at hSw); go_simp; (try with_reducible rfl))
      (try simp only [Act.put, sL])
      refine wpAnyG_take (i := 11) (v := ?vpb11) rfl (by kernel_rfl) hcl (fun _ _ _ h => h) (Or.inl ⟨by rfl, ?ypb11⟩) hHeld (fun hcl => ?rpb11)
      case ypb11 => (intro w' hSw; (try dsimp only at hSw); go_simp; (try with_reducible rfl))
      (try simp only [Act.put, sL])
      refine wpAnyG_takeF (i := 12) (v := ?vpb12) rfl (by kernel_rfl) hcl (fun _ _ _ h => h) (Or.inl ⟨by rfl, ?ypb12⟩) hHeld (fun hcl => ?rpb12)
      case ypb12 => (intro w' _; go_simp; (try with_reducible rfl))
      (try simp only [Act.put, sL])
      refine wpAnyG_take (i := 13) (v := ?vpb13) rfl (by kernel_rfl) hcl (fun _ _ _ h => h) (Or.inl ⟨by rfl, ?ypb13⟩) hHeld (fun hcl => ?rpb13)
      case ypb13 => (intro w' hSw; (try dsimp only at hSw); go_simp; (try with_reducible rfl))
      (try simp only [Act.put, sL])
      refine wpAnyG_take (i := 14) (v := ?vpb14) rfl (by kernel_rfl) hcl (fun _ _ _ h => h) (Or.inl ⟨by rfl, ?ypb14⟩) hHeld (fun hcl => ?rpb14)
      case ypb14 => (intro w' hSw; (try dsimp only at hSw); go_simp; (try with_reducible rfl))
      (try simp only [Act.put, sL])
      refine wpAnyG_exec (i := 15) rfl (by kernel_rfl) hcl (fun K hK => ?_)
      (try simp only [Act.put, sL])
      have M5 := hide (M3.out.keep hHeld)
      have MA := M5.out.put 8 PP (by rw [PPL.out, PKL.out]; omega)
      have M6 := hide MA.1
      have O6 := hide ((O3.out.keep hHeld).keepLt MA.2 (by have := NB.out; omega))
      have X6 := hide (X5.out.keepLt MA.2 (by have := NB.out; omega))
      have B6 := hide ((B3.out.keep hHeld).keepBut MA.2 (by have := NB.out; omega))
      have N6 := hide (Nat.le_trans (Nat.le_trans N3.out hHeld.size) MA.2.size)
      rw [Q1.out] at M6
      clear MA X5 Q1
      refine step_store_v rfl 22 _ _ rfl w.heap.size 8 25 (memC PK s0) (intsV PP) rfl rfl M5.out.1 (by rw [intsV_len, PPL.out, CK.out]; omega) (by rw [intsV_len, PPL.out]; exact size8) (intsV_one _) ?_
      refine hK.out _ _ (fun h => by cases h) (fun hcl => ?_)
      clear hK hHeld
      (try simp only [Act.put, sL])
      clear M5 M3 O3 B3 X3 Q5 Q4
      generalize putV w5 w.heap.size 8 (intsV PP) = w6 at *
      refine wpAnyG_of_any _ _ _ _ (by rfl) ?_
      refine wpAny_done (by kernel_rfl) ?_ _
      clear PR MK P0 P8 hkl
      go_upto_region 13 with fail
      have LB := hide (show ((LO k).length + LX.length) * 8 ≤ 140737488355328 by rw [OK.out]; have := SK.out; omega)
      have XI := hide X6.out.ints
      have XS := hide X6.out.shp
      go_wp2_with (at_builtin; refine wpList_append_both (by rfl) _ _ rfl (ba + 1) _ _ (LO k) LX rfl rfl O6.out XI.out XS.out LB.out N6.out ?_)
      intro v7 w7 h7 g7
      rw [Q2.out] at h7
      have O7 := hide h7
      have M7 := hide (M6.out.own g7 (fun x e => by have := (O6.out.lt x e).1; have := NB.out; omega))
      have B7 := hide (blk_ownP B6.out g7 (fun x e => by have := (O6.out.lt x e).1; omega))
      have N7 := hide (Nat.le_trans N6.out g7.size)
      clear h7 g7 O6 M6 B6 N6 X6 Q2 XI XS
      go_wp2_with fail
      go_roundw
      case rel => exact ⟨k + 1, by go_num, by omega, O7.out, M7.out, B7.out, N7.out⟩
      case measure => simp [intOf]; omega
    · obtain rfl : k = 2 := by omega
      have C2 := hide (memC_len (LL.out 2) s0)
      clear PKL' PR' MK' S1 S2 OL SN SP PS AL XL FR
      go_upto_region 14 with fail
      refine wp_region_held_drew (S := fun u => BlkV u (w.heap.size + 1) 38 (intsV p) ∧ Blk u ba 22 now) (by kernel_rfl) ⟨hM.out.2.1.keep (gw_start wr), hB.out.keep (gw_start wr)⟩ (fun hHeld => ?_)
      refine wpAnyH_take (i := 0) (v := .agg (arrI now)) rfl (by kernel_rfl) (by kernel_rfl) (by kernel_rfl) (fun _ _ _ h => h) (Or.inl ⟨by rfl, ?ypc0⟩) hHeld ?rpc0
      case ypc0 => (intro w' hSw; exact yields_load_arr rfl rfl hSw.2 _ Tryz.underlying22 rfl (by rw [NL.out]; exact size8))
      (try simp only [Act.put, sL])
      refine wpAnyH_take (i := 1) (v := ?vpc1) rfl (by kernel_rfl) (by kernel_rfl) (by kernel_rfl) (fun _ _ _ h => h) (Or.inl ⟨by rfl, ?ypc1⟩) hHeld ?rpc1
      case ypc1 => (intro w' hSw; go_simp; (try with_reducible rfl))
      (try simp only [Act.put, sL])
      refine wpAnyH_take (i := 2) (v := .int .i64 kd) rfl (by kernel_rfl) (by kernel_rfl) (by kernel_rfl) (fun _ _ _ h => h) (Or.inl ⟨by rfl, ?ypc2⟩) hHeld ?rpc2
      case ypc2 => (intro w' hSw; have cc := (hSw.1.cell 0).trans (intsV_getP p 0 (by rw [HP.out]; omega)); rw [KD.out] at cc; go_simp; (try with_reducible rfl))
      (try simp only [Act.put, sL])
      refine wpAnyH_take (i := 3) (v := .bool sil) rfl (by kernel_rfl) (by kernel_rfl) (by kernel_rfl) (fun _ _ _ h => h) (Or.inl ⟨by rfl, ?ypc3⟩) hHeld ?rpc3
      case ypc3 => (intro w' hSw; go_simp; (try simp only [hk2]); (try with_reducible rfl))
      (try simp only [Act.put, sL])
      refine wpAnyH_take (i := 4) (v := ?vpc4) rfl (by kernel_rfl) (by kernel_rfl) (by kernel_rfl) (fun _ _ _ h => h) (Or.inl ⟨by rfl, ?ypc4⟩) hHeld ?rpc4
      case ypc4 => (intro w' hSw; go_simp; (try with_reducible rfl))
      (try simp only [Act.put, sL])
      refine wpAnyH_ready (rs := [5]) (by kernel_rfl) (by simp) (AllReadyH.cons rfl (fun K hK => ?_) AllReadyH.nil)
      (try simp only [Act.put, sL])
      have MD := hide (hM.out.keep (gw_start wr))
      have MA := MD.out.put 0 now (by rw [NL.out, LL.out]; omega)
      have M6 := hide MA.1
      have O6 := hide ((hO.out.keep (gw_start wr)).keepLt MA.2 (by have := NB.out; omega))
      have HS6 := And.intro (hHeld.1.keepBut MA.2 (by omega)) (hHeld.2.keepBut MA.2 (by have := NB.out; omega))
      clear MA
      refine step_store_v rfl 22 _ _ rfl w.heap.size 0 25 (memC (LM 2) s0) (intsV now) rfl rfl MD.out.1 (by rw [intsV_len, NL.out, C2.out]; omega) (by rw [intsV_len, NL.out]; exact size8) (intsV_one _) ?_
      refine hK.out _ _ HS6 (fun hHeld => ?_)
      clear hK
      (try simp only [Act.put, sL])
      clear MD HS6
      generalize putV wr.drew w.heap.size 0 (intsV now) = w6 at *
      have L6 := hide (show (ovr (LM 2) 0 now).length = 101 by rw [ovr_len]; exact LL.out 2)
      generalize ovr (LM 2) 0 now = m6 at *
      refine wpAnyH_take (i := 6) (v := ?vpc6) rfl (by kernel_rfl) (by kernel_rfl) (by kernel_rfl) (fun _ _ _ h => h) (Or.inl ⟨by rfl, ?ypc6⟩) hHeld ?rpc6
      case ypc6 => (intro w' hSw; go_simp; (try with_reducible rfl))
      (try simp only [Act.put, sL])
      refine wpAnyH_ready (rs := [7]) (by kernel_rfl) (by simp) (AllReadyH.cons rfl (fun K hK => ?_) AllReadyH.nil)
      (try simp only [Act.put, sL])
      have ck := M6.out.1.cell 99 (by rw [L6.out]; omega)
      have fk := M6.out.1.free 99
      have M7 := hide (M6.out.set 99 0 (by rw [L6.out]; omega))
      have O7 := hide (O6.out.keepLt (grown_setCell w6 ⟨w.heap.size, 99, none⟩ (.int .i64 0)) (by have := NB.out; simp; omega))
      have HS7 := And.intro (hHeld.1.keepBut (grown_setCell w6 ⟨w.heap.size, 99, none⟩ (.int .i64 0)) (by simp)) (hHeld.2.keepBut (grown_setCell w6 ⟨w.heap.size, 99, none⟩ (.int .i64 0)) (by have := NB.out; simp; omega))
      go_simp
      go_wp2_with fail
      refine hK.out _ _ HS7 (fun hHeld => ?_)
      clear hK
      (try simp only [Act.put, sL])
      clear ck fk M6 O6 HS7
      generalize w6.setCell ⟨w.heap.size, 99, none⟩ (.int .i64 0) = w7 at *
      have L7 := hide (show (m6.set 99 0).length = 101 by rw [List.length_set]; exact L6.out)
      generalize m6.set 99 0 = m7 at *
      refine wpAnyH_take (i := 8) (v := ?vpc8) rfl (by kernel_rfl) (by kernel_rfl) (by kernel_rfl) (fun _ _ _ h => h) (Or.inl ⟨by rfl, ?ypc8⟩) hHeld ?rpc8
      case ypc8 => (intro w' hSw; go_simp; (try with_reducible rfl))
      (try simp only [Act.put, sL])
      refine wpAnyH_ready (rs := [9]) (by kernel_rfl) (by simp) (AllReadyH.cons rfl (fun K hK => ?_) AllReadyH.nil)
      (try simp only [Act.put, sL])
      have ck := M7.out.1.cellS L7.out
      have fk := M7.out.1.free 101
      have M8 := hide (M7.out.setS L7.out sil)
      have O8 := hide (O7.out.keepLt (grown_setCell w7 ⟨w.heap.size, 101, none⟩ (.bool sil)) (by have := NB.out; simp; omega))
      have HS8 := And.intro (hHeld.1.keepBut (grown_setCell w7 ⟨w.heap.size, 101, none⟩ (.bool sil)) (by simp)) (hHeld.2.keepBut (grown_setCell w7 ⟨w.heap.size, 101, none⟩ (.bool sil)) (by have := NB.out; simp; omega))
      go_simp
      go_wp2_with fail
      refine hK.out _ _ HS8 (fun hHeld => ?_)
      clear hK
      (try simp only [Act.put, sL])
      clear ck fk M7 O7 HS8
      generalize w7.setCell ⟨w.heap.size, 101, none⟩ (.bool sil) = w8 at *
      refine wpAnyH_done (by kernel_rfl) ?_ _
      clear hHeld
      go_upto_region 15 with fail
      have A8 := hide (BlkM.all sil L7.out)
      have C8 := hide (memC_len L7.out sil)
      have ON := hide (memC_one m7 sil)
      have PB := hide (M8.out.fin m7 sil L7.out)
      have O9 := hide (O8.out.keepLt PB.out.2.2 (by have := NB.out; omega))
      have FF := hide (F.out _ _ (O9.out.base (b' := w.heap.size) (by have := NB.out; omega)) PB.out.2.1)
      clear F O8 O9
      go_wp2_with (first | refine wpList_load_v rfl 25 _ rfl w.heap.size 0 102 rfl 25 (memC m7 sil) M8.out.1 _ Tryz.underlying25 rfl size102 (by rw [C8.out]; omega) _ A8.out ?_ | refine wpList_store_v rfl 25 _ _ rfl (w.heap.size + 1 + 1) 0 25 (memC (zeros 101) false) (memC m7 sil) rfl rfl M8.out.2.2.1 (by rw [ZL.out, C8.out]; omega) (by rw [C8.out]; exact size102) ON.out ?_)
      have hlv := loadVar_v PB.out.1 _ Tryz.underlying25 rfl (by rw [C8.out]; exact size102)
      refine bodyPost_ret (v := .tuple #[.agg (memC m7 sil).toArray, _]) ?_ rfl FF.out
      simp [results, Tryz.results35, asAddr, Act.put, hlv]
theorem refPlay_any (w : World) (a0 : Addr) (c0 : Nat) (hW : WideR w a0 c0) (a1 : Addr) (c1 : Nat) (hS : Steps w a1 c1) (a2 : Addr) (c2 : Nat) (hG : GainR w a2 c2) : CPl 35 w := fun l s hl hg p hp gp wr g => by
  have k : 0 ≤ nth p 0 ∧ nth p 0 ≤ 2 := (gudP_iff p).1 gp 0 (by omega)
  obtain h | h | h : nth p 0 = 0 ∨ nth p 0 = 1 ∨ nth p 0 = 2 := by omega
  · exact refPlay_v wr a0 c0 (WideR_keep hW g) a1 c1 (Steps_keep hS g) a2 c2 (GainR_keep hG g) l s hl hg p hp gp h
  · exact refPlay_r wr a0 c0 (WideR_keep hW g) a1 c1 (Steps_keep hS g) a2 c2 (GainR_keep hG g) l s hl hg p hp gp h
  · exact refPlay_s wr a0 c0 (WideR_keep hW g) a1 c1 (Steps_keep hS g) a2 c2 (GainR_keep hG g) l s hl hg p hp gp h
end Go.Proofs.YtjepkgdejkifcaaGreatDoor

/- LCdD -/
namespace Go.Proofs.YtjepkgdejkifcaaGreatDoor
open Go.RowKit
set_option linter.unusedVariables false
theorem rde_of {W : World} {a3 : Addr} {c3 : Nat} (t3 : TabS W 4 a3 c3 gro 15) {a4 : Addr} {c4 : Nat} (t4 : TabS W 0 a4 c4 wids 8) {a5 : Addr} {c5 : Nat} (t5 : TabS W 1 a5 c5 gains 8) : CDe 9 W :=
  fun l s hl h64 v b wr g hb sh hby hsz => refDecode_any wr (refPlay_any wr a4 c4 (TabS_keep t4 g) a3 c3 (TabS_keep t3 g) a5 c5 (TabS_keep t5 g)) (fun v b wx q hv hy hz => refUnpack_any v b wx hv hy (by omega) a4 c4 (TabS_keep (TabS_keep t4 g) q)) v b hb hby hsz l s hl h64
theorem crd_codDecodes (W : World) (t0 : TabA W 5 gro 15) (t1 : TabA W 2 widq 8) (t2 : TabA W 3 gains 8) (a3 : Addr) (c3 : Nat) (t3 : TabS W 4 a3 c3 gro 15) (a4 : Addr) (c4 : Nat) (t4 : TabS W 0 a4 c4 wids 8) (a5 : Addr) (c5 : Nat) (t5 : TabS W 1 a5 c5 gains 8) (l : List Int) (s : Bool) (hl : l.length = 101) (h64 : In64 l) (v : Value) (b : List Int) (hb : Byts W v b) (hsz : b.length ≤ 140737488351232) (hby : byB b) (hsh : Shp v b) :
    Calls Tryz.prog 3 #[memV l s, v] W fun e w' => e = .returned (.bool true) ∧ Below W.heap.size W w' :=
  law_codDecodes W (cde_of t0 t1 t2) (rde_of t3 t4 t5) (fun wr g => refFresh_any wr) (rpk_of t4) l s hl h64 v b hb hsz hby hsh
end Go.Proofs.YtjepkgdejkifcaaGreatDoor
