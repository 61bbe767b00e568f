/- Texts put together: CodL, CodH, LConM, LEnc, LCdS, KeepC, LCodE, LGds, LCmm, LCdM. -/
import Derived.Test.YtjepkgdejkifcaaGreatDoorBun7
import Derived.Test.YtjepkgdejkifcaaGreatDoorBun4
import Derived.Deep.Cut
import Derived.Test.YtjepkgdejkifcaaGreatDoorBun6
import Derived.Test.YtjepkgdejkifcaaGreatDoorBun1
import Derived.BigQuiet
import Derived.Deep.QuietTactic
import Derived.OwnWalk
import Derived.Test.YtjepkgdejkifcaaGreatDoorBun5
import Derived.Test.YtjepkgdejkifcaaGreatDoorBun3
import Derived.Laws.AppendOwn
/- CodL -/
namespace Go.Proofs.YtjepkgdejkifcaaGreatDoor
open Go.RowKit
set_option linter.unusedVariables false
set_option linter.unusedSimpArgs false
set_option maxHeartbeats 4000000
theorem zero_pktK (w : World) : Sem.run Tryz.prog (zeroValue 38) w = .ok (.agg (arrI (zeros 25))) w := by
  have hz := zPkt
  cases hq : Tryz.prog.info? 38 with
  | none => simp [hq] at hz
  | some i =>
    have hi : i.zero = some (.agg (arrI (zeros 25))) := by simpa [hq] using hz
    simp [zeroValue, typeInfo, hq, hi]
theorem gud_64C {q : List Int} (hl : q.length = 25) (h : gudP q = true) : In64 q := fun i => by
  by_cases hi : i < 25
  · have := (gudP_iff q).1 h i hi
    have := moN_lt i hi
    omega
  · rw [getD_out _ i (by omega)]; omega
set_option maxRecDepth 100000 in
theorem run_build_pkt (kd : Int) (q : List Int) (hq : q.length = 8) (w : World) : Sem.run Tryz.prog (Instr.build 38 #[(0, .int .i64 kd), (1, .agg (arrI q))]) w = .ok (.agg (intsV (kd :: (q ++ zeros 16))).toArray) w := by
  obtain ⟨a, b, c, d, e, f, g, h, rfl⟩ : ∃ a b c d e f g h, q = [a, b, c, d, e, f, g, h] := by
    match q, hq with
    | [a, b, c, d, e, f, g, h], _ => exact ⟨a, b, c, d, e, f, g, h, rfl⟩
  kernel_rfl
theorem yields_build_pkt {w : World} {a : Act} {op : Oper} {x y : Operand} (kd : Int) (q P : List Int) (hq : ∀ u, Sem.run Tryz.prog (Instr.build 38 #[(0, .int .i64 kd), (1, .agg (arrI q))]) u = .ok (.agg (intsV P).toArray) u) (ho : op.op = .build 38 #[(0, x), (1, y)]) (hx : a.eval x = .int .i64 kd) (hy : a.eval y = .agg (arrI q)) :
    (execOp a.eval op).run Tryz.prog w = .ok (.value (.agg (intsV P).toArray)) w := by
  have e : (#[(0, x), (1, y)] : Array (Nat × Operand)).map (fun (i, x) => (i, a.eval x)) = #[(0, .int .i64 kd), (1, .agg (arrI q))] := by simp [hx, hy]
  unfold execOp
  simp only [ho, e, Sem.run_bind, hq, Result.andThen_ok, Sem.run_pure]
theorem pkt_put (kd : Int) (q S : List Int) (hq : q.length = 8) (hS : S.length = 16) : ovr (kd :: (q ++ zeros 16)) 9 S = kd :: (q ++ S) := by
  refine list_nth (by rw [ovr_len]; simp [hq, hS, zeros_len]) (fun i hi => ?_)
  rw [ovr_len] at hi
  have h25 : i < 25 := by simp [hq, zeros_len] at hi; omega
  rw [ovr_nth _ _ _ _ hi]
  by_cases h0 : i = 0
  · subst h0; rw [if_neg (by omega)]; rfl
  · obtain ⟨j, rfl⟩ : ∃ j, i = j + 1 := ⟨i - 1, by omega⟩
    show (if 9 ≤ j + 1 ∧ j + 1 < 9 + S.length then nth S (j + 1 - 9) else nth (q ++ zeros 16) j) = nth (q ++ S) j
    by_cases h8 : j < 8
    · rw [if_neg (by omega), nth_app_l _ _ _ (by omega), nth_app_l _ _ _ (by omega)]
    · rw [if_pos (by omega), nth_app_r q S j (by omega), hq, show j + 1 - 9 = j - 8 by omega]
theorem enc_putM (A I M0 M : List Int) (s t : Bool) (hA : A.length = 4) (hI : I.length = 120) (h0 : M0.length = 101) (hM : M.length = 101) : splV (encC (A ++ (I ++ M0)) s) 124 (memC M t) = encC (A ++ (I ++ M)) t := by
  have e0 : encC (A ++ (I ++ M0)) s = (intsV A ++ intsV I) ++ ((intsV M0 ++ [.bool s]) ++ []) := by unfold encC mixC intsV; simp
  rw [e0, splV_mid _ _ _ _ 124 (by rw [List.length_append, intsV_len, intsV_len, hA, hI]) (by unfold memC; rw [mixC_len, hM, List.length_append, intsV_len, h0]; rfl)]
  unfold encC memC mixC intsV
  simp
def PktR (W : World) (P : List Int) (v : Value) (wx : World) : Prop := ∃ b, v = .pointer (some ⟨b, 0, none⟩) ∧ BlkV wx b 38 (intsV P) ∧ W.heap.size ≤ b ∧ W.grownBy wx none
set_option maxRecDepth 100000 in
theorem codEncode_err (w : World) (e : List Int) (s : Bool) (he : e.length = 225) (v : Value) (l : List Int) (hi : Ints w v l) (hsz : l.length * 8 ≤ 140737488351232) (r : Bool) (hk : ¬ enOk e l) : Calls Tryz.prog 13 #[encV e s, v, .bool r] w (EncE w (encM e l r) (encT e l r) (encB e l r) (encL e l r) (encE e l)) := by
  have Q0 := hide (EnQ.new w e s)
  have HE := hide he
  have CE := hide (encC_len he s)
  have AE := hide (BlkE.all s he)
  have ZC := hide (encC_len (zeros_len 225) false)
  have ZO := hide (encC_one (zeros 225) false)
  have hz := zero_enc
  have LI := hide (fun wr (g : w.grownBy wr none) => codListened_err wr e s he v l (Ints_keep hi g) hsz hk)
  have hne : encE e l ≠ 0 := by unfold encE; (repeat' split) <;> first | exact absurd ‹_› hk | decide
  have F := hide (show ∀ w', w.grownBy w' none → EncE w (encM e l r) (encT e l r) (encB e l r) (encL e l r) (encE e l) (.returned (.tuple #[encV (zeros 225) false, .slice none 0 0, .slice none 0 0, .int .i64 (encE e l)])) w' from fun w' q => ⟨_, _, by rw [(enc_no r hk).1, (enc_no r hk).2.1], by rw [(enc_no r hk).2.2.1]; exact OwnB_nil _ _, by rw [(enc_no r hk).2.2.2]; exact Own_nil _ _, q⟩)
  clear hk hi
  generalize EncE w (encM e l r) (encT e l r) (encB e l r) (encL e l r) (encE e l) = T at *
  generalize encE e l = en at *
  have hnb : (en == 0) = false := beq_eq_false_iff_ne.2 hne
  clear hne
  unfold LisE at LI
  obtain ⟨Z8, hZ8⟩ : ∃ Z8, zeros 8 = Z8 := ⟨_, rfl⟩
  have LQ := hide (show Z8.length = 8 by rw [← hZ8]; exact zeros_len 8)
  rw [hZ8] at LI
  clear hZ8
  unfold encV at LI hz F ⊢
  go_enter Tryz.func13, Tryz.ntmps13
  go_upto_region 1 with fail
  generalize (w.alloc (.cells (encC e s).toArray 47)).alloc (.cells (encC (zeros 225) false).toArray 47) = W0 at *
  go_wp2_with (first | refine wpList_load_v rfl 47 _ rfl w.heap.size 0 226 rfl 47 (encC e s) Q0.out.1 _ Tryz.underlying47 rfl size226 (by rw [CE.out]; omega) _ AE.out ?_)
  refine (LI.out W0 Q0.out.2.2).mono ?_
  rintro x W1 ⟨m, t, lm, rfl, g1⟩
  have LMM := hide lm
  clear lm LI
  obtain ⟨b1, b2, b3⟩ := fresh_arr W1 22 8 Z8 LQ.out
  have B1 := hide b1
  have NB := hide (show w.heap.size + 1 + 1 ≤ W1.heap.size from (Q0.out.keep g1).2.1.lt)
  have GA := grown_alloc W1 (.cells (arrI (zeros 8)) 22) none
  have QA := hide ((Q0.out.keep g1).keep GA)
  have PU := QA.out.1.putAll (m := m) (t := t) HE.out LMM.out
  have E2 := hide PU.1
  have R2 := hide (QA.out.2.1.keepBut PU.2 (by omega))
  have G2 := hide (grown_own QA.out.2.2 PU.2 (Nat.le_refl _))
  have B2 := hide (b1.keepBut PU.2 (by have := NB.out; omega))
  have PV := put_arr (rs' := Z8) B2.out (LQ.out.trans (zeros_len 8).symm)
  have B3 := hide PV.1
  have E3 := hide (E2.out.keepBut PV.2 (by have := NB.out; omega))
  have R3 := hide (R2.out.keepBut PV.2 (by have := NB.out; omega))
  have G3 := hide (grown_own G2.out PV.2 (by have := NB.out; omega))
  have CM := hide (encC_len LMM.out t)
  have OM := hide (encC_one m t)
  rw [z8'] at B1 QA E2 R2 G2 B2 B3 E3 R3 G3
  clear b1 b2 b3 GA PU PV g1 Q0 AE
  go_upto_region 2 with (first | refine wpList_store_v rfl 47 _ _ rfl w.heap.size 0 47 (encC e s) (encC m t) rfl rfl QA.out.1 (by rw [CE.out, CM.out]; omega) (by rw [CM.out]; exact size226) OM.out ?_ | refine wpList_store_arr rfl 22 _ _ rfl _ (zeros 8) Z8 rfl rfl B2.out (LQ.out.trans (zeros_len 8).symm) (by rw [zeros_len]; exact size8) ?_)
  (try simp only [Act.put])
  clear QA E2 R2 G2 B1 B2 OM
  generalize putArr _ W1.heap.size Z8 = W3 at *
  generalize W1.heap.size = bq at *
  have PB := hide (R3.out.putAll (m := zeros 225) (t := false) (zeros_len 225) (zeros_len 225))
  have FF := hide (F.out _ (grown_own G3.out PB.out.2 (by omega)))
  clear F
  go_wp2_with (first | refine wpList_store_v rfl 47 _ _ rfl (w.heap.size + 1) 0 47 (encC (zeros 225) false) (encC (zeros 225) false) rfl rfl R3.out (by rw [ZC.out]; omega) (by rw [ZC.out]; exact size226) ZO.out ?_)
  have hlv := loadVar_v PB.out.1 _ Tryz.underlying47 rfl (by rw [ZC.out]; exact size226)
  refine bodyPost_ret (v := .tuple #[.agg (encC (zeros 225) false).toArray, .slice none 0 0, .slice none 0 0, .int .i64 en]) ?_ rfl FF.out
  simp [results, Tryz.results13, asAddr, Act.put, hlv]
set_option maxRecDepth 100000 in
theorem codEncode_s (w : World) (e : List Int) (s : Bool) (he : e.length = 225) (v : Value) (l : List Int) (hi : Ints w v l) (hsz : l.length * 8 ≤ 140737488351232) (r : Bool) (hW : Wide w) (hX : TabA w 2 widq 8) (hT : TabA w 3 gains 8) (hG : Grows w) (hk : enOk e l) (hs : enKd e l r = 2) : Calls Tryz.prog 13 #[encV e s, v, .bool r] w (EncE w (encM e l r) (encT e l r) (encB e l r) (encL e l r) (encE e l)) := by
  have Q0 := hide (EnQ.new w e s)
  have HE := hide he
  have CE := hide (encC_len he s)
  have AE := hide (BlkE.all s he)
  have ZC := hide (encC_len (zeros_len 225) false)
  have ZO := hide (encC_one (zeros 225) false)
  have hz := zero_enc
  have LI := hide (fun wr (g : w.grownBy wr none) => codListened_yes wr e s he v l (Ints_keep hi g) hsz (Wide_keep hW g) hk)
  obtain ⟨hl, hg, hh, hc⟩ := id hk
  have cr := enC_right hh
  have cl : (enC e l).length = 80 := (enC_len hh).trans hl
  have il := enI_len hl hh
  have mm : (enMm e).length = 101 := prt_len _ _ _
  have ql : (enQ e l).length = 8 := quL_len _
  have lE : (enHp e l ++ (enI e l ++ enMm e)).length = 225 := by rw [List.length_append, List.length_append, il, mm]; rfl
  obtain ⟨E1, hE1⟩ : ∃ E1, enHp e l ++ (enI e l ++ enMm e) = E1 := ⟨_, rfl⟩
  have LE1 := hide (show E1.length = 225 by rw [← hE1]; exact lE)
  have pc : prt E1 44 80 = enC e l := by
    refine (tab_ext cl (fun i hi => ?_)).symm
    rw [← hE1, nth_app_r _ _ _ (by show 4 ≤ 44 + i; omega), show (enHp e l).length = 4 from rfl, nth_app_l _ _ _ (by rw [il]; omega)]
    unfold enI
    rw [nth_app_r _ _ _ (by rw [prt_len]; omega), prt_len, show 44 + i - 4 - 40 = i by omega]
  have pm : prt E1 124 101 = enMm e := by
    refine (tab_ext mm (fun i hi => ?_)).symm
    rw [← hE1, nth_app_r _ _ _ (by show 4 ≤ 124 + i; omega), show (enHp e l).length = 4 from rfl, nth_app_r _ _ _ (by rw [il]; omega), il, show 124 + i - 4 - 120 = i by omega]
  rw [hE1] at LI
  have IF := hide (fun wr (h : BlkE wr w.heap.size E1 s) => h.input 44 80 80 (by rw [LE1.out]; omega) (by omega))
  rw [pc] at IF
  obtain ⟨kd, hkd⟩ : ∃ kd, enKd e l r = kd := ⟨_, rfl⟩
  obtain ⟨q, hq⟩ : ∃ q, enQ e l = q := ⟨_, rfl⟩
  rw [hq] at ql LI
  have LQ := hide ql
  have KI := hide (fun wr (g : w.grownBy wr none) (h : Ints wr (.slice (some ⟨w.heap.size, 44, none⟩) 80 80) (enC e l)) => codKind_any (.slice (some ⟨w.heap.size, 44, none⟩) 80 80) (enC e l) r wr h cl cr)
  rw [show (if r = true then (1 : Int) else if dotS (enC e l) (enC e l) 80 < 1280 then 2 else 0) = kd from hkd] at KI
  obtain ⟨P0, hP0⟩ : ∃ P0, kd :: (q ++ zeros 16) = P0 := ⟨_, rfl⟩
  have LP0 := hide (show P0.length = 25 by rw [← hP0]; simp [ql, zeros_len])
  have RB := hide (fun u => run_build_pkt kd q ql u)
  rw [hP0] at RB
  have PG : gudP (enP e l r) = true := enP_good r hg
  have PL : (enP e l r).length = 25 := enP_len r hg
  have PK := hide (fun wr (g : w.grownBy wr none) => pkPack_any (enP e l r) PL (gud_64C PL PG) wr (TabA_keep hX g))
  unfold PkP at PK
  rw [show pkR (enP e l r) = pkA (enP e l r) from if_pos PG] at PK
  have PY := hide (fun wr (g : w.grownBy wr none) => codPlayed_any wr (Wide_keep hW g) (TabA_keep hT g) (growsC_keep hG g) (enMm e) s mm hg (enP e l r) PL PG)
  have ML := hide (plyM_len (enP e l r) mm)
  have F := hide (show ∀ vb vl w', OwnB w.heap.size w' vb (pkA (enP e l r)) → Own w.heap.size w' vl (plyL (enMm e) (enP e l r)) → w.grownBy w' none → EncE w (encM e l r) (encT e l r) (encB e l r) (encL e l r) (encE e l) (.returned (.tuple #[encV (enHp e l ++ (enI e l ++ plyM (enMm e) (enP e l r))) (plyS (enP e l r)), vb, vl, .int .i64 0])) w' from fun vb vl w' o1 o2 qq => ⟨vb, vl, by rw [(enc_yes r hk).1, (enc_yes r hk).2.1, (enc_yes r hk).2.2.2.2], by rw [(enc_yes r hk).2.2.1]; exact o1, by rw [(enc_yes r hk).2.2.2.1]; exact o2, qq⟩)
  have FL := hide (show (enHp e l ++ (enI e l ++ plyM (enMm e) (enP e l r))).length = 225 by rw [List.length_append, List.length_append, il, ML.out]; rfl)
  have SM := hide (show splV (encC E1 s) 124 (memC (plyM (enMm e) (enP e l r)) (plyS (enP e l r))) = encC (enHp e l ++ (enI e l ++ plyM (enMm e) (enP e l r))) (plyS (enP e l r)) from by
    rw [← hE1]
    exact enc_putM (enHp e l) (enI e l) (enMm e) _ s _ rfl il mm ML.out)
  have PM := hide (encC_mem s LE1.out)
  rw [pm] at PM
  have CE1 := hide (encC_len LE1.out s)
  have AE1 := hide (BlkE.all s LE1.out)
  have CMM := hide (memC_len mm s)
  have c0 := hide (show nth P0 0 = kd by rw [← hP0]; rfl)
  have kd2 : kd = 2 := by rw [← hkd]; exact hs
  have hne : (kd == 2) = true := beq_iff_eq.2 kd2
  have EP := hide (show P0 = enP e l r from by
    rw [← hP0, ← hq, ← hkd]
    unfold enP enS
    rw [if_pos hs])
  have AP := hide (BlkI.all (enP e l r) 25 PL)
  have LPP := hide PL
  clear hk hl hg hh hc cr cl il mm ql lE hE1 pc pm hkd hq hP0 PG PL hs hi hW hX hT hG kd2
  generalize EncE w (encM e l r) (encT e l r) (encB e l r) (encL e l r) (encE e l) = T at *
  generalize enHp e l ++ (enI e l ++ plyM (enMm e) (enP e l r)) = EF at *
  generalize plyM (enMm e) (enP e l r) = MF at *
  generalize plyS (enP e l r) = tf at *
  generalize plyL (enMm e) (enP e l r) = LF at *
  generalize pkA (enP e l r) = BF at *
  generalize pakE (enP e l r) = pe at *
  generalize enP e l r = PP at *
  generalize enMm e = MM at *
  generalize enC e l = CC at *
  unfold MmL at PY
  unfold encV at LI hz F ⊢
  unfold memV at PY
  go_enter Tryz.func13, Tryz.ntmps13
  go_upto_region 1 with fail
  generalize (w.alloc (.cells (encC e s).toArray 47)).alloc (.cells (encC (zeros 225) false).toArray 47) = W0 at *
  go_wp2_with (first | refine wpList_load_v rfl 47 _ rfl w.heap.size 0 226 rfl 47 (encC e s) Q0.out.1 _ Tryz.underlying47 rfl size226 (by rw [CE.out]; omega) _ AE.out ?_)
  refine (LI.out W0 Q0.out.2.2).mono ?_
  rintro x W1 ⟨rfl, g1⟩
  clear LI
  obtain ⟨b1, b2, b3⟩ := fresh_arr W1 22 8 q LQ.out
  have B1 := hide b1
  have NB := hide (show w.heap.size + 1 + 1 ≤ W1.heap.size from (Q0.out.keep g1).2.1.lt)
  have GA := grown_alloc W1 (.cells (arrI (zeros 8)) 22) none
  have QA := hide ((Q0.out.keep g1).keep GA)
  have PU := QA.out.1.putAll (m := E1) (t := s) HE.out LE1.out
  have E2 := hide PU.1
  have R2 := hide (QA.out.2.1.keepBut PU.2 (by omega))
  have G2 := hide (grown_own QA.out.2.2 PU.2 (Nat.le_refl _))
  have B2 := hide (b1.keepBut PU.2 (by have := NB.out; omega))
  have PV := put_arr (rs' := q) B2.out (LQ.out.trans (zeros_len 8).symm)
  have B3 := hide PV.1
  have E3 := hide (E2.out.keepBut PV.2 (by have := NB.out; omega))
  have R3 := hide (R2.out.keepBut PV.2 (by have := NB.out; omega))
  have G3 := hide (grown_own G2.out PV.2 (by have := NB.out; omega))
  have CM := hide (encC_len LE1.out s)
  have OM := hide (encC_one E1 s)
  rw [z8'] at B1 QA E2 R2 G2 B2 B3 E3 R3 G3
  clear b1 b2 b3 GA PU PV g1 Q0 AE
  go_upto_region 2 with (first | refine wpList_store_v rfl 47 _ _ rfl w.heap.size 0 47 (encC e s) (encC E1 s) rfl rfl QA.out.1 (by rw [CE.out, CM.out]; omega) (by rw [CM.out]; exact size226) OM.out ?_ | refine wpList_store_arr rfl 22 _ _ rfl _ (zeros 8) q rfl rfl B2.out (LQ.out.trans (zeros_len 8).symm) (by rw [zeros_len]; exact size8) ?_)
  (try simp only [Act.put])
  clear QA E2 R2 G2 B1 B2 OM
  generalize putArr _ W1.heap.size q = W3 at *
  generalize W1.heap.size = bq at *
  go_upto_region 4 with fail
  go_upto_region 5 with fail
  replace IF := hide (fun wr (g : W3.grownBy wr none) => IF.out wr (E3.out.keep g))
  clear hz
  have hzp := zero_pktK
  go_cut [13] from 18 (fun s13 wx => PktR W3 P0 s13 wx)
  case first =>
    refine wp_region_held_drew (S := GrownW W3) (by kernel_rfl) (gw_start _) (fun hHeld => ?_)
    refine wpAnyH_take (i := 0) (v := ?ve0) rfl (by kernel_rfl) (by kernel_rfl) (by kernel_rfl) (fun _ _ _ h => h) (Or.inl ⟨by rfl, ?ye0⟩) hHeld ?re0
    case ye0 => (intro w' hSw; go_simp; (try with_reducible rfl))
    (try simp only [Act.put, sL])
    refine wpAnyH_take (i := 1) (v := ?ve1) rfl (by kernel_rfl) (by kernel_rfl) (by kernel_rfl) (fun _ _ _ h => h) (Or.inl ⟨by rfl, ?ye1⟩) hHeld ?re1
    case ye1 => (intro w' hSw; go_simp; (try with_reducible rfl))
    (try simp only [Act.put, sL])
    refine wpAnyH_take (i := 3) (v := .agg (arrI q)) rfl (by kernel_rfl) (by kernel_rfl) (by kernel_rfl) (fun _ _ _ h => h) (Or.inl ⟨by rfl, ?ye3⟩) hHeld ?re3
    case ye3 => (intro w' hSw; exact yields_load_arr rfl rfl (B3.out.keep hSw) _ Tryz.underlying22 rfl (by rw [LQ.out]; exact size8))
    (try simp only [Act.put, sL])
    refine wpAnyH_ready (rs := [2, 5]) (by kernel_rfl) (by simp) (AllReadyH.cons rfl (fun K hK => ?gea) (AllReadyH.cons rfl (fun K hK => ?geb) AllReadyH.nil))
    case gea =>
      (try simp only [Act.put, sL])
      go_simp
      refine (KI.out _ (grown_none G3.out hHeld) (IF.out _ hHeld)).mono ?_
      rintro x wk ⟨rfl, rfl⟩
      go_wp2_with fail
      refine hK.out _ _ hHeld (fun hHeld => ?_)
      clear hK
      (try simp only [Act.put, sL])
      refine wpAnyH_take (i := 4) (v := .agg (intsV P0).toArray) rfl (by kernel_rfl) (by kernel_rfl) (by kernel_rfl) (fun _ _ _ h => h) (Or.inl ⟨by rfl, ?ye4⟩) hHeld ?re4
      case ye4 => (intro w' hSw; exact yields_build_pkt kd q P0 RB.out rfl rfl rfl)
      (try simp only [Act.put, sL])
      refine wpAnyH_ready (rs := [5]) (by kernel_rfl) (by simp) (AllReadyH.cons rfl (fun K hK => ?_) AllReadyH.nil)
      (try simp only [Act.put, sL])
      go_simp
      go_wp2_with fail
      have HB := hide (show W3.heap.size ≤ W3.heap.size from by first | exact Nat.le_refl _ | exact World.grownBy.size hHeld)
      refine hK.out _ _ (gw_alloc hHeld (.cells (arrI (zeros 25)) 38)) (fun hHeld => ?_)
      clear hK
      have HZ := hide (show BlkV ((W3.alloc (.cells (arrI (zeros 25)) 38)).drew) (W3.heap.size) 38 (intsV (zeros 25)) from BlkV.new W3.drew 38 (intsV (zeros 25)))
      generalize (W3.alloc (.cells (arrI (zeros 25)) 38)).drew = wz at *
      (try simp only [Act.put, sL])
      refine wpAnyH_ready (rs := [6]) (by kernel_rfl) (by simp) (AllReadyH.cons rfl (fun K hK => ?_) AllReadyH.nil)
      (try simp only [Act.put, sL])
      refine step_store_v rfl 38 _ _ rfl (W3.heap.size) 0 38 (intsV (zeros 25)) (intsV P0) rfl rfl HZ.out (by rw [intsV_len, intsV_len, LP0.out, zeros_len]; omega) (by rw [intsV_len, LP0.out]; exact size25) (intsV_one _) ?_
      have PU := put_v HZ.out 0 (intsV P0) (by rw [intsV_len, intsV_len, LP0.out, zeros_len]; omega)
      rw [splV_all _ _ (by rw [intsV_len, intsV_len, LP0.out, zeros_len])] at PU
      refine hK.out _ _ (gw_own hHeld PU.2 HB.out) (fun hHeld => ?_)
      clear hK
      (try simp only [Act.put, sL])
      refine wpAnyH_done (by kernel_rfl) ?_ _
      go_wp2_with fail
      go_meet
      exact ⟨W3.heap.size, rfl, PU.1, HB.out, hHeld⟩
    case geb =>
      (try simp only [Act.put, sL])
      go_simp
      go_wp2_with fail
      have HB := hide (show W3.heap.size ≤ W3.heap.size from by first | exact Nat.le_refl _ | exact World.grownBy.size hHeld)
      refine hK.out _ _ (gw_alloc hHeld (.cells (arrI (zeros 25)) 38)) (fun hHeld => ?_)
      clear hK
      have HZ := hide (show BlkV ((W3.alloc (.cells (arrI (zeros 25)) 38)).drew) (W3.heap.size) 38 (intsV (zeros 25)) from BlkV.new W3.drew 38 (intsV (zeros 25)))
      generalize (W3.alloc (.cells (arrI (zeros 25)) 38)).drew = wz at *
      (try simp only [Act.put, sL])
      refine wpAnyH_ready (rs := [2]) (by kernel_rfl) (by simp) (AllReadyH.cons rfl (fun K hK => ?_) AllReadyH.nil)
      (try simp only [Act.put, sL])
      go_simp
      refine (KI.out _ (grown_none G3.out hHeld) (IF.out _ hHeld)).mono ?_
      rintro x wk ⟨rfl, rfl⟩
      go_wp2_with fail
      refine hK.out _ _ hHeld (fun hHeld => ?_)
      clear hK
      (try simp only [Act.put, sL])
      refine wpAnyH_take (i := 4) (v := .agg (intsV P0).toArray) rfl (by kernel_rfl) (by kernel_rfl) (by kernel_rfl) (fun _ _ _ h => h) (Or.inl ⟨by rfl, ?ye5⟩) hHeld ?re5
      case ye5 => (intro w' hSw; exact yields_build_pkt kd q P0 RB.out rfl rfl rfl)
      (try simp only [Act.put, sL])
      refine wpAnyH_ready (rs := [6]) (by kernel_rfl) (by simp) (AllReadyH.cons rfl (fun K hK => ?_) AllReadyH.nil)
      (try simp only [Act.put, sL])
      refine step_store_v rfl 38 _ _ rfl (W3.heap.size) 0 38 (intsV (zeros 25)) (intsV P0) rfl rfl HZ.out (by rw [intsV_len, intsV_len, LP0.out, zeros_len]; omega) (by rw [intsV_len, LP0.out]; exact size25) (intsV_one _) ?_
      have PU := put_v HZ.out 0 (intsV P0) (by rw [intsV_len, intsV_len, LP0.out, zeros_len]; omega)
      rw [splV_all _ _ (by rw [intsV_len, intsV_len, LP0.out, zeros_len])] at PU
      refine hK.out _ _ (gw_own hHeld PU.2 HB.out) (fun hHeld => ?_)
      clear hK
      (try simp only [Act.put, sL])
      refine wpAnyH_done (by kernel_rfl) ?_ _
      go_wp2_with fail
      go_meet
      exact ⟨W3.heap.size, rfl, PU.1, HB.out, hHeld⟩
  case rest =>
  obtain ⟨bp, rfl, HP, hb, gc⟩ := hcut
  have P4 := hide HP
  have HBP := hide hb
  have G4 := hide (grown_none G3.out gc)
  have E4 := hide (E3.out.keep gc)
  have R4 := hide (R3.out.keep gc)
  have NBP := hide (show w.heap.size + 1 + 1 ≤ bp from Nat.le_trans (show w.heap.size + 1 + 1 ≤ W3.heap.size from R3.out.lt) hb)
  have IF4 := hide (IF.out wc gc)
  clear HP hb gc E3 R3 G3 B3 KI IF RB hzp
  have cp := (P4.out.cell 0).trans (ints_getC P0 0 (by rw [LP0.out]; omega))
  rw [c0.out] at cp
  go_upto_region 8 with fail
  clear cp
  have P5 := hide (show BlkV wc bp 38 (intsV PP) from by rw [← EP.out]; exact P4.out)
  have E5 := E4
  have R5 := R4
  have G5 := G4
  clear P4 E4 R4 G4 IF4
  generalize hwc : wc = W5 at *
  clear hwc
  have N5 := hide (show bp + 1 ≤ W5.heap.size from P5.out.lt)
  go_wp2_with (first | refine wpList_load_v rfl 38 _ rfl bp 0 25 rfl 38 (intsV PP) P5.out _ Tryz.underlying38 rfl size25 (by rw [intsV_len, LPP.out]; omega) _ AP.out ?_)
  refine (PK.out W5 G5.out).mono ?_
  rintro x W6 ⟨vb, rfl, ob, g6⟩
  have P6 := hide (P5.out.keep g6)
  have E6 := hide (E5.out.keep g6)
  have R6 := hide (R5.out.keep g6)
  have G6 := hide (grown_none G5.out g6)
  have OB6 := hide (ob.base N5.out)
  have N6 := hide (Nat.le_trans N5.out g6.size)
  clear PK P5 E5 R5 G5 g6 ob N5
  go_upto_region 9 with fail
  have PY1 := hide (PY.out W6 G6.out)
  clear PY
  go_wp2_with (first | refine wpList_load_v rfl 25 _ rfl w.heap.size 124 102 rfl 47 (encC E1 s) E6.out _ Tryz.underlying25 rfl size102 (by rw [CE1.out]; omega) _ PM.out ?_ | refine wpList_load_v rfl 38 _ rfl bp 0 25 rfl 38 (intsV PP) P6.out _ Tryz.underlying38 rfl size25 (by rw [intsV_len, LPP.out]; omega) _ AP.out ?_)
  refine PY1.out.mono ?_
  rintro x W7 ⟨vl, rfl, ol, g7⟩
  have FB := hide (fresh_memC W7 MF tf ML.out)
  have E8 := hide ((E6.out.keep g7).keep FB.out.2.2)
  have R8 := hide ((R6.out.keep g7).keep FB.out.2.2)
  have G8 := hide (grown_none (grown_none G6.out g7) FB.out.2.2)
  have OB8 := hide ((OB6.out.keep g7).keep FB.out.2.2)
  have OL8 := hide ((ol.base N6.out).keep FB.out.2.2)
  have CF := hide (memC_len ML.out tf)
  have OF := hide (memC_one MF tf)
  have ZM := hide (memC_len (zeros_len 101) false)
  have hzm := zero_mem
  unfold memV at hzm
  clear PY1 P6 E6 R6 G6 OB6 g7 ol N6
  go_upto_region 10 with (first | refine wpList_store_v rfl 25 _ _ rfl W7.heap.size 0 25 (memC (zeros 101) false) (memC MF tf) rfl rfl FB.out.1 (by rw [ZM.out, CF.out]; omega) (by rw [CF.out]; exact size102) OF.out ?_)
  (try simp only [Act.put])
  have V8 := hide FB.out.2.1
  clear FB hzm
  generalize putV (W7.alloc (.cells (memC (zeros 101) false).toArray 25)) W7.heap.size 0 (memC MF tf) = W8 at *
  generalize W7.heap.size = bm at *
  have AF := hide (BlkM.all tf ML.out)
  have PU := put_v E8.out 124 (memC MF tf) (by rw [CF.out, CE1.out]; omega)
  rw [SM.out] at PU
  have E9 := hide (show BlkE _ w.heap.size EF tf from PU.1)
  have R9 := hide (R8.out.keepBut PU.2 (by omega))
  have G9 := hide (grown_own G8.out PU.2 (Nat.le_refl _))
  have OB9 := hide (OB8.out.keepLt PU.2 (by have := NBP.out; omega))
  have OL9 := hide (OL8.out.keepLt PU.2 (by have := NBP.out; omega))
  clear PU R8 G8 OB8 OL8
  go_upto_region 11 with (first | refine wpList_load_v rfl 25 _ rfl bm 0 102 rfl 25 (memC MF tf) V8.out _ Tryz.underlying25 rfl size102 (by rw [CF.out]; omega) _ AF.out ?_ | refine wpList_store_v rfl 25 _ _ rfl w.heap.size 124 47 (encC E1 s) (memC MF tf) rfl rfl E8.out (by rw [CF.out, CE1.out]; omega) (by rw [CF.out]; exact size102) OF.out ?_)
  (try simp only [Act.put])
  clear E8 V8 AF
  generalize putV W8 w.heap.size 124 (memC MF tf) = W9 at *
  have AEF := hide (BlkE.all tf FL.out)
  have CEF := hide (encC_len FL.out tf)
  have OEF := hide (encC_one EF tf)
  have PB := hide (R9.out.putAll (m := EF) (t := tf) (zeros_len 225) FL.out)
  have OBX := hide (OB9.out.keepLt PB.out.2 (by have := NBP.out; omega))
  have OLX := hide (OL9.out.keepLt PB.out.2 (by have := NBP.out; omega))
  have FF := hide (F.out _ _ _ (OBX.out.base (b' := w.heap.size) (by have := NBP.out; omega)) (OLX.out.base (b' := w.heap.size) (by have := NBP.out; omega)) (grown_own G9.out PB.out.2 (by omega)))
  clear F OB9 OL9 OBX OLX
  go_wp2_with (first | refine wpList_load_v rfl 47 _ rfl w.heap.size 0 226 rfl 47 (encC EF tf) E9.out _ Tryz.underlying47 rfl size226 (by rw [CEF.out]; omega) _ AEF.out ?_ | refine wpList_store_v rfl 47 _ _ rfl (w.heap.size + 1) 0 47 (encC (zeros 225) false) (encC EF tf) rfl rfl R9.out (by rw [ZC.out, CEF.out]; omega) (by rw [CEF.out]; exact size226) OEF.out ?_)
  have hlv := loadVar_v PB.out.1 _ Tryz.underlying47 rfl (by rw [CEF.out]; exact size226)
  refine bodyPost_ret (v := .tuple #[.agg (encC EF tf).toArray, _, _, .int .i64 0]) ?_ rfl FF.out
  simp [results, Tryz.results13, asAddr, Act.put, hlv]
set_option maxRecDepth 100000 in
theorem codEncode_v (w : World) (e : List Int) (s : Bool) (he : e.length = 225) (v : Value) (l : List Int) (hi : Ints w v l) (hsz : l.length * 8 ≤ 140737488351232) (r : Bool) (hW : Wide w) (hX : TabA w 2 widq 8) (hT : TabA w 3 gains 8) (hG : Grows w) (hk : enOk e l) (hs : ¬ enKd e l r = 2) : Calls Tryz.prog 13 #[encV e s, v, .bool r] w (EncE w (encM e l r) (encT e l r) (encB e l r) (encL e l r) (encE e l)) := by
  have Q0 := hide (EnQ.new w e s)
  have HE := hide he
  have CE := hide (encC_len he s)
  have AE := hide (BlkE.all s he)
  have ZC := hide (encC_len (zeros_len 225) false)
  have ZO := hide (encC_one (zeros 225) false)
  have hz := zero_enc
  have LI := hide (fun wr (g : w.grownBy wr none) => codListened_yes wr e s he v l (Ints_keep hi g) hsz (Wide_keep hW g) hk)
  obtain ⟨hl, hg, hh, hc⟩ := id hk
  have cr := enC_right hh
  have cl : (enC e l).length = 80 := (enC_len hh).trans hl
  have il := enI_len hl hh
  have mm : (enMm e).length = 101 := prt_len _ _ _
  have ql : (enQ e l).length = 8 := quL_len _
  have lE : (enHp e l ++ (enI e l ++ enMm e)).length = 225 := by rw [List.length_append, List.length_append, il, mm]; rfl
  obtain ⟨E1, hE1⟩ : ∃ E1, enHp e l ++ (enI e l ++ enMm e) = E1 := ⟨_, rfl⟩
  have LE1 := hide (show E1.length = 225 by rw [← hE1]; exact lE)
  have pc : prt E1 44 80 = enC e l := by
    refine (tab_ext cl (fun i hi => ?_)).symm
    rw [← hE1, nth_app_r _ _ _ (by show 4 ≤ 44 + i; omega), show (enHp e l).length = 4 from rfl, nth_app_l _ _ _ (by rw [il]; omega)]
    unfold enI
    rw [nth_app_r _ _ _ (by rw [prt_len]; omega), prt_len, show 44 + i - 4 - 40 = i by omega]
  have pm : prt E1 124 101 = enMm e := by
    refine (tab_ext mm (fun i hi => ?_)).symm
    rw [← hE1, nth_app_r _ _ _ (by show 4 ≤ 124 + i; omega), show (enHp e l).length = 4 from rfl, nth_app_r _ _ _ (by rw [il]; omega), il, show 124 + i - 4 - 120 = i by omega]
  rw [hE1] at LI
  have IF := hide (fun wr (h : BlkE wr w.heap.size E1 s) => h.input 44 80 80 (by rw [LE1.out]; omega) (by omega))
  rw [pc] at IF
  obtain ⟨kd, hkd⟩ : ∃ kd, enKd e l r = kd := ⟨_, rfl⟩
  obtain ⟨q, hq⟩ : ∃ q, enQ e l = q := ⟨_, rfl⟩
  rw [hq] at ql LI
  have LQ := hide ql
  have KI := hide (fun wr (g : w.grownBy wr none) (h : Ints wr (.slice (some ⟨w.heap.size, 44, none⟩) 80 80) (enC e l)) => codKind_any (.slice (some ⟨w.heap.size, 44, none⟩) 80 80) (enC e l) r wr h cl cr)
  rw [show (if r = true then (1 : Int) else if dotS (enC e l) (enC e l) 80 < 1280 then 2 else 0) = kd from hkd] at KI
  obtain ⟨P0, hP0⟩ : ∃ P0, kd :: (q ++ zeros 16) = P0 := ⟨_, rfl⟩
  have LP0 := hide (show P0.length = 25 by rw [← hP0]; simp [ql, zeros_len])
  have RB := hide (fun u => run_build_pkt kd q ql u)
  rw [hP0] at RB
  have PG : gudP (enP e l r) = true := enP_good r hg
  have PL : (enP e l r).length = 25 := enP_len r hg
  have PK := hide (fun wr (g : w.grownBy wr none) => pkPack_any (enP e l r) PL (gud_64C PL PG) wr (TabA_keep hX g))
  unfold PkP at PK
  rw [show pkR (enP e l r) = pkA (enP e l r) from if_pos PG] at PK
  have PY := hide (fun wr (g : w.grownBy wr none) => codPlayed_any wr (Wide_keep hW g) (TabA_keep hT g) (growsC_keep hG g) (enMm e) s mm hg (enP e l r) PL PG)
  have ML := hide (plyM_len (enP e l r) mm)
  have F := hide (show ∀ vb vl w', OwnB w.heap.size w' vb (pkA (enP e l r)) → Own w.heap.size w' vl (plyL (enMm e) (enP e l r)) → w.grownBy w' none → EncE w (encM e l r) (encT e l r) (encB e l r) (encL e l r) (encE e l) (.returned (.tuple #[encV (enHp e l ++ (enI e l ++ plyM (enMm e) (enP e l r))) (plyS (enP e l r)), vb, vl, .int .i64 0])) w' from fun vb vl w' o1 o2 qq => ⟨vb, vl, by rw [(enc_yes r hk).1, (enc_yes r hk).2.1, (enc_yes r hk).2.2.2.2], by rw [(enc_yes r hk).2.2.1]; exact o1, by rw [(enc_yes r hk).2.2.2.1]; exact o2, qq⟩)
  have FL := hide (show (enHp e l ++ (enI e l ++ plyM (enMm e) (enP e l r))).length = 225 by rw [List.length_append, List.length_append, il, ML.out]; rfl)
  have SM := hide (show splV (encC E1 s) 124 (memC (plyM (enMm e) (enP e l r)) (plyS (enP e l r))) = encC (enHp e l ++ (enI e l ++ plyM (enMm e) (enP e l r))) (plyS (enP e l r)) from by
    rw [← hE1]
    exact enc_putM (enHp e l) (enI e l) (enMm e) _ s _ rfl il mm ML.out)
  have PM := hide (encC_mem s LE1.out)
  rw [pm] at PM
  have CE1 := hide (encC_len LE1.out s)
  have AE1 := hide (BlkE.all s LE1.out)
  have CMM := hide (memC_len mm s)
  have c0 := hide (show nth P0 0 = kd by rw [← hP0]; rfl)
  have kd2 : ¬ kd = 2 := by rw [← hkd]; exact hs
  have hne : (kd == 2) = false := beq_eq_false_iff_ne.2 kd2
  have p1 : prt P0 1 8 = q := by
    refine (tab_ext ql (fun i hi => ?_)).symm
    rw [← hP0, Nat.add_comm 1 i]
    exact (nth_app_l q (zeros 16) i (by omega)).symm
  have m0 : (if nth P0 0 = 1 then freL else enMm e) = enF e r := by
    rw [c0.out, ← hkd]
    unfold enKd enF
    cases r with
    | true => rfl
    | false =>
      by_cases hd : dotS (enC e l) (enC e l) 80 < 1280 <;> simp [hd]
  have CH := hide (fun wr (g : w.grownBy wr none) (h : Ints wr (.slice (some ⟨w.heap.size, 44, none⟩) 80 80) (enC e l)) => codChosen_any wr (Wide_keep hW g) (TabA_keep hT g) (growsC_keep hG g) (enMm e) s mm hg P0 LP0.out (by rw [p1, ← hq]; exact quL_good _) (by rw [c0.out]; exact kd2) (.slice (some ⟨w.heap.size, 44, none⟩) 80 80) (enC e l) h cl cr (enF e r) m0)
  rw [p1] at CH
  obtain ⟨SS, hSS⟩ : ∃ SS, enU (nowL q) (enF e r) (enC e l) 0 ++ enU (nowL q) (enF e r) (enC e l) 1 = SS := ⟨_, rfl⟩
  rw [hSS] at CH
  have SE : enS e l r = SS := by
    unfold enS
    rw [if_neg hs, hq, hSS]
  have SL := hide (show SS.length = 16 by rw [← SE]; exact enS_len r hg)
  have EP := hide (show ovr P0 9 SS = enP e l r from by
    unfold enP
    rw [SE, hq, hkd, ← hP0]
    exact pkt_put kd q SS ql SL.out)
  have AP := hide (BlkI.all (enP e l r) 25 PL)
  have LPP := hide PL
  clear hk hl hg hh hc cr cl il mm ql lE hE1 pc pm hkd hq hP0 PG PL hs hi hW hX hT hG kd2 p1 m0 hSS SE
  generalize EncE w (encM e l r) (encT e l r) (encB e l r) (encL e l r) (encE e l) = T at *
  generalize enHp e l ++ (enI e l ++ plyM (enMm e) (enP e l r)) = EF at *
  generalize plyM (enMm e) (enP e l r) = MF at *
  generalize plyS (enP e l r) = tf at *
  generalize plyL (enMm e) (enP e l r) = LF at *
  generalize pkA (enP e l r) = BF at *
  generalize pakE (enP e l r) = pe at *
  generalize enP e l r = PP at *
  generalize enMm e = MM at *
  generalize enC e l = CC at *
  unfold AnsC at CH
  unfold MmL at PY
  unfold encV at LI hz F ⊢
  unfold memV at PY CH
  go_enter Tryz.func13, Tryz.ntmps13
  go_upto_region 1 with fail
  generalize (w.alloc (.cells (encC e s).toArray 47)).alloc (.cells (encC (zeros 225) false).toArray 47) = W0 at *
  go_wp2_with (first | refine wpList_load_v rfl 47 _ rfl w.heap.size 0 226 rfl 47 (encC e s) Q0.out.1 _ Tryz.underlying47 rfl size226 (by rw [CE.out]; omega) _ AE.out ?_)
  refine (LI.out W0 Q0.out.2.2).mono ?_
  rintro x W1 ⟨rfl, g1⟩
  clear LI
  obtain ⟨b1, b2, b3⟩ := fresh_arr W1 22 8 q LQ.out
  have B1 := hide b1
  have NB := hide (show w.heap.size + 1 + 1 ≤ W1.heap.size from (Q0.out.keep g1).2.1.lt)
  have GA := grown_alloc W1 (.cells (arrI (zeros 8)) 22) none
  have QA := hide ((Q0.out.keep g1).keep GA)
  have PU := QA.out.1.putAll (m := E1) (t := s) HE.out LE1.out
  have E2 := hide PU.1
  have R2 := hide (QA.out.2.1.keepBut PU.2 (by omega))
  have G2 := hide (grown_own QA.out.2.2 PU.2 (Nat.le_refl _))
  have B2 := hide (b1.keepBut PU.2 (by have := NB.out; omega))
  have PV := put_arr (rs' := q) B2.out (LQ.out.trans (zeros_len 8).symm)
  have B3 := hide PV.1
  have E3 := hide (E2.out.keepBut PV.2 (by have := NB.out; omega))
  have R3 := hide (R2.out.keepBut PV.2 (by have := NB.out; omega))
  have G3 := hide (grown_own G2.out PV.2 (by have := NB.out; omega))
  have CM := hide (encC_len LE1.out s)
  have OM := hide (encC_one E1 s)
  rw [z8'] at B1 QA E2 R2 G2 B2 B3 E3 R3 G3
  clear b1 b2 b3 GA PU PV g1 Q0 AE
  go_upto_region 2 with (first | refine wpList_store_v rfl 47 _ _ rfl w.heap.size 0 47 (encC e s) (encC E1 s) rfl rfl QA.out.1 (by rw [CE.out, CM.out]; omega) (by rw [CM.out]; exact size226) OM.out ?_ | refine wpList_store_arr rfl 22 _ _ rfl _ (zeros 8) q rfl rfl B2.out (LQ.out.trans (zeros_len 8).symm) (by rw [zeros_len]; exact size8) ?_)
  (try simp only [Act.put])
  clear QA E2 R2 G2 B1 B2 OM
  generalize putArr _ W1.heap.size q = W3 at *
  generalize W1.heap.size = bq at *
  go_upto_region 4 with fail
  go_upto_region 5 with fail
  replace IF := hide (fun wr (g : W3.grownBy wr none) => IF.out wr (E3.out.keep g))
  clear hz
  have hzp := zero_pktK
  go_cut [13] from 18 (fun s13 wx => PktR W3 P0 s13 wx)
  case first =>
    refine wp_region_held_drew (S := GrownW W3) (by kernel_rfl) (gw_start _) (fun hHeld => ?_)
    refine wpAnyH_take (i := 0) (v := ?ve0) rfl (by kernel_rfl) (by kernel_rfl) (by kernel_rfl) (fun _ _ _ h => h) (Or.inl ⟨by rfl, ?ye0⟩) hHeld ?re0
    case ye0 => (intro w' hSw; go_simp; (try with_reducible rfl))
    (try simp only [Act.put, sL])
    refine wpAnyH_take (i := 1) (v := ?ve1) rfl (by kernel_rfl) (by kernel_rfl) (by kernel_rfl) (fun _ _ _ h => h) (Or.inl ⟨by rfl, ?ye1⟩) hHeld ?re1
    case ye1 => (intro w' hSw; go_simp; (try with_reducible rfl))
    (try simp only [Act.put, sL])
    refine wpAnyH_take (i := 3) (v := .agg (arrI q)) rfl (by kernel_rfl) (by kernel_rfl) (by kernel_rfl) (fun _ _ _ h => h) (Or.inl ⟨by rfl, ?ye3⟩) hHeld ?re3
    case ye3 => (intro w' hSw; exact yields_load_arr rfl rfl (B3.out.keep hSw) _ Tryz.underlying22 rfl (by rw [LQ.out]; exact size8))
    (try simp only [Act.put, sL])
    refine wpAnyH_ready (rs := [2, 5]) (by kernel_rfl) (by simp) (AllReadyH.cons rfl (fun K hK => ?gea) (AllReadyH.cons rfl (fun K hK => ?geb) AllReadyH.nil))
    case gea =>
      (try simp only [Act.put, sL])
      go_simp
      refine (KI.out _ (grown_none G3.out hHeld) (IF.out _ hHeld)).mono ?_
      rintro x wk ⟨rfl, rfl⟩
      go_wp2_with fail
      refine hK.out _ _ hHeld (fun hHeld => ?_)
      clear hK
      (try simp only [Act.put, sL])
      refine wpAnyH_take (i := 4) (v := .agg (intsV P0).toArray) rfl (by kernel_rfl) (by kernel_rfl) (by kernel_rfl) (fun _ _ _ h => h) (Or.inl ⟨by rfl, ?ye4⟩) hHeld ?re4
      case ye4 => (intro w' hSw; exact yields_build_pkt kd q P0 RB.out rfl rfl rfl)
      (try simp only [Act.put, sL])
      refine wpAnyH_ready (rs := [5]) (by kernel_rfl) (by simp) (AllReadyH.cons rfl (fun K hK => ?_) AllReadyH.nil)
      (try simp only [Act.put, sL])
      go_simp
      go_wp2_with fail
      have HB := hide (show W3.heap.size ≤ W3.heap.size from by first | exact Nat.le_refl _ | exact World.grownBy.size hHeld)
      refine hK.out _ _ (gw_alloc hHeld (.cells (arrI (zeros 25)) 38)) (fun hHeld => ?_)
      clear hK
      have HZ := hide (show BlkV ((W3.alloc (.cells (arrI (zeros 25)) 38)).drew) (W3.heap.size) 38 (intsV (zeros 25)) from BlkV.new W3.drew 38 (intsV (zeros 25)))
      generalize (W3.alloc (.cells (arrI (zeros 25)) 38)).drew = wz at *
      (try simp only [Act.put, sL])
      refine wpAnyH_ready (rs := [6]) (by kernel_rfl) (by simp) (AllReadyH.cons rfl (fun K hK => ?_) AllReadyH.nil)
      (try simp only [Act.put, sL])
      refine step_store_v rfl 38 _ _ rfl (W3.heap.size) 0 38 (intsV (zeros 25)) (intsV P0) rfl rfl HZ.out (by rw [intsV_len, intsV_len, LP0.out, zeros_len]; omega) (by rw [intsV_len, LP0.out]; exact size25) (intsV_one _) ?_
      have PU := put_v HZ.out 0 (intsV P0) (by rw [intsV_len, intsV_len, LP0.out, zeros_len]; omega)
      rw [splV_all _ _ (by rw [intsV_len, intsV_len, LP0.out, zeros_len])] at PU
      refine hK.out _ _ (gw_own hHeld PU.2 HB.out) (fun hHeld => ?_)
      clear hK
      (try simp only [Act.put, sL])
      refine wpAnyH_done (by kernel_rfl) ?_ _
      go_wp2_with fail
      go_meet
      exact ⟨W3.heap.size, rfl, PU.1, HB.out, hHeld⟩
    case geb =>
      (try simp only [Act.put, sL])
      go_simp
      go_wp2_with fail
      have HB := hide (show W3.heap.size ≤ W3.heap.size from by first | exact Nat.le_refl _ | exact World.grownBy.size hHeld)
      refine hK.out _ _ (gw_alloc hHeld (.cells (arrI (zeros 25)) 38)) (fun hHeld => ?_)
      clear hK
      have HZ := hide (show BlkV ((W3.alloc (.cells (arrI (zeros 25)) 38)).drew) (W3.heap.size) 38 (intsV (zeros 25)) from BlkV.new W3.drew 38 (intsV (zeros 25)))
      generalize (W3.alloc (.cells (arrI (zeros 25)) 38)).drew = wz at *
      (try simp only [Act.put, sL])
      refine wpAnyH_ready (rs := [2]) (by kernel_rfl) (by simp) (AllReadyH.cons rfl (fun K hK => ?_) AllReadyH.nil)
      (try simp only [Act.put, sL])
      go_simp
      refine (KI.out _ (grown_none G3.out hHeld) (IF.out _ hHeld)).mono ?_
      rintro x wk ⟨rfl, rfl⟩
      go_wp2_with fail
      refine hK.out _ _ hHeld (fun hHeld => ?_)
      clear hK
      (try simp only [Act.put, sL])
      refine wpAnyH_take (i := 4) (v := .agg (intsV P0).toArray) rfl (by kernel_rfl) (by kernel_rfl) (by kernel_rfl) (fun _ _ _ h => h) (Or.inl ⟨by rfl, ?ye5⟩) hHeld ?re5
      case ye5 => (intro w' hSw; exact yields_build_pkt kd q P0 RB.out rfl rfl rfl)
      (try simp only [Act.put, sL])
      refine wpAnyH_ready (rs := [6]) (by kernel_rfl) (by simp) (AllReadyH.cons rfl (fun K hK => ?_) AllReadyH.nil)
      (try simp only [Act.put, sL])
      refine step_store_v rfl 38 _ _ rfl (W3.heap.size) 0 38 (intsV (zeros 25)) (intsV P0) rfl rfl HZ.out (by rw [intsV_len, intsV_len, LP0.out, zeros_len]; omega) (by rw [intsV_len, LP0.out]; exact size25) (intsV_one _) ?_
      have PU := put_v HZ.out 0 (intsV P0) (by rw [intsV_len, intsV_len, LP0.out, zeros_len]; omega)
      rw [splV_all _ _ (by rw [intsV_len, intsV_len, LP0.out, zeros_len])] at PU
      refine hK.out _ _ (gw_own hHeld PU.2 HB.out) (fun hHeld => ?_)
      clear hK
      (try simp only [Act.put, sL])
      refine wpAnyH_done (by kernel_rfl) ?_ _
      go_wp2_with fail
      go_meet
      exact ⟨W3.heap.size, rfl, PU.1, HB.out, hHeld⟩
  case rest =>
  obtain ⟨bp, rfl, HP, hb, gc⟩ := hcut
  have P4 := hide HP
  have HBP := hide hb
  have G4 := hide (grown_none G3.out gc)
  have E4 := hide (E3.out.keep gc)
  have R4 := hide (R3.out.keep gc)
  have NBP := hide (show w.heap.size + 1 + 1 ≤ bp from Nat.le_trans (show w.heap.size + 1 + 1 ≤ W3.heap.size from R3.out.lt) hb)
  have IF4 := hide (IF.out wc gc)
  clear HP hb gc E3 R3 G3 B3 KI IF RB hzp
  have cp := (P4.out.cell 0).trans (ints_getC P0 0 (by rw [LP0.out]; omega))
  rw [c0.out] at cp
  have AP0 := hide (BlkI.all P0 25 LP0.out)
  have CH1 := hide (CH.out wc G4.out IF4.out)
  clear CH IF4
  go_upto_region 7 with fail
  clear cp
  go_wp2_with (first | refine wpList_load_v rfl 25 _ rfl w.heap.size 124 102 rfl 47 (encC E1 s) E4.out _ Tryz.underlying25 rfl size102 (by rw [CE1.out]; omega) _ PM.out ?_ | refine wpList_load_v rfl 38 _ rfl bp 0 25 rfl 38 (intsV P0) P4.out _ Tryz.underlying38 rfl size25 (by rw [intsV_len, LP0.out]; omega) _ AP0.out ?_)
  refine CH1.out.mono ?_
  rintro x wd ⟨rfl, gd⟩
  have P4d := hide (P4.out.keep gd)
  have PU := putI P4d.out 9 SS (by rw [SL.out, LP0.out]; omega)
  have P5 := hide PU.1
  rw [EP.out] at P5
  have E5 := hide ((E4.out.keep gd).keepBut PU.2 (by have := NBP.out; omega))
  have R5 := hide ((R4.out.keep gd).keepBut PU.2 (by have := NBP.out; omega))
  have G5 := hide (grown_own (grown_none G4.out gd) PU.2 (by have := NBP.out; omega))
  have IS := hide (intsV_one SS)
  have LS := hide (show (intsV SS).length = 16 by rw [intsV_len]; exact SL.out)
  clear PU P4 E4 R4 G4 gd CH1 AP0
  go_upto_region 8 with (first | refine wpList_store_v rfl 36 _ _ rfl bp 9 38 (intsV P0) (intsV SS) rfl rfl P4d.out (by rw [LS.out, intsV_len, LP0.out]; omega) (by rw [LS.out]; exact size16s) IS.out ?_)
  (try simp only [Act.put])
  clear P4d IS LS
  generalize putV wd bp 9 (intsV SS) = W5 at *
  have N5 := hide (show bp + 1 ≤ W5.heap.size from P5.out.lt)
  go_wp2_with (first | refine wpList_load_v rfl 38 _ rfl bp 0 25 rfl 38 (intsV PP) P5.out _ Tryz.underlying38 rfl size25 (by rw [intsV_len, LPP.out]; omega) _ AP.out ?_)
  refine (PK.out W5 G5.out).mono ?_
  rintro x W6 ⟨vb, rfl, ob, g6⟩
  have P6 := hide (P5.out.keep g6)
  have E6 := hide (E5.out.keep g6)
  have R6 := hide (R5.out.keep g6)
  have G6 := hide (grown_none G5.out g6)
  have OB6 := hide (ob.base N5.out)
  have N6 := hide (Nat.le_trans N5.out g6.size)
  clear PK P5 E5 R5 G5 g6 ob N5
  go_upto_region 9 with fail
  have PY1 := hide (PY.out W6 G6.out)
  clear PY
  go_wp2_with (first | refine wpList_load_v rfl 25 _ rfl w.heap.size 124 102 rfl 47 (encC E1 s) E6.out _ Tryz.underlying25 rfl size102 (by rw [CE1.out]; omega) _ PM.out ?_ | refine wpList_load_v rfl 38 _ rfl bp 0 25 rfl 38 (intsV PP) P6.out _ Tryz.underlying38 rfl size25 (by rw [intsV_len, LPP.out]; omega) _ AP.out ?_)
  refine PY1.out.mono ?_
  rintro x W7 ⟨vl, rfl, ol, g7⟩
  have FB := hide (fresh_memC W7 MF tf ML.out)
  have E8 := hide ((E6.out.keep g7).keep FB.out.2.2)
  have R8 := hide ((R6.out.keep g7).keep FB.out.2.2)
  have G8 := hide (grown_none (grown_none G6.out g7) FB.out.2.2)
  have OB8 := hide ((OB6.out.keep g7).keep FB.out.2.2)
  have OL8 := hide ((ol.base N6.out).keep FB.out.2.2)
  have CF := hide (memC_len ML.out tf)
  have OF := hide (memC_one MF tf)
  have ZM := hide (memC_len (zeros_len 101) false)
  have hzm := zero_mem
  unfold memV at hzm
  clear PY1 P6 E6 R6 G6 OB6 g7 ol N6
  go_upto_region 10 with (first | refine wpList_store_v rfl 25 _ _ rfl W7.heap.size 0 25 (memC (zeros 101) false) (memC MF tf) rfl rfl FB.out.1 (by rw [ZM.out, CF.out]; omega) (by rw [CF.out]; exact size102) OF.out ?_)
  (try simp only [Act.put])
  have V8 := hide FB.out.2.1
  clear FB hzm
  generalize putV (W7.alloc (.cells (memC (zeros 101) false).toArray 25)) W7.heap.size 0 (memC MF tf) = W8 at *
  generalize W7.heap.size = bm at *
  have AF := hide (BlkM.all tf ML.out)
  have PU := put_v E8.out 124 (memC MF tf) (by rw [CF.out, CE1.out]; omega)
  rw [SM.out] at PU
  have E9 := hide (show BlkE _ w.heap.size EF tf from PU.1)
  have R9 := hide (R8.out.keepBut PU.2 (by omega))
  have G9 := hide (grown_own G8.out PU.2 (Nat.le_refl _))
  have OB9 := hide (OB8.out.keepLt PU.2 (by have := NBP.out; omega))
  have OL9 := hide (OL8.out.keepLt PU.2 (by have := NBP.out; omega))
  clear PU R8 G8 OB8 OL8
  go_upto_region 11 with (first | refine wpList_load_v rfl 25 _ rfl bm 0 102 rfl 25 (memC MF tf) V8.out _ Tryz.underlying25 rfl size102 (by rw [CF.out]; omega) _ AF.out ?_ | refine wpList_store_v rfl 25 _ _ rfl w.heap.size 124 47 (encC E1 s) (memC MF tf) rfl rfl E8.out (by rw [CF.out, CE1.out]; omega) (by rw [CF.out]; exact size102) OF.out ?_)
  (try simp only [Act.put])
  clear E8 V8 AF
  generalize putV W8 w.heap.size 124 (memC MF tf) = W9 at *
  have AEF := hide (BlkE.all tf FL.out)
  have CEF := hide (encC_len FL.out tf)
  have OEF := hide (encC_one EF tf)
  have PB := hide (R9.out.putAll (m := EF) (t := tf) (zeros_len 225) FL.out)
  have OBX := hide (OB9.out.keepLt PB.out.2 (by have := NBP.out; omega))
  have OLX := hide (OL9.out.keepLt PB.out.2 (by have := NBP.out; omega))
  have FF := hide (F.out _ _ _ (OBX.out.base (b' := w.heap.size) (by have := NBP.out; omega)) (OLX.out.base (b' := w.heap.size) (by have := NBP.out; omega)) (grown_own G9.out PB.out.2 (by omega)))
  clear F OB9 OL9 OBX OLX
  go_wp2_with (first | refine wpList_load_v rfl 47 _ rfl w.heap.size 0 226 rfl 47 (encC EF tf) E9.out _ Tryz.underlying47 rfl size226 (by rw [CEF.out]; omega) _ AEF.out ?_ | refine wpList_store_v rfl 47 _ _ rfl (w.heap.size + 1) 0 47 (encC (zeros 225) false) (encC EF tf) rfl rfl R9.out (by rw [ZC.out, CEF.out]; omega) (by rw [CEF.out]; exact size226) OEF.out ?_)
  have hlv := loadVar_v PB.out.1 _ Tryz.underlying47 rfl (by rw [CEF.out]; exact size226)
  refine bodyPost_ret (v := .tuple #[.agg (encC EF tf).toArray, _, _, .int .i64 0]) ?_ rfl FF.out
  simp [results, Tryz.results13, asAddr, Act.put, hlv]
theorem codEncode_any (w : World) (e : List Int) (s : Bool) (he : e.length = 225) (v : Value) (l : List Int) (hi : Ints w v l) (hsz : l.length * 8 ≤ 140737488351232) (r : Bool) (hW : Wide w) (hX : TabA w 2 widq 8) (hT : TabA w 3 gains 8) (hG : Grows w) : Calls Tryz.prog 13 #[encV e s, v, .bool r] w (EncE w (encM e l r) (encT e l r) (encB e l r) (encL e l r) (encE e l)) := by
  by_cases hk : enOk e l
  · by_cases hs : enKd e l r = 2
    · exact codEncode_s w e s he v l hi hsz r hW hX hT hG hk hs
    · exact codEncode_v w e s he v l hi hsz r hW hX hT hG hk hs
  · exact codEncode_err w e s he v l hi hsz r hk
end Go.Proofs.YtjepkgdejkifcaaGreatDoor

/- CodH -/
namespace Go.Proofs.YtjepkgdejkifcaaGreatDoor
open Go.RowKit
set_option linter.unusedVariables false
set_option linter.unusedSimpArgs false
set_option maxHeartbeats 2000000
set_option maxRecDepth 100000 in
theorem codBegin_any (w : World) : Calls Tryz.prog 16 #[] w (AnsC w (encV begL false)) := by
  have B0 := hide (BlkE.new w (zeros 225) false)
  have G0 := hide (grown_alloc w (.cells (encC (zeros 225) false).toArray 47) none)
  have FR := hide (fun u => conFresh_any u)
  have S1 := hide (encC_len begL_len false)
  have S0 := hide (encC_len (zeros_len 225) false)
  have O1 := hide (encC_one begL false)
  have hz := zero_enc
  have F := hide (show ∀ w', w.grownBy w' none → AnsC w (encV begL false) (.returned (encV begL false)) w' from fun w' q => ⟨rfl, q⟩)
  generalize AnsC w (encV begL false) = T at *
  have BF := hide (fun ops rest op a w Q => @wpList_build_beg ops rest op a w Q)
  unfold AnsC at FR
  unfold memV at BF FR
  unfold encV at hz F BF
  go_enter Tryz.func16, Tryz.ntmps16
  go_upto_region 1 with fail
  generalize w.alloc (.cells (encC (zeros 225) false).toArray 47) = W0 at *
  go_wp2_with fail
  refine (FR.out _).mono ?_
  rintro x W1 ⟨rfl, g1⟩
  have B1 := hide (B0.out.keep g1)
  have PU := B1.out.putAll (m := begL) (t := false) (zeros_len 225) begL_len
  have PB := hide PU.1
  have FF := hide (F.out _ (grown_own (grown_none G0.out g1) PU.2 (Nat.le_refl _)))
  clear PU F B0 G0 g1 FR
  unfold BlkE at B1 PB
  generalize memC freL false = FC at *
  generalize encC begL false = M at *
  go_wp2_with (first | refine BF.out _ _ _ _ _ _ rfl _ rfl rfl ?_ | refine wpList_store_v rfl 47 _ _ rfl w.heap.size 0 47 (encC (zeros 225) false) M rfl rfl B1.out (by rw [S0.out, S1.out]; omega) (by rw [S1.out]; exact size226) O1.out ?_)
  have hlv := loadVar_v PB.out _ Tryz.underlying47 rfl (by rw [S1.out]; exact size226)
  refine bodyPost_ret (v := .agg M.toArray) ?_ rfl FF.out
  simp [results, Tryz.results16, asAddr, Act.put, hlv]
end Go.Proofs.YtjepkgdejkifcaaGreatDoor

/- LConM -/
namespace Go.Proofs.YtjepkgdejkifcaaGreatDoor

end Go.Proofs.YtjepkgdejkifcaaGreatDoor

/- LEnc -/
namespace Go.Proofs.YtjepkgdejkifcaaGreatDoor
open Go.RowKit
set_option linter.unusedVariables false
set_option linter.unusedSimpArgs false
set_option maxHeartbeats 4000000
def CEn (f : Nat) (w : World) : Prop := ∀ (e : List Int) (s : Bool), e.length = 225 → In64 e → ∀ (v : Value) (l : List Int) (wr : World), w.grownBy wr none → Ints wr v l → Shp v l → In64 l → l.length * 8 ≤ 140737488351232 → ∀ r : Bool, Calls Tryz.prog f #[encV e s, v, .bool r] wr (EncE wr (encM e l r) (encT e l r) (encB e l r) (encL e l r) (encE e l))
def EncR (W0 : World) (m : List Int) (s2 : Bool) (B L : List Int) (E : Int) (s7 s8 s9 s10 : Value) (wx : World) : Prop := ∃ b, s7 = .pointer (some ⟨b, 0, none⟩) ∧ s10 = .int .i64 E ∧ BlkE wx b m s2 ∧ OwnB W0.heap.size wx s8 B ∧ Own W0.heap.size wx s9 L ∧ W0.heap.size ≤ b ∧ W0.grownBy wx none
theorem shp_c {v : Value} {l : List Int} (h : Shp v l) : v = .slice none 0 0 ∨ ∃ a n c, v = .slice (some a) n c := by
  rcases h with h | ⟨a, c, h⟩
  · exact .inl h
  · exact .inr ⟨a, _, c, h⟩
end Go.Proofs.YtjepkgdejkifcaaGreatDoor

/- LCdS -/
namespace Go.Proofs.YtjepkgdejkifcaaGreatDoor
open Go.RowKit
set_option linter.unusedVariables false
theorem cen_of {W : World} (t0 : TabA W 5 gro 15) (t1 : TabA W 2 widq 8) (t2 : TabA W 3 gains 8) : CEn 13 W :=
  fun e s he h64 v l wr g hi sh hl64 hsz r => codEncode_any wr e s he v l hi (by omega) r (wide_tab (TabA_keep t1 g)) (TabA_keep t1 g) (TabA_keep t2 g) (grows_tab (TabA_keep t0 g))
theorem cbg_of (W : World) : CBg 16 W := fun wr g => codBegin_any wr
end Go.Proofs.YtjepkgdejkifcaaGreatDoor

/- KeepC -/
namespace Go.Proofs.YtjepkgdejkifcaaGreatDoor
open Go.RowKit
set_option linter.unusedVariables false
set_option linter.unusedSimpArgs false
set_option maxHeartbeats 4000000
theorem ints80 {w : World} {b : Nat} {l : List Int} (h : Blk w b 3 l) (hl : l.length = 80) : Ints w (.slice (some ⟨b, 0, none⟩) 80 80) l := by
  refine ⟨some ⟨b, 0, none⟩, 80, by rw [hl], by omega, fun _ => ⟨_, rfl, fun i hi => ?_⟩⟩
  rw [Addr.add_mid, Nat.zero_add, h.cell i hi]
theorem hi_zero : hiL 0 0 0 0 (zeros 80) = zeros 80 := by decide +kernel
theorem beg_mm : enMm begL = freL := by decide +kernel
theorem beg_c : enC begL (zeros 80) = zeros 80 := by
  have h : nth begL 0 = 0 ∧ nth begL 1 = 0 ∧ nth begL 2 = 0 ∧ nth begL 3 = 0 := by decide +kernel
  unfold enC
  rw [h.1, h.2.1, h.2.2.1, h.2.2.2]
  exact hi_zero
theorem beg_he : enHE begL (zeros 80) = true := by decide +kernel
theorem beg_i : rightB (enI begL (zeros 80)) = true := by
  unfold enI
  rw [beg_c]
  decide +kernel
theorem beg_ok : enOk begL (zeros 80) := ⟨zeros_len 80, by rw [beg_mm]; exact freL_good, beg_he, beg_i⟩
theorem beg_sil : encT begL (zeros 80) false = true := by
  rw [(enc_yes false beg_ok).2.1]
  have d : dotS (zeros 80) (zeros 80) 80 < 1280 := by decide +kernel
  have k : enKd begL (zeros 80) false = 2 := by unfold enKd; rw [if_neg (by decide), beg_c, if_pos d]
  unfold plyS enP
  rw [k]
  generalize enQ begL (zeros 80) ++ enS begL (zeros 80) false = tl
  exact decide_eq_true rfl
theorem beg_b : (encB begL (zeros 80) false).length = 15 := by rw [(enc_yes false beg_ok).2.2.1]; exact pkA_len _
theorem beg_l : (encL begL (zeros 80) false).length = 80 := by
  rw [(enc_yes false beg_ok).2.2.2.1]
  exact (plyL_right (show (enMm begL).length = 101 from prt_len _ _ _) beg_ok.2.1 (enP_good false beg_ok.2.1)).1
theorem begL_64 : In64 begL := fun i => by
  by_cases h : i < 225
  · have : ∀ i : Fin 225, -32768 ≤ nth begL i.val ∧ nth begL i.val ≤ 65535 := by decide +kernel
    have q : -32768 ≤ nth begL i ∧ nth begL i ≤ 65535 := this ⟨i, h⟩
    omega
  · rw [getD_out _ i (by rw [begL_len]; omega)]; omega
theorem encCellS {w : World} {b : Nat} {e : List Int} {s : Bool} (h : BlkE w b e s) (he : e.length = 225) : w.cell? ⟨b, 225, none⟩ = some (.bool s) := by
  rw [BlkV.cell h]
  unfold encC mixC
  rw [List.getElem?_append_right (by rw [intsV_len, he]; omega), intsV_len, he]
  rfl
set_option maxRecDepth 100000 in
theorem codes_any (w : World) (pc : CEn 13 w) (pb : CBg 16 w) (W0 : World) (hG0 : w.grownBy W0 none) : Calls Tryz.prog 22 #[] W0 (AnsC W0 (.bool true)) := by
  have G0 := hide hG0
  have A := hide (fun v' wr g h sh => pc begL false begL_len begL_64 v' (zeros 80) wr g h sh (fun i => by rw [zeros_nth]; omega) (by rw [zeros_len]; omega) false)
  have PB := hide pb
  have SH80 := hide (fun b => show Shp (.slice (some ⟨b, 0, none⟩) 80 80) (zeros 80) from .inr ⟨_, _, by rw [zeros_len]⟩)
  have ML := hide (encM_len (l := zeros 80) false begL_len)
  have EB := hide beg_b
  have EL := hide beg_l
  have ZL := hide (encC_len (zeros_len 225) false)
  have hz := zero_enc
  have hmk := make_zeros 80 (by omega)
  rw [show ((80 : Nat) : Int) = 80 from rfl] at hmk
  rw [beg_sil, (enc_yes false beg_ok).2.2.2.2] at A
  have F := hide (show ∀ w', W0.grownBy w' none → AnsC W0 (.bool true) (.returned (.bool true)) w' from fun w' q => ⟨rfl, q⟩)
  clear pc pb hG0
  generalize AnsC W0 (.bool true) = T at *
  unfold EncE encV at A
  unfold encV at hz
  unfold CBg AnsC encV at PB
  generalize encM begL (zeros 80) false = m at *
  generalize encB begL (zeros 80) false = BB at *
  generalize encL begL (zeros 80) false = L at *
  have CM := hide (encC_len ML.out true)
  go_enter Tryz.func22, Tryz.ntmps22
  go_upto_region 1 with fail
  go_cut [1, 2, 3, 4] from 5 (fun s7 s8 s9 s10 wx => EncR W0 m true BB L 0 s7 s8 s9 s10 wx)
  case first =>
    refine wp_region_held_drew (S := GrownW W0) (by kernel_rfl) (gw_start _) (fun hHeld => ?_)
    refine wpAnyH_ready (rs := [0, 1, 8]) (by kernel_rfl) (by simp) (AllReadyH.cons rfl (fun K hK => ?gka1) (AllReadyH.cons rfl (fun K hK => ?gka2) (AllReadyH.cons rfl (fun K hK => ?gka3) AllReadyH.nil)))
    case gka1 =>
      (try simp only [Act.put, sL])
      go_simp
      refine (PB.out _ (grown_none G0.out hHeld)).mono ?_
      rintro e wka4 ⟨rfl, gka4⟩
      have Gka4 := hide gka4
      clear gka4
      (try unfold memV)
      (try unfold encV)
      go_wp2_with fail
      refine hK.out _ _ (gw_trans hHeld Gka4.out) (fun hHeld => ?_)
      clear hK
      (try simp only [Act.put, sL])
      refine wpAnyH_ready (rs := [1, 8]) (by kernel_rfl) (by simp) (AllReadyH.cons rfl (fun K hK => ?gka5) (AllReadyH.cons rfl (fun K hK => ?gka6) AllReadyH.nil))
      case gka5 =>
        (try simp only [Act.put, sL])
        go_simp
        go_wp2_with fail
        refine hK.out _ _ (gw_alloc hHeld (.cells (arrI (zeros 80)) 3)) (fun hHeld => ?_)
        clear hK
        have OM := hide (show Blk (wka4.alloc (.cells (arrI (zeros 80)) 3)) wka4.heap.size 3 (zeros 80) from Blk.new wka4 3 (zeros 80))
        generalize wka4.alloc (.cells (arrI (zeros 80)) 3) = wzka7 at *
        (try simp only [Act.put, sL])
        refine wpAnyH_ready (rs := [2, 8]) (by kernel_rfl) (by simp) (AllReadyH.cons rfl (fun K hK => ?gka8) (AllReadyH.cons rfl (fun K hK => ?gka9) AllReadyH.nil))
        case gka8 =>
          (try simp only [Act.put, sL])
          go_simp
          refine (A.out _ _ (grown_none G0.out hHeld) (ints80 OM.out (zeros_len 80)) (SH80.out _)).mono ?_
          rintro e wka10 ⟨vb, vl, rfl, ob, ol, gka10⟩
          have Gka10 := hide gka10
          have OB := hide (ob.base (b' := W0.heap.size) (World.grownBy.size hHeld))
          have OL := hide (ol.base (b' := W0.heap.size) (World.grownBy.size hHeld))
          clear gka10 ob ol
          (try unfold memV)
          (try unfold encV)
          go_wp2_with fail
          refine hK.out _ _ (gw_trans hHeld Gka10.out) (fun hHeld => ?_)
          clear hK
          have OM := hide (OM.out.keep Gka10.out)
          (try simp only [Act.put, sL])
          refine wpAnyH_take (i := 3) (v := ?vka11) rfl (by kernel_rfl) (by kernel_rfl) (by kernel_rfl) (fun _ _ _ h => h) (Or.inl ⟨by rfl, ?yka11⟩) hHeld ?rka11
          case yka11 => (intro w' hSw; go_simp; (try with_reducible rfl))
          (try simp only [Act.put, sL])
          refine wpAnyH_take (i := 4) (v := ?vka12) rfl (by kernel_rfl) (by kernel_rfl) (by kernel_rfl) (fun _ _ _ h => h) (Or.inl ⟨by rfl, ?yka12⟩) hHeld ?rka12
          case yka12 => (intro w' hSw; go_simp; (try with_reducible rfl))
          (try simp only [Act.put, sL])
          refine wpAnyH_take (i := 5) (v := ?vka13) rfl (by kernel_rfl) (by kernel_rfl) (by kernel_rfl) (fun _ _ _ h => h) (Or.inl ⟨by rfl, ?yka13⟩) hHeld ?rka13
          case yka13 => (intro w' hSw; go_simp; (try with_reducible rfl))
          (try simp only [Act.put, sL])
          refine wpAnyH_take (i := 6) (v := ?vka14) rfl (by kernel_rfl) (by kernel_rfl) (by kernel_rfl) (fun _ _ _ h => h) (Or.inl ⟨by rfl, ?yka14⟩) hHeld ?rka14
          case yka14 => (intro w' hSw; go_simp; (try with_reducible rfl))
          (try simp only [Act.put, sL])
          refine wpAnyH_take (i := 7) (v := ?vka15) rfl (by kernel_rfl) (by kernel_rfl) (by kernel_rfl) (fun _ _ _ h => h) (Or.inl ⟨by rfl, ?yka15⟩) hHeld ?rka15
          case yka15 => (intro w' hSw; go_simp; (try with_reducible rfl))
          (try simp only [Act.put, sL])
          refine wpAnyH_ready (rs := [8]) (by kernel_rfl) (by simp) (AllReadyH.cons rfl (fun K hK => ?_) AllReadyH.nil)
          (try simp only [Act.put, sL])
          go_simp
          go_wp2_with fail
          have HB := hide (show W0.heap.size ≤ wka10.heap.size from by first | exact Nat.le_refl _ | exact World.grownBy.size hHeld)
          refine hK.out _ _ (gw_alloc hHeld (.cells (encC (zeros 225) false).toArray 47)) (fun hHeld => ?_)
          clear hK
          have HZ := hide (show BlkE (wka10.alloc (.cells (encC (zeros 225) false).toArray 47)) wka10.heap.size (zeros 225) false from BlkE.new wka10 (zeros 225) false)
          have OB := hide (OB.out.keep (grown_alloc wka10 (.cells (encC (zeros 225) false).toArray 47) none))
          have OL := hide (OL.out.keep (grown_alloc wka10 (.cells (encC (zeros 225) false).toArray 47) none))
          generalize wka10.alloc (.cells (encC (zeros 225) false).toArray 47) = wzka16 at *
          (try simp only [Act.put, sL])
          refine wpAnyH_ready (rs := [9]) (by kernel_rfl) (by simp) (AllReadyH.cons rfl (fun K hK => ?_) AllReadyH.nil)
          (try simp only [Act.put, sL])
          refine step_store_v rfl 47 _ _ rfl (wka10.heap.size) 0 47 (encC (zeros 225) false) (encC m true) rfl rfl HZ.out (by rw [ZL.out, CM.out]; omega) (by rw [CM.out]; exact size226) (encC_one _ _) ?_
          have PU := HZ.out.putAll (m := m) (t := true) (zeros_len 225) ML.out
          have OB := hide (OB.out.keepBut PU.2 HZ.out (by decide))
          have OL := hide (OL.out.keepBut PU.2 HZ.out (by decide))
          refine hK.out _ _ (gw_own hHeld PU.2 HB.out) (fun hHeld => ?_)
          clear hK
          (try simp only [Act.put, sL])
          refine wpAnyH_take (i := 10) (v := ?vka18) rfl (by kernel_rfl) (by kernel_rfl) (by kernel_rfl) (fun _ _ _ h => h) (Or.inl ⟨by rfl, ?yka18⟩) hHeld ?rka18
          case yka18 => (intro w' hSw; go_simp; (try with_reducible rfl))
          (try simp only [Act.put, sL])
          refine wpAnyH_take (i := 11) (v := ?vka19) rfl (by kernel_rfl) (by kernel_rfl) (by kernel_rfl) (fun _ _ _ h => h) (Or.inl ⟨by rfl, ?yka19⟩) hHeld ?rka19
          case yka19 => (intro w' hSw; go_simp; (try with_reducible rfl))
          (try simp only [Act.put, sL])
          refine wpAnyH_take (i := 12) (v := ?vka20) rfl (by kernel_rfl) (by kernel_rfl) (by kernel_rfl) (fun _ _ _ h => h) (Or.inl ⟨by rfl, ?yka20⟩) hHeld ?rka20
          case yka20 => (intro w' hSw; go_simp; (try with_reducible rfl))
          (try simp only [Act.put, sL])
          refine wpAnyH_done (by kernel_rfl) ?_ _
          go_wp2_with fail
          go_meet
          exact ⟨wka10.heap.size, rfl, rfl, PU.1, OB.out, OL.out, HB.out, hHeld⟩
        case gka9 =>
          (try simp only [Act.put, sL])
          go_simp
          go_wp2_with fail
          have HB := hide (show W0.heap.size ≤ wzka7.heap.size from by first | exact Nat.le_refl _ | exact World.grownBy.size hHeld)
          refine hK.out _ _ (gw_alloc hHeld (.cells (encC (zeros 225) false).toArray 47)) (fun hHeld => ?_)
          clear hK
          have HZ := hide (show BlkE (wzka7.alloc (.cells (encC (zeros 225) false).toArray 47)) wzka7.heap.size (zeros 225) false from BlkE.new wzka7 (zeros 225) false)
          have OM := hide (OM.out.keep (grown_alloc wzka7 (.cells (encC (zeros 225) false).toArray 47) none))
          generalize wzka7.alloc (.cells (encC (zeros 225) false).toArray 47) = wzka21 at *
          (try simp only [Act.put, sL])
          refine wpAnyH_ready (rs := [2]) (by kernel_rfl) (by simp) (AllReadyH.cons rfl (fun K hK => ?_) AllReadyH.nil)
          (try simp only [Act.put, sL])
          go_simp
          refine (A.out _ _ (grown_none G0.out hHeld) (ints80 OM.out (zeros_len 80)) (SH80.out _)).mono ?_
          rintro e wka22 ⟨vb, vl, rfl, ob, ol, gka22⟩
          have Gka22 := hide gka22
          have OB := hide (ob.base (b' := W0.heap.size) (World.grownBy.size hHeld))
          have OL := hide (ol.base (b' := W0.heap.size) (World.grownBy.size hHeld))
          clear gka22 ob ol
          (try unfold memV)
          (try unfold encV)
          go_wp2_with fail
          refine hK.out _ _ (gw_trans hHeld Gka22.out) (fun hHeld => ?_)
          clear hK
          have OM := hide (OM.out.keep Gka22.out)
          have HZ := hide (HZ.out.keep Gka22.out)
          (try simp only [Act.put, sL])
          refine wpAnyH_take (i := 3) (v := ?vka23) rfl (by kernel_rfl) (by kernel_rfl) (by kernel_rfl) (fun _ _ _ h => h) (Or.inl ⟨by rfl, ?yka23⟩) hHeld ?rka23
          case yka23 => (intro w' hSw; go_simp; (try with_reducible rfl))
          (try simp only [Act.put, sL])
          refine wpAnyH_take (i := 4) (v := ?vka24) rfl (by kernel_rfl) (by kernel_rfl) (by kernel_rfl) (fun _ _ _ h => h) (Or.inl ⟨by rfl, ?yka24⟩) hHeld ?rka24
          case yka24 => (intro w' hSw; go_simp; (try with_reducible rfl))
          (try simp only [Act.put, sL])
          refine wpAnyH_take (i := 5) (v := ?vka25) rfl (by kernel_rfl) (by kernel_rfl) (by kernel_rfl) (fun _ _ _ h => h) (Or.inl ⟨by rfl, ?yka25⟩) hHeld ?rka25
          case yka25 => (intro w' hSw; go_simp; (try with_reducible rfl))
          (try simp only [Act.put, sL])
          refine wpAnyH_take (i := 6) (v := ?vka26) rfl (by kernel_rfl) (by kernel_rfl) (by kernel_rfl) (fun _ _ _ h => h) (Or.inl ⟨by rfl, ?yka26⟩) hHeld ?rka26
          case yka26 => (intro w' hSw; go_simp; (try with_reducible rfl))
          (try simp only [Act.put, sL])
          refine wpAnyH_take (i := 7) (v := ?vka27) rfl (by kernel_rfl) (by kernel_rfl) (by kernel_rfl) (fun _ _ _ h => h) (Or.inl ⟨by rfl, ?yka27⟩) hHeld ?rka27
          case yka27 => (intro w' hSw; go_simp; (try with_reducible rfl))
          (try simp only [Act.put, sL])
          refine wpAnyH_ready (rs := [9]) (by kernel_rfl) (by simp) (AllReadyH.cons rfl (fun K hK => ?_) AllReadyH.nil)
          (try simp only [Act.put, sL])
          refine step_store_v rfl 47 _ _ rfl (wzka7.heap.size) 0 47 (encC (zeros 225) false) (encC m true) rfl rfl HZ.out (by rw [ZL.out, CM.out]; omega) (by rw [CM.out]; exact size226) (encC_one _ _) ?_
          have PU := HZ.out.putAll (m := m) (t := true) (zeros_len 225) ML.out
          have OB := hide (OB.out.keepBut PU.2 HZ.out (by decide))
          have OL := hide (OL.out.keepBut PU.2 HZ.out (by decide))
          refine hK.out _ _ (gw_own hHeld PU.2 HB.out) (fun hHeld => ?_)
          clear hK
          (try simp only [Act.put, sL])
          refine wpAnyH_take (i := 10) (v := ?vka29) rfl (by kernel_rfl) (by kernel_rfl) (by kernel_rfl) (fun _ _ _ h => h) (Or.inl ⟨by rfl, ?yka29⟩) hHeld ?rka29
          case yka29 => (intro w' hSw; go_simp; (try with_reducible rfl))
          (try simp only [Act.put, sL])
          refine wpAnyH_take (i := 11) (v := ?vka30) rfl (by kernel_rfl) (by kernel_rfl) (by kernel_rfl) (fun _ _ _ h => h) (Or.inl ⟨by rfl, ?yka30⟩) hHeld ?rka30
          case yka30 => (intro w' hSw; go_simp; (try with_reducible rfl))
          (try simp only [Act.put, sL])
          refine wpAnyH_take (i := 12) (v := ?vka31) rfl (by kernel_rfl) (by kernel_rfl) (by kernel_rfl) (fun _ _ _ h => h) (Or.inl ⟨by rfl, ?yka31⟩) hHeld ?rka31
          case yka31 => (intro w' hSw; go_simp; (try with_reducible rfl))
          (try simp only [Act.put, sL])
          refine wpAnyH_done (by kernel_rfl) ?_ _
          go_wp2_with fail
          go_meet
          exact ⟨wzka7.heap.size, rfl, rfl, PU.1, OB.out, OL.out, HB.out, hHeld⟩
      case gka6 =>
        (try simp only [Act.put, sL])
        go_simp
        go_wp2_with fail
        have HB := hide (show W0.heap.size ≤ wka4.heap.size from by first | exact Nat.le_refl _ | exact World.grownBy.size hHeld)
        refine hK.out _ _ (gw_alloc hHeld (.cells (encC (zeros 225) false).toArray 47)) (fun hHeld => ?_)
        clear hK
        have HZ := hide (show BlkE (wka4.alloc (.cells (encC (zeros 225) false).toArray 47)) wka4.heap.size (zeros 225) false from BlkE.new wka4 (zeros 225) false)
        generalize wka4.alloc (.cells (encC (zeros 225) false).toArray 47) = wzka32 at *
        (try simp only [Act.put, sL])
        refine wpAnyH_ready (rs := [1]) (by kernel_rfl) (by simp) (AllReadyH.cons rfl (fun K hK => ?_) AllReadyH.nil)
        (try simp only [Act.put, sL])
        go_simp
        go_wp2_with fail
        refine hK.out _ _ (gw_alloc hHeld (.cells (arrI (zeros 80)) 3)) (fun hHeld => ?_)
        clear hK
        have OM := hide (show Blk (wzka32.alloc (.cells (arrI (zeros 80)) 3)) wzka32.heap.size 3 (zeros 80) from Blk.new wzka32 3 (zeros 80))
        have HZ := hide (HZ.out.keep (grown_alloc wzka32 (.cells (arrI (zeros 80)) 3) none))
        generalize wzka32.alloc (.cells (arrI (zeros 80)) 3) = wzka33 at *
        (try simp only [Act.put, sL])
        refine wpAnyH_ready (rs := [2]) (by kernel_rfl) (by simp) (AllReadyH.cons rfl (fun K hK => ?_) AllReadyH.nil)
        (try simp only [Act.put, sL])
        go_simp
        refine (A.out _ _ (grown_none G0.out hHeld) (ints80 OM.out (zeros_len 80)) (SH80.out _)).mono ?_
        rintro e wka34 ⟨vb, vl, rfl, ob, ol, gka34⟩
        have Gka34 := hide gka34
        have OB := hide (ob.base (b' := W0.heap.size) (World.grownBy.size hHeld))
        have OL := hide (ol.base (b' := W0.heap.size) (World.grownBy.size hHeld))
        clear gka34 ob ol
        (try unfold memV)
        (try unfold encV)
        go_wp2_with fail
        refine hK.out _ _ (gw_trans hHeld Gka34.out) (fun hHeld => ?_)
        clear hK
        have HZ := hide (HZ.out.keep Gka34.out)
        have OM := hide (OM.out.keep Gka34.out)
        (try simp only [Act.put, sL])
        refine wpAnyH_take (i := 3) (v := ?vka35) rfl (by kernel_rfl) (by kernel_rfl) (by kernel_rfl) (fun _ _ _ h => h) (Or.inl ⟨by rfl, ?yka35⟩) hHeld ?rka35
        case yka35 => (intro w' hSw; go_simp; (try with_reducible rfl))
        (try simp only [Act.put, sL])
        refine wpAnyH_take (i := 4) (v := ?vka36) rfl (by kernel_rfl) (by kernel_rfl) (by kernel_rfl) (fun _ _ _ h => h) (Or.inl ⟨by rfl, ?yka36⟩) hHeld ?rka36
        case yka36 => (intro w' hSw; go_simp; (try with_reducible rfl))
        (try simp only [Act.put, sL])
        refine wpAnyH_take (i := 5) (v := ?vka37) rfl (by kernel_rfl) (by kernel_rfl) (by kernel_rfl) (fun _ _ _ h => h) (Or.inl ⟨by rfl, ?yka37⟩) hHeld ?rka37
        case yka37 => (intro w' hSw; go_simp; (try with_reducible rfl))
        (try simp only [Act.put, sL])
        refine wpAnyH_take (i := 6) (v := ?vka38) rfl (by kernel_rfl) (by kernel_rfl) (by kernel_rfl) (fun _ _ _ h => h) (Or.inl ⟨by rfl, ?yka38⟩) hHeld ?rka38
        case yka38 => (intro w' hSw; go_simp; (try with_reducible rfl))
        (try simp only [Act.put, sL])
        refine wpAnyH_take (i := 7) (v := ?vka39) rfl (by kernel_rfl) (by kernel_rfl) (by kernel_rfl) (fun _ _ _ h => h) (Or.inl ⟨by rfl, ?yka39⟩) hHeld ?rka39
        case yka39 => (intro w' hSw; go_simp; (try with_reducible rfl))
        (try simp only [Act.put, sL])
        refine wpAnyH_ready (rs := [9]) (by kernel_rfl) (by simp) (AllReadyH.cons rfl (fun K hK => ?_) AllReadyH.nil)
        (try simp only [Act.put, sL])
        refine step_store_v rfl 47 _ _ rfl (wka4.heap.size) 0 47 (encC (zeros 225) false) (encC m true) rfl rfl HZ.out (by rw [ZL.out, CM.out]; omega) (by rw [CM.out]; exact size226) (encC_one _ _) ?_
        have PU := HZ.out.putAll (m := m) (t := true) (zeros_len 225) ML.out
        have OB := hide (OB.out.keepBut PU.2 HZ.out (by decide))
        have OL := hide (OL.out.keepBut PU.2 HZ.out (by decide))
        refine hK.out _ _ (gw_own hHeld PU.2 HB.out) (fun hHeld => ?_)
        clear hK
        (try simp only [Act.put, sL])
        refine wpAnyH_take (i := 10) (v := ?vka41) rfl (by kernel_rfl) (by kernel_rfl) (by kernel_rfl) (fun _ _ _ h => h) (Or.inl ⟨by rfl, ?yka41⟩) hHeld ?rka41
        case yka41 => (intro w' hSw; go_simp; (try with_reducible rfl))
        (try simp only [Act.put, sL])
        refine wpAnyH_take (i := 11) (v := ?vka42) rfl (by kernel_rfl) (by kernel_rfl) (by kernel_rfl) (fun _ _ _ h => h) (Or.inl ⟨by rfl, ?yka42⟩) hHeld ?rka42
        case yka42 => (intro w' hSw; go_simp; (try with_reducible rfl))
        (try simp only [Act.put, sL])
        refine wpAnyH_take (i := 12) (v := ?vka43) rfl (by kernel_rfl) (by kernel_rfl) (by kernel_rfl) (fun _ _ _ h => h) (Or.inl ⟨by rfl, ?yka43⟩) hHeld ?rka43
        case yka43 => (intro w' hSw; go_simp; (try with_reducible rfl))
        (try simp only [Act.put, sL])
        refine wpAnyH_done (by kernel_rfl) ?_ _
        go_wp2_with fail
        go_meet
        exact ⟨wka4.heap.size, rfl, rfl, PU.1, OB.out, OL.out, HB.out, hHeld⟩
    case gka2 =>
      (try simp only [Act.put, sL])
      go_simp
      go_wp2_with fail
      refine hK.out _ _ (gw_alloc hHeld (.cells (arrI (zeros 80)) 3)) (fun hHeld => ?_)
      clear hK
      have OM := hide (show Blk ((W0.alloc (.cells (arrI (zeros 80)) 3)).drew) W0.heap.size 3 (zeros 80) from Blk.new W0.drew 3 (zeros 80))
      generalize (W0.alloc (.cells (arrI (zeros 80)) 3)).drew = wzka44 at *
      (try simp only [Act.put, sL])
      refine wpAnyH_ready (rs := [0, 8]) (by kernel_rfl) (by simp) (AllReadyH.cons rfl (fun K hK => ?gka45) (AllReadyH.cons rfl (fun K hK => ?gka46) AllReadyH.nil))
      case gka45 =>
        (try simp only [Act.put, sL])
        go_simp
        refine (PB.out _ (grown_none G0.out hHeld)).mono ?_
        rintro e wka47 ⟨rfl, gka47⟩
        have Gka47 := hide gka47
        clear gka47
        (try unfold memV)
        (try unfold encV)
        go_wp2_with fail
        refine hK.out _ _ (gw_trans hHeld Gka47.out) (fun hHeld => ?_)
        clear hK
        have OM := hide (OM.out.keep Gka47.out)
        (try simp only [Act.put, sL])
        refine wpAnyH_ready (rs := [2, 8]) (by kernel_rfl) (by simp) (AllReadyH.cons rfl (fun K hK => ?gka48) (AllReadyH.cons rfl (fun K hK => ?gka49) AllReadyH.nil))
        case gka48 =>
          (try simp only [Act.put, sL])
          go_simp
          refine (A.out _ _ (grown_none G0.out hHeld) (ints80 OM.out (zeros_len 80)) (SH80.out _)).mono ?_
          rintro e wka50 ⟨vb, vl, rfl, ob, ol, gka50⟩
          have Gka50 := hide gka50
          have OB := hide (ob.base (b' := W0.heap.size) (World.grownBy.size hHeld))
          have OL := hide (ol.base (b' := W0.heap.size) (World.grownBy.size hHeld))
          clear gka50 ob ol
          (try unfold memV)
          (try unfold encV)
          go_wp2_with fail
          refine hK.out _ _ (gw_trans hHeld Gka50.out) (fun hHeld => ?_)
          clear hK
          have OM := hide (OM.out.keep Gka50.out)
          (try simp only [Act.put, sL])
          refine wpAnyH_take (i := 3) (v := ?vka51) rfl (by kernel_rfl) (by kernel_rfl) (by kernel_rfl) (fun _ _ _ h => h) (Or.inl ⟨by rfl, ?yka51⟩) hHeld ?rka51
          case yka51 => (intro w' hSw; go_simp; (try with_reducible rfl))
          (try simp only [Act.put, sL])
          refine wpAnyH_take (i := 4) (v := ?vka52) rfl (by kernel_rfl) (by kernel_rfl) (by kernel_rfl) (fun _ _ _ h => h) (Or.inl ⟨by rfl, ?yka52⟩) hHeld ?rka52
          case yka52 => (intro w' hSw; go_simp; (try with_reducible rfl))
          (try simp only [Act.put, sL])
          refine wpAnyH_take (i := 5) (v := ?vka53) rfl (by kernel_rfl) (by kernel_rfl) (by kernel_rfl) (fun _ _ _ h => h) (Or.inl ⟨by rfl, ?yka53⟩) hHeld ?rka53
          case yka53 => (intro w' hSw; go_simp; (try with_reducible rfl))
          (try simp only [Act.put, sL])
          refine wpAnyH_take (i := 6) (v := ?vka54) rfl (by kernel_rfl) (by kernel_rfl) (by kernel_rfl) (fun _ _ _ h => h) (Or.inl ⟨by rfl, ?yka54⟩) hHeld ?rka54
          case yka54 => (intro w' hSw; go_simp; (try with_reducible rfl))
          (try simp only [Act.put, sL])
          refine wpAnyH_take (i := 7) (v := ?vka55) rfl (by kernel_rfl) (by kernel_rfl) (by kernel_rfl) (fun _ _ _ h => h) (Or.inl ⟨by rfl, ?yka55⟩) hHeld ?rka55
          case yka55 => (intro w' hSw; go_simp; (try with_reducible rfl))
          (try simp only [Act.put, sL])
          refine wpAnyH_ready (rs := [8]) (by kernel_rfl) (by simp) (AllReadyH.cons rfl (fun K hK => ?_) AllReadyH.nil)
          (try simp only [Act.put, sL])
          go_simp
          go_wp2_with fail
          have HB := hide (show W0.heap.size ≤ wka50.heap.size from by first | exact Nat.le_refl _ | exact World.grownBy.size hHeld)
          refine hK.out _ _ (gw_alloc hHeld (.cells (encC (zeros 225) false).toArray 47)) (fun hHeld => ?_)
          clear hK
          have HZ := hide (show BlkE (wka50.alloc (.cells (encC (zeros 225) false).toArray 47)) wka50.heap.size (zeros 225) false from BlkE.new wka50 (zeros 225) false)
          have OB := hide (OB.out.keep (grown_alloc wka50 (.cells (encC (zeros 225) false).toArray 47) none))
          have OL := hide (OL.out.keep (grown_alloc wka50 (.cells (encC (zeros 225) false).toArray 47) none))
          generalize wka50.alloc (.cells (encC (zeros 225) false).toArray 47) = wzka56 at *
          (try simp only [Act.put, sL])
          refine wpAnyH_ready (rs := [9]) (by kernel_rfl) (by simp) (AllReadyH.cons rfl (fun K hK => ?_) AllReadyH.nil)
          (try simp only [Act.put, sL])
          refine step_store_v rfl 47 _ _ rfl (wka50.heap.size) 0 47 (encC (zeros 225) false) (encC m true) rfl rfl HZ.out (by rw [ZL.out, CM.out]; omega) (by rw [CM.out]; exact size226) (encC_one _ _) ?_
          have PU := HZ.out.putAll (m := m) (t := true) (zeros_len 225) ML.out
          have OB := hide (OB.out.keepBut PU.2 HZ.out (by decide))
          have OL := hide (OL.out.keepBut PU.2 HZ.out (by decide))
          refine hK.out _ _ (gw_own hHeld PU.2 HB.out) (fun hHeld => ?_)
          clear hK
          (try simp only [Act.put, sL])
          refine wpAnyH_take (i := 10) (v := ?vka58) rfl (by kernel_rfl) (by kernel_rfl) (by kernel_rfl) (fun _ _ _ h => h) (Or.inl ⟨by rfl, ?yka58⟩) hHeld ?rka58
          case yka58 => (intro w' hSw; go_simp; (try with_reducible rfl))
          (try simp only [Act.put, sL])
          refine wpAnyH_take (i := 11) (v := ?vka59) rfl (by kernel_rfl) (by kernel_rfl) (by kernel_rfl) (fun _ _ _ h => h) (Or.inl ⟨by rfl, ?yka59⟩) hHeld ?rka59
          case yka59 => (intro w' hSw; go_simp; (try with_reducible rfl))
          (try simp only [Act.put, sL])
          refine wpAnyH_take (i := 12) (v := ?vka60) rfl (by kernel_rfl) (by kernel_rfl) (by kernel_rfl) (fun _ _ _ h => h) (Or.inl ⟨by rfl, ?yka60⟩) hHeld ?rka60
          case yka60 => (intro w' hSw; go_simp; (try with_reducible rfl))
          (try simp only [Act.put, sL])
          refine wpAnyH_done (by kernel_rfl) ?_ _
          go_wp2_with fail
          go_meet
          exact ⟨wka50.heap.size, rfl, rfl, PU.1, OB.out, OL.out, HB.out, hHeld⟩
        case gka49 =>
          (try simp only [Act.put, sL])
          go_simp
          go_wp2_with fail
          have HB := hide (show W0.heap.size ≤ wka47.heap.size from by first | exact Nat.le_refl _ | exact World.grownBy.size hHeld)
          refine hK.out _ _ (gw_alloc hHeld (.cells (encC (zeros 225) false).toArray 47)) (fun hHeld => ?_)
          clear hK
          have HZ := hide (show BlkE (wka47.alloc (.cells (encC (zeros 225) false).toArray 47)) wka47.heap.size (zeros 225) false from BlkE.new wka47 (zeros 225) false)
          have OM := hide (OM.out.keep (grown_alloc wka47 (.cells (encC (zeros 225) false).toArray 47) none))
          generalize wka47.alloc (.cells (encC (zeros 225) false).toArray 47) = wzka61 at *
          (try simp only [Act.put, sL])
          refine wpAnyH_ready (rs := [2]) (by kernel_rfl) (by simp) (AllReadyH.cons rfl (fun K hK => ?_) AllReadyH.nil)
          (try simp only [Act.put, sL])
          go_simp
          refine (A.out _ _ (grown_none G0.out hHeld) (ints80 OM.out (zeros_len 80)) (SH80.out _)).mono ?_
          rintro e wka62 ⟨vb, vl, rfl, ob, ol, gka62⟩
          have Gka62 := hide gka62
          have OB := hide (ob.base (b' := W0.heap.size) (World.grownBy.size hHeld))
          have OL := hide (ol.base (b' := W0.heap.size) (World.grownBy.size hHeld))
          clear gka62 ob ol
          (try unfold memV)
          (try unfold encV)
          go_wp2_with fail
          refine hK.out _ _ (gw_trans hHeld Gka62.out) (fun hHeld => ?_)
          clear hK
          have OM := hide (OM.out.keep Gka62.out)
          have HZ := hide (HZ.out.keep Gka62.out)
          (try simp only [Act.put, sL])
          refine wpAnyH_take (i := 3) (v := ?vka63) rfl (by kernel_rfl) (by kernel_rfl) (by kernel_rfl) (fun _ _ _ h => h) (Or.inl ⟨by rfl, ?yka63⟩) hHeld ?rka63
          case yka63 => (intro w' hSw; go_simp; (try with_reducible rfl))
          (try simp only [Act.put, sL])
          refine wpAnyH_take (i := 4) (v := ?vka64) rfl (by kernel_rfl) (by kernel_rfl) (by kernel_rfl) (fun _ _ _ h => h) (Or.inl ⟨by rfl, ?yka64⟩) hHeld ?rka64
          case yka64 => (intro w' hSw; go_simp; (try with_reducible rfl))
          (try simp only [Act.put, sL])
          refine wpAnyH_take (i := 5) (v := ?vka65) rfl (by kernel_rfl) (by kernel_rfl) (by kernel_rfl) (fun _ _ _ h => h) (Or.inl ⟨by rfl, ?yka65⟩) hHeld ?rka65
          case yka65 => (intro w' hSw; go_simp; (try with_reducible rfl))
          (try simp only [Act.put, sL])
          refine wpAnyH_take (i := 6) (v := ?vka66) rfl (by kernel_rfl) (by kernel_rfl) (by kernel_rfl) (fun _ _ _ h => h) (Or.inl ⟨by rfl, ?yka66⟩) hHeld ?rka66
          case yka66 => (intro w' hSw; go_simp; (try with_reducible rfl))
          (try simp only [Act.put, sL])
          refine wpAnyH_take (i := 7) (v := ?vka67) rfl (by kernel_rfl) (by kernel_rfl) (by kernel_rfl) (fun _ _ _ h => h) (Or.inl ⟨by rfl, ?yka67⟩) hHeld ?rka67
          case yka67 => (intro w' hSw; go_simp; (try with_reducible rfl))
          (try simp only [Act.put, sL])
          refine wpAnyH_ready (rs := [9]) (by kernel_rfl) (by simp) (AllReadyH.cons rfl (fun K hK => ?_) AllReadyH.nil)
          (try simp only [Act.put, sL])
          refine step_store_v rfl 47 _ _ rfl (wka47.heap.size) 0 47 (encC (zeros 225) false) (encC m true) rfl rfl HZ.out (by rw [ZL.out, CM.out]; omega) (by rw [CM.out]; exact size226) (encC_one _ _) ?_
          have PU := HZ.out.putAll (m := m) (t := true) (zeros_len 225) ML.out
          have OB := hide (OB.out.keepBut PU.2 HZ.out (by decide))
          have OL := hide (OL.out.keepBut PU.2 HZ.out (by decide))
          refine hK.out _ _ (gw_own hHeld PU.2 HB.out) (fun hHeld => ?_)
          clear hK
          (try simp only [Act.put, sL])
          refine wpAnyH_take (i := 10) (v := ?vka69) rfl (by kernel_rfl) (by kernel_rfl) (by kernel_rfl) (fun _ _ _ h => h) (Or.inl ⟨by rfl, ?yka69⟩) hHeld ?rka69
          case yka69 => (intro w' hSw; go_simp; (try with_reducible rfl))
          (try simp only [Act.put, sL])
          refine wpAnyH_take (i := 11) (v := ?vka70) rfl (by kernel_rfl) (by kernel_rfl) (by kernel_rfl) (fun _ _ _ h => h) (Or.inl ⟨by rfl, ?yka70⟩) hHeld ?rka70
          case yka70 => (intro w' hSw; go_simp; (try with_reducible rfl))
          (try simp only [Act.put, sL])
          refine wpAnyH_take (i := 12) (v := ?vka71) rfl (by kernel_rfl) (by kernel_rfl) (by kernel_rfl) (fun _ _ _ h => h) (Or.inl ⟨by rfl, ?yka71⟩) hHeld ?rka71
          case yka71 => (intro w' hSw; go_simp; (try with_reducible rfl))
          (try simp only [Act.put, sL])
          refine wpAnyH_done (by kernel_rfl) ?_ _
          go_wp2_with fail
          go_meet
          exact ⟨wka47.heap.size, rfl, rfl, PU.1, OB.out, OL.out, HB.out, hHeld⟩
      case gka46 =>
        (try simp only [Act.put, sL])
        go_simp
        go_wp2_with fail
        have HB := hide (show W0.heap.size ≤ wzka44.heap.size from by first | exact Nat.le_refl _ | exact World.grownBy.size hHeld)
        refine hK.out _ _ (gw_alloc hHeld (.cells (encC (zeros 225) false).toArray 47)) (fun hHeld => ?_)
        clear hK
        have HZ := hide (show BlkE (wzka44.alloc (.cells (encC (zeros 225) false).toArray 47)) wzka44.heap.size (zeros 225) false from BlkE.new wzka44 (zeros 225) false)
        have OM := hide (OM.out.keep (grown_alloc wzka44 (.cells (encC (zeros 225) false).toArray 47) none))
        generalize wzka44.alloc (.cells (encC (zeros 225) false).toArray 47) = wzka72 at *
        (try simp only [Act.put, sL])
        refine wpAnyH_ready (rs := [0]) (by kernel_rfl) (by simp) (AllReadyH.cons rfl (fun K hK => ?_) AllReadyH.nil)
        (try simp only [Act.put, sL])
        go_simp
        refine (PB.out _ (grown_none G0.out hHeld)).mono ?_
        rintro e wka73 ⟨rfl, gka73⟩
        have Gka73 := hide gka73
        clear gka73
        (try unfold memV)
        (try unfold encV)
        go_wp2_with fail
        refine hK.out _ _ (gw_trans hHeld Gka73.out) (fun hHeld => ?_)
        clear hK
        have OM := hide (OM.out.keep Gka73.out)
        have HZ := hide (HZ.out.keep Gka73.out)
        (try simp only [Act.put, sL])
        refine wpAnyH_ready (rs := [2]) (by kernel_rfl) (by simp) (AllReadyH.cons rfl (fun K hK => ?_) AllReadyH.nil)
        (try simp only [Act.put, sL])
        go_simp
        refine (A.out _ _ (grown_none G0.out hHeld) (ints80 OM.out (zeros_len 80)) (SH80.out _)).mono ?_
        rintro e wka74 ⟨vb, vl, rfl, ob, ol, gka74⟩
        have Gka74 := hide gka74
        have OB := hide (ob.base (b' := W0.heap.size) (World.grownBy.size hHeld))
        have OL := hide (ol.base (b' := W0.heap.size) (World.grownBy.size hHeld))
        clear gka74 ob ol
        (try unfold memV)
        (try unfold encV)
        go_wp2_with fail
        refine hK.out _ _ (gw_trans hHeld Gka74.out) (fun hHeld => ?_)
        clear hK
        have OM := hide (OM.out.keep Gka74.out)
        have HZ := hide (HZ.out.keep Gka74.out)
        (try simp only [Act.put, sL])
        refine wpAnyH_take (i := 3) (v := ?vka75) rfl (by kernel_rfl) (by kernel_rfl) (by kernel_rfl) (fun _ _ _ h => h) (Or.inl ⟨by rfl, ?yka75⟩) hHeld ?rka75
        case yka75 => (intro w' hSw; go_simp; (try with_reducible rfl))
        (try simp only [Act.put, sL])
        refine wpAnyH_take (i := 4) (v := ?vka76) rfl (by kernel_rfl) (by kernel_rfl) (by kernel_rfl) (fun _ _ _ h => h) (Or.inl ⟨by rfl, ?yka76⟩) hHeld ?rka76
        case yka76 => (intro w' hSw; go_simp; (try with_reducible rfl))
        (try simp only [Act.put, sL])
        refine wpAnyH_take (i := 5) (v := ?vka77) rfl (by kernel_rfl) (by kernel_rfl) (by kernel_rfl) (fun _ _ _ h => h) (Or.inl ⟨by rfl, ?yka77⟩) hHeld ?rka77
        case yka77 => (intro w' hSw; go_simp; (try with_reducible rfl))
        (try simp only [Act.put, sL])
        refine wpAnyH_take (i := 6) (v := ?vka78) rfl (by kernel_rfl) (by kernel_rfl) (by kernel_rfl) (fun _ _ _ h => h) (Or.inl ⟨by rfl, ?yka78⟩) hHeld ?rka78
        case yka78 => (intro w' hSw; go_simp; (try with_reducible rfl))
        (try simp only [Act.put, sL])
        refine wpAnyH_take (i := 7) (v := ?vka79) rfl (by kernel_rfl) (by kernel_rfl) (by kernel_rfl) (fun _ _ _ h => h) (Or.inl ⟨by rfl, ?yka79⟩) hHeld ?rka79
        case yka79 => (intro w' hSw; go_simp; (try with_reducible rfl))
        (try simp only [Act.put, sL])
        refine wpAnyH_ready (rs := [9]) (by kernel_rfl) (by simp) (AllReadyH.cons rfl (fun K hK => ?_) AllReadyH.nil)
        (try simp only [Act.put, sL])
        refine step_store_v rfl 47 _ _ rfl (wzka44.heap.size) 0 47 (encC (zeros 225) false) (encC m true) rfl rfl HZ.out (by rw [ZL.out, CM.out]; omega) (by rw [CM.out]; exact size226) (encC_one _ _) ?_
        have PU := HZ.out.putAll (m := m) (t := true) (zeros_len 225) ML.out
        have OB := hide (OB.out.keepBut PU.2 HZ.out (by decide))
        have OL := hide (OL.out.keepBut PU.2 HZ.out (by decide))
        refine hK.out _ _ (gw_own hHeld PU.2 HB.out) (fun hHeld => ?_)
        clear hK
        (try simp only [Act.put, sL])
        refine wpAnyH_take (i := 10) (v := ?vka81) rfl (by kernel_rfl) (by kernel_rfl) (by kernel_rfl) (fun _ _ _ h => h) (Or.inl ⟨by rfl, ?yka81⟩) hHeld ?rka81
        case yka81 => (intro w' hSw; go_simp; (try with_reducible rfl))
        (try simp only [Act.put, sL])
        refine wpAnyH_take (i := 11) (v := ?vka82) rfl (by kernel_rfl) (by kernel_rfl) (by kernel_rfl) (fun _ _ _ h => h) (Or.inl ⟨by rfl, ?yka82⟩) hHeld ?rka82
        case yka82 => (intro w' hSw; go_simp; (try with_reducible rfl))
        (try simp only [Act.put, sL])
        refine wpAnyH_take (i := 12) (v := ?vka83) rfl (by kernel_rfl) (by kernel_rfl) (by kernel_rfl) (fun _ _ _ h => h) (Or.inl ⟨by rfl, ?yka83⟩) hHeld ?rka83
        case yka83 => (intro w' hSw; go_simp; (try with_reducible rfl))
        (try simp only [Act.put, sL])
        refine wpAnyH_done (by kernel_rfl) ?_ _
        go_wp2_with fail
        go_meet
        exact ⟨wzka44.heap.size, rfl, rfl, PU.1, OB.out, OL.out, HB.out, hHeld⟩
    case gka3 =>
      (try simp only [Act.put, sL])
      go_simp
      go_wp2_with fail
      have HB := hide (show W0.heap.size ≤ W0.heap.size from by first | exact Nat.le_refl _ | exact World.grownBy.size hHeld)
      refine hK.out _ _ (gw_alloc hHeld (.cells (encC (zeros 225) false).toArray 47)) (fun hHeld => ?_)
      clear hK
      have HZ := hide (show BlkE ((W0.alloc (.cells (encC (zeros 225) false).toArray 47)).drew) W0.heap.size (zeros 225) false from BlkE.new W0.drew (zeros 225) false)
      generalize (W0.alloc (.cells (encC (zeros 225) false).toArray 47)).drew = wzka84 at *
      (try simp only [Act.put, sL])
      refine wpAnyH_ready (rs := [0, 1]) (by kernel_rfl) (by simp) (AllReadyH.cons rfl (fun K hK => ?gka85) (AllReadyH.cons rfl (fun K hK => ?gka86) AllReadyH.nil))
      case gka85 =>
        (try simp only [Act.put, sL])
        go_simp
        refine (PB.out _ (grown_none G0.out hHeld)).mono ?_
        rintro e wka87 ⟨rfl, gka87⟩
        have Gka87 := hide gka87
        clear gka87
        (try unfold memV)
        (try unfold encV)
        go_wp2_with fail
        refine hK.out _ _ (gw_trans hHeld Gka87.out) (fun hHeld => ?_)
        clear hK
        have HZ := hide (HZ.out.keep Gka87.out)
        (try simp only [Act.put, sL])
        refine wpAnyH_ready (rs := [1]) (by kernel_rfl) (by simp) (AllReadyH.cons rfl (fun K hK => ?_) AllReadyH.nil)
        (try simp only [Act.put, sL])
        go_simp
        go_wp2_with fail
        refine hK.out _ _ (gw_alloc hHeld (.cells (arrI (zeros 80)) 3)) (fun hHeld => ?_)
        clear hK
        have OM := hide (show Blk (wka87.alloc (.cells (arrI (zeros 80)) 3)) wka87.heap.size 3 (zeros 80) from Blk.new wka87 3 (zeros 80))
        have HZ := hide (HZ.out.keep (grown_alloc wka87 (.cells (arrI (zeros 80)) 3) none))
        generalize wka87.alloc (.cells (arrI (zeros 80)) 3) = wzka88 at *
        (try simp only [Act.put, sL])
        refine wpAnyH_ready (rs := [2]) (by kernel_rfl) (by simp) (AllReadyH.cons rfl (fun K hK => ?_) AllReadyH.nil)
        (try simp only [Act.put, sL])
        go_simp
        refine (A.out _ _ (grown_none G0.out hHeld) (ints80 OM.out (zeros_len 80)) (SH80.out _)).mono ?_
        rintro e wka89 ⟨vb, vl, rfl, ob, ol, gka89⟩
        have Gka89 := hide gka89
        have OB := hide (ob.base (b' := W0.heap.size) (World.grownBy.size hHeld))
        have OL := hide (ol.base (b' := W0.heap.size) (World.grownBy.size hHeld))
        clear gka89 ob ol
        (try unfold memV)
        (try unfold encV)
        go_wp2_with fail
        refine hK.out _ _ (gw_trans hHeld Gka89.out) (fun hHeld => ?_)
        clear hK
        have HZ := hide (HZ.out.keep Gka89.out)
        have OM := hide (OM.out.keep Gka89.out)
        (try simp only [Act.put, sL])
        refine wpAnyH_take (i := 3) (v := ?vka90) rfl (by kernel_rfl) (by kernel_rfl) (by kernel_rfl) (fun _ _ _ h => h) (Or.inl ⟨by rfl, ?yka90⟩) hHeld ?rka90
        case yka90 => (intro w' hSw; go_simp; (try with_reducible rfl))
        (try simp only [Act.put, sL])
        refine wpAnyH_take (i := 4) (v := ?vka91) rfl (by kernel_rfl) (by kernel_rfl) (by kernel_rfl) (fun _ _ _ h => h) (Or.inl ⟨by rfl, ?yka91⟩) hHeld ?rka91
        case yka91 => (intro w' hSw; go_simp; (try with_reducible rfl))
        (try simp only [Act.put, sL])
        refine wpAnyH_take (i := 5) (v := ?vka92) rfl (by kernel_rfl) (by kernel_rfl) (by kernel_rfl) (fun _ _ _ h => h) (Or.inl ⟨by rfl, ?yka92⟩) hHeld ?rka92
        case yka92 => (intro w' hSw; go_simp; (try with_reducible rfl))
        (try simp only [Act.put, sL])
        refine wpAnyH_take (i := 6) (v := ?vka93) rfl (by kernel_rfl) (by kernel_rfl) (by kernel_rfl) (fun _ _ _ h => h) (Or.inl ⟨by rfl, ?yka93⟩) hHeld ?rka93
        case yka93 => (intro w' hSw; go_simp; (try with_reducible rfl))
        (try simp only [Act.put, sL])
        refine wpAnyH_take (i := 7) (v := ?vka94) rfl (by kernel_rfl) (by kernel_rfl) (by kernel_rfl) (fun _ _ _ h => h) (Or.inl ⟨by rfl, ?yka94⟩) hHeld ?rka94
        case yka94 => (intro w' hSw; go_simp; (try with_reducible rfl))
        (try simp only [Act.put, sL])
        refine wpAnyH_ready (rs := [9]) (by kernel_rfl) (by simp) (AllReadyH.cons rfl (fun K hK => ?_) AllReadyH.nil)
        (try simp only [Act.put, sL])
        refine step_store_v rfl 47 _ _ rfl (W0.heap.size) 0 47 (encC (zeros 225) false) (encC m true) rfl rfl HZ.out (by rw [ZL.out, CM.out]; omega) (by rw [CM.out]; exact size226) (encC_one _ _) ?_
        have PU := HZ.out.putAll (m := m) (t := true) (zeros_len 225) ML.out
        have OB := hide (OB.out.keepBut PU.2 HZ.out (by decide))
        have OL := hide (OL.out.keepBut PU.2 HZ.out (by decide))
        refine hK.out _ _ (gw_own hHeld PU.2 HB.out) (fun hHeld => ?_)
        clear hK
        (try simp only [Act.put, sL])
        refine wpAnyH_take (i := 10) (v := ?vka96) rfl (by kernel_rfl) (by kernel_rfl) (by kernel_rfl) (fun _ _ _ h => h) (Or.inl ⟨by rfl, ?yka96⟩) hHeld ?rka96
        case yka96 => (intro w' hSw; go_simp; (try with_reducible rfl))
        (try simp only [Act.put, sL])
        refine wpAnyH_take (i := 11) (v := ?vka97) rfl (by kernel_rfl) (by kernel_rfl) (by kernel_rfl) (fun _ _ _ h => h) (Or.inl ⟨by rfl, ?yka97⟩) hHeld ?rka97
        case yka97 => (intro w' hSw; go_simp; (try with_reducible rfl))
        (try simp only [Act.put, sL])
        refine wpAnyH_take (i := 12) (v := ?vka98) rfl (by kernel_rfl) (by kernel_rfl) (by kernel_rfl) (fun _ _ _ h => h) (Or.inl ⟨by rfl, ?yka98⟩) hHeld ?rka98
        case yka98 => (intro w' hSw; go_simp; (try with_reducible rfl))
        (try simp only [Act.put, sL])
        refine wpAnyH_done (by kernel_rfl) ?_ _
        go_wp2_with fail
        go_meet
        exact ⟨W0.heap.size, rfl, rfl, PU.1, OB.out, OL.out, HB.out, hHeld⟩
      case gka86 =>
        (try simp only [Act.put, sL])
        go_simp
        go_wp2_with fail
        refine hK.out _ _ (gw_alloc hHeld (.cells (arrI (zeros 80)) 3)) (fun hHeld => ?_)
        clear hK
        have OM := hide (show Blk (wzka84.alloc (.cells (arrI (zeros 80)) 3)) wzka84.heap.size 3 (zeros 80) from Blk.new wzka84 3 (zeros 80))
        have HZ := hide (HZ.out.keep (grown_alloc wzka84 (.cells (arrI (zeros 80)) 3) none))
        generalize wzka84.alloc (.cells (arrI (zeros 80)) 3) = wzka99 at *
        (try simp only [Act.put, sL])
        refine wpAnyH_ready (rs := [0]) (by kernel_rfl) (by simp) (AllReadyH.cons rfl (fun K hK => ?_) AllReadyH.nil)
        (try simp only [Act.put, sL])
        go_simp
        refine (PB.out _ (grown_none G0.out hHeld)).mono ?_
        rintro e wka100 ⟨rfl, gka100⟩
        have Gka100 := hide gka100
        clear gka100
        (try unfold memV)
        (try unfold encV)
        go_wp2_with fail
        refine hK.out _ _ (gw_trans hHeld Gka100.out) (fun hHeld => ?_)
        clear hK
        have HZ := hide (HZ.out.keep Gka100.out)
        have OM := hide (OM.out.keep Gka100.out)
        (try simp only [Act.put, sL])
        refine wpAnyH_ready (rs := [2]) (by kernel_rfl) (by simp) (AllReadyH.cons rfl (fun K hK => ?_) AllReadyH.nil)
        (try simp only [Act.put, sL])
        go_simp
        refine (A.out _ _ (grown_none G0.out hHeld) (ints80 OM.out (zeros_len 80)) (SH80.out _)).mono ?_
        rintro e wka101 ⟨vb, vl, rfl, ob, ol, gka101⟩
        have Gka101 := hide gka101
        have OB := hide (ob.base (b' := W0.heap.size) (World.grownBy.size hHeld))
        have OL := hide (ol.base (b' := W0.heap.size) (World.grownBy.size hHeld))
        clear gka101 ob ol
        (try unfold memV)
        (try unfold encV)
        go_wp2_with fail
        refine hK.out _ _ (gw_trans hHeld Gka101.out) (fun hHeld => ?_)
        clear hK
        have HZ := hide (HZ.out.keep Gka101.out)
        have OM := hide (OM.out.keep Gka101.out)
        (try simp only [Act.put, sL])
        refine wpAnyH_take (i := 3) (v := ?vka102) rfl (by kernel_rfl) (by kernel_rfl) (by kernel_rfl) (fun _ _ _ h => h) (Or.inl ⟨by rfl, ?yka102⟩) hHeld ?rka102
        case yka102 => (intro w' hSw; go_simp; (try with_reducible rfl))
        (try simp only [Act.put, sL])
        refine wpAnyH_take (i := 4) (v := ?vka103) rfl (by kernel_rfl) (by kernel_rfl) (by kernel_rfl) (fun _ _ _ h => h) (Or.inl ⟨by rfl, ?yka103⟩) hHeld ?rka103
        case yka103 => (intro w' hSw; go_simp; (try with_reducible rfl))
        (try simp only [Act.put, sL])
        refine wpAnyH_take (i := 5) (v := ?vka104) rfl (by kernel_rfl) (by kernel_rfl) (by kernel_rfl) (fun _ _ _ h => h) (Or.inl ⟨by rfl, ?yka104⟩) hHeld ?rka104
        case yka104 => (intro w' hSw; go_simp; (try with_reducible rfl))
        (try simp only [Act.put, sL])
        refine wpAnyH_take (i := 6) (v := ?vka105) rfl (by kernel_rfl) (by kernel_rfl) (by kernel_rfl) (fun _ _ _ h => h) (Or.inl ⟨by rfl, ?yka105⟩) hHeld ?rka105
        case yka105 => (intro w' hSw; go_simp; (try with_reducible rfl))
        (try simp only [Act.put, sL])
        refine wpAnyH_take (i := 7) (v := ?vka106) rfl (by kernel_rfl) (by kernel_rfl) (by kernel_rfl) (fun _ _ _ h => h) (Or.inl ⟨by rfl, ?yka106⟩) hHeld ?rka106
        case yka106 => (intro w' hSw; go_simp; (try with_reducible rfl))
        (try simp only [Act.put, sL])
        refine wpAnyH_ready (rs := [9]) (by kernel_rfl) (by simp) (AllReadyH.cons rfl (fun K hK => ?_) AllReadyH.nil)
        (try simp only [Act.put, sL])
        refine step_store_v rfl 47 _ _ rfl (W0.heap.size) 0 47 (encC (zeros 225) false) (encC m true) rfl rfl HZ.out (by rw [ZL.out, CM.out]; omega) (by rw [CM.out]; exact size226) (encC_one _ _) ?_
        have PU := HZ.out.putAll (m := m) (t := true) (zeros_len 225) ML.out
        have OB := hide (OB.out.keepBut PU.2 HZ.out (by decide))
        have OL := hide (OL.out.keepBut PU.2 HZ.out (by decide))
        refine hK.out _ _ (gw_own hHeld PU.2 HB.out) (fun hHeld => ?_)
        clear hK
        (try simp only [Act.put, sL])
        refine wpAnyH_take (i := 10) (v := ?vka108) rfl (by kernel_rfl) (by kernel_rfl) (by kernel_rfl) (fun _ _ _ h => h) (Or.inl ⟨by rfl, ?yka108⟩) hHeld ?rka108
        case yka108 => (intro w' hSw; go_simp; (try with_reducible rfl))
        (try simp only [Act.put, sL])
        refine wpAnyH_take (i := 11) (v := ?vka109) rfl (by kernel_rfl) (by kernel_rfl) (by kernel_rfl) (fun _ _ _ h => h) (Or.inl ⟨by rfl, ?yka109⟩) hHeld ?rka109
        case yka109 => (intro w' hSw; go_simp; (try with_reducible rfl))
        (try simp only [Act.put, sL])
        refine wpAnyH_take (i := 12) (v := ?vka110) rfl (by kernel_rfl) (by kernel_rfl) (by kernel_rfl) (fun _ _ _ h => h) (Or.inl ⟨by rfl, ?yka110⟩) hHeld ?rka110
        case yka110 => (intro w' hSw; go_simp; (try with_reducible rfl))
        (try simp only [Act.put, sL])
        refine wpAnyH_done (by kernel_rfl) ?_ _
        go_wp2_with fail
        go_meet
        exact ⟨W0.heap.size, rfl, rfl, PU.1, OB.out, OL.out, HB.out, hHeld⟩
  case rest =>
  obtain ⟨b1, rfl, rfl, v1b, ob1, ol1, hb1, g1⟩ := hcut
  obtain ⟨gb, cb, rfl, _, _, _⟩ := ob1.form (by rw [EB.out]; omega)
  obtain ⟨gl, cl, rfl, _, _, _⟩ := ol1.form (by rw [EL.out]; omega)
  rw [EB.out, EL.out]
  have FF := hide (F.out _ g1)
  have cs := encCellS v1b ML.out
  clear ob1 ol1 g1 hb1 A PB SH80 F v1b hz
  go_wp2_with fail
  exact FF.out
end Go.Proofs.YtjepkgdejkifcaaGreatDoor

/- LCodE -/
namespace Go.Proofs.YtjepkgdejkifcaaGreatDoor

end Go.Proofs.YtjepkgdejkifcaaGreatDoor

/- LGds -/
namespace Go.Proofs.YtjepkgdejkifcaaGreatDoor
open Go.RowKit
set_option linter.unusedVariables false
set_option linter.unusedSimpArgs false
set_option maxHeartbeats 4000000
theorem gud_64 {q : List Int} (hl : q.length = 25) (h : gudP q = true) : In64 q := fun i => by
  by_cases k : i < 25
  · have := (gudP_iff _).1 h i k; have := (moN_lt i k).2.2; omega
  · rw [getD_out _ i (by omega)]; omega
end Go.Proofs.YtjepkgdejkifcaaGreatDoor

/- LCmm -/
namespace Go.Proofs.YtjepkgdejkifcaaGreatDoor
open Go.RowKit
set_option linter.unusedVariables false
set_option linter.unusedSimpArgs false
set_option maxHeartbeats 4000000
theorem beg_okD {D : List Int} (hl : D.length = 80) (hr : rightB D = true) : enOk begL D := by
  have h : nth begL 0 = 0 ∧ nth begL 1 = 0 ∧ nth begL 2 = 0 ∧ nth begL 3 = 0 := by decide +kernel
  have he : enHE begL D = true := by
    unfold enHE okH
    rw [h.1, h.2.1, h.2.2.1, h.2.2.2, hr]
    decide
  refine ⟨hl, by rw [beg_mm]; exact freL_good, he, ?_⟩
  have a : rightB (prt begL 84 40) = true := by decide +kernel
  have b := enC_right he
  unfold enI rightB at *
  rw [List.all_append, a, b]; rfl
theorem make_room (u : World) : (Instr.makeSlice 26 (.int .i64 0) (.int .i64 40)).run Tryz.prog u = .ok (.slice (some ⟨u.heap.size, 0, none⟩) 0 40) (u.alloc (.cells (arrB (zeros 40)) 5)) := by
  obtain ⟨i0, hi, hz0, hz1, hz2⟩ := info_parts infoU8
  have h := run_make (P := Tryz.prog) u 26 5 i0 (.int .u8 0) Tryz.underlying26 hi hz0 .i64 .i64 0 40 (by omega) (by omega) (by rw [hz2]; omega) (by omega)
  rw [show arrB (zeros 40) = madeCells #[.int .u8 0] 40 from (made_arrB 40).symm]
  simpa [hz1, Value.cells] using h
theorem own_room (w : World) : OwnB w.heap.size (w.alloc (.cells (arrB (zeros 40)) 5)) (.slice (some ⟨w.heap.size, 0, none⟩) 0 40) [] := by
  refine ⟨rfl, .inr ⟨w.heap.size, 40, arrB (zeros 40), rfl, Nat.le_refl _, heap_new _ _, Nat.zero_le _, by decide, by simp [arrB, zeros_len], rfl⟩⟩
theorem byts_litM (w : World) (z : Int) : Byts (w.alloc (.cells #[.int .u8 z] 5)) (.slice (some ⟨w.heap.size, 0, none⟩) 1 1) [z] := by
  refine ⟨some ⟨w.heap.size, 0, none⟩, 1, rfl, Nat.le_refl _, fun _ => ⟨_, rfl, fun i hi => ?_⟩⟩
  have e : i = 0 := by simpa using hi
  subst e
  rw [Addr.add_mid, cell_of_heap (heap_new w _)]
  rfl
theorem byts_cut {base : Nat} {w : World} {g cap : Nat} {A : List Int} {x : Int} (h : OwnB base w (.slice (some ⟨g, 0, none⟩) (A.length + 1) cap) (A ++ [x])) : Byts w (.slice (some ⟨g, 0, none⟩) A.length cap) A := by
  have hc : A.length ≤ cap := by
    obtain ⟨ad, c, e, hc, _⟩ := h.byts
    simp only [Value.slice.injEq] at e
    obtain ⟨_, _, rfl⟩ := e
    simp at hc
    omega
  refine ⟨some ⟨g, 0, none⟩, cap, rfl, hc, fun _ => ⟨_, rfl, fun i hi => ?_⟩⟩
  rw [Addr.add_mid, Nat.zero_add, h.cell (by simp) i (by simp; omega)]
  simp [nth, List.getD, List.getElem?_append_left hi]
theorem ownB_ne {b1 b2 : Nat} {w : World} {v u : Value} {A B : List Int} {g k : Nat} (h : OwnB b1 w v A) (k' : Own b2 w u B) (hg : v.ownBlock = some g) (hk : u.ownBlock = some k) : g ≠ k := by
  rcases h.2 with ⟨rfl, _⟩ | ⟨g', cap, cur, rfl, _, hgg, _⟩
  · cases hg
  · rcases k'.2 with ⟨rfl, _⟩ | ⟨g2, cap2, cur2, rfl, _, hgg2, _⟩
    · cases hk
    · simp only [Value.ownBlock, Option.some.injEq] at hg hk
      subst hg hk
      intro e
      subst e
      rw [hgg] at hgg2
      simp at hgg2
theorem own_le {base : Nat} {w : World} {v : Value} {l : List Int} (h : Own base w v l) (hl : 0 < l.length) : base ≤ w.heap.size := by
  obtain ⟨g, c, rfl, h1, h2, _⟩ := h.form hl
  omega
structure CmS (W2 : World) (b5 b8 b11 : Nat) (vc : Value) (C : List Int) (vk vw : Value) (K : List Int) (wr : World) : Prop where
  q : W2.grownBy wr none
  c : OwnB b5 wr vc C
  k : Own b8 wr vk K
  w : Own b11 wr vw K
theorem CmS.keep {W2 : World} {b5 b8 b11 : Nat} {vc : Value} {C : List Int} {vk vw : Value} {K : List Int} {wr wr' : World} (h : CmS W2 b5 b8 b11 vc C vk vw K wr) (g : wr.grownBy wr' none) : CmS W2 b5 b8 b11 vc C vk vw K wr' := ⟨grown_none h.q g, h.c.keep g, h.k.keep g, h.w.keep g⟩
theorem CmS.low {W2 : World} {b5 b8 b11 : Nat} {vc : Value} {C : List Int} {vk vw : Value} {K : List Int} {wr wr' : World} {b : Nat} (h : CmS W2 b5 b8 b11 vc C vk vw K wr) (g : wr.grownBy wr' (some b)) (h2 : W2.heap.size ≤ b) (h5 : b < b5) (h8 : b5 ≤ b8) (h11 : b8 ≤ b11) : CmS W2 b5 b8 b11 vc C vk vw K wr' := ⟨grown_own h.q g h2, h.c.keepLt g h5, h.k.keepLt g (by omega), h.w.keepLt g (by omega)⟩
theorem CmS.high {W2 : World} {b5 b8 b11 : Nat} {vc : Value} {C : List Int} {vk vw : Value} {K : List Int} {wr wr' : World} {b : Nat} (h : CmS W2 b5 b8 b11 vc C vk vw K wr) (g : wr.grownBy wr' (some b)) (h2 : W2.heap.size ≤ b) (hc : ∀ x, vc.ownBlock = some x → x < b) (hk : ∀ x, vk.ownBlock = some x → x < b) (hw : ∀ x, vw.ownBlock = some x → x < b) : CmS W2 b5 b8 b11 vc C vk vw K wr' :=
  ⟨grown_own h.q g h2, World.ownsRow.kept h.c g (.inr (fun e => by have := hc b e; omega)), World.ownsRow.kept h.k g (.inr (fun e => by have := hk b e; omega)), World.ownsRow.kept h.w g (.inr (fun e => by have := hw b e; omega))⟩
set_option maxRecDepth 100000 in
theorem law_codMemory (w : World) (pk : PPk 19 w) (pd : CDe 8 w) (pf : CFr 28 w) (pc : CEn 13 w) (pb : CBg 16 w) (v : Value) (l : List Int) (hi : Ints w v l) (hl : l.length * 8 ≤ 140737488351232) (hl64 : In64 l) (hsh : Shp v l) (p : List Int) (hp : p.length = 25) (hp64 : In64 p) :
    Calls Tryz.prog 7 #[v, .agg (arrI p)] w fun e w' => e = .returned (.bool true) ∧ Below w.heap.size w w' := by
  have P0 := hide (Blk.new w 38 p)
  have G0 := hide (grown_alloc w (.cells (arrI p) 38) none)
  have LD := hide (fun wr (q : w.grownBy wr none) => lists_any v l wr (Ints_keep hi q) hl 80 (by omega))
  rw [show ((80 : Nat) : Int) = 80 from rfl] at LD
  have PA := hide (fun wr => packet_any p hp wr)
  have PK := hide (fun (q : List Int) (hq : q.length = 25) (gq : gudP q = true) wr g => pk q hq (gud_64 hq gq) wr g)
  have PE := hide (fun (D : List Int) (hD : D.length = 80) (rD : rightB D = true) v' wr g h sh => pc begL false begL_len begL_64 v' D wr g h sh (right_64 rD) (by rw [hD]; omega) true)
  have EO := hide (fun (D : List Int) (hD : D.length = 80) (rD : rightB D = true) => beg_okD hD rD)
  have PB := hide pb
  have PD := hide (fun (b : List Int) (hb : byB b) (bl : b.length ≤ 140737488351232) v' wr g h sh => pd freL false freL_len freL_64 v' b wr g h sh hb bl)
  have PF := hide pf
  have CD := hide (fun wr g => codes_any w pc pb wr g)
  have HP := hide hp
  have ZL := hide (memC_len (zeros_len 101) false)
  have ZE := hide (encC_len (zeros_len 225) false)
  have hz := zero_mem
  have hze := zero_enc
  have hmr := make_room
  obtain ⟨adv, cv, rfl, _, _⟩ := hi
  clear pk pd pf pc pb hl64 hsh hp hp64 hl
  unfold CBg AnsC encV at PB
  unfold CFr AnsC memV at PF
  unfold AnsC at CD
  unfold EncE encV at PE
  unfold MemE at PD
  unfold memV at hz PD
  unfold encV at hze
  go_enter Tryz.func7, Tryz.ntmps7
  go_upto_region 1 with fail
  generalize w.alloc (.cells (arrI p) 38) = W0 at *
  go_wp2_with fail
  refine (LD.out W0 G0.out).mono ?_
  rintro x W1 ⟨b1, D, rfl, bD, hDn, hDr, hb1, g1⟩
  have rD : rightB D = true := (rightB_iff D).2 (fun i _ => hDr i)
  have RO := hide (roomy_any _ D W1 (Ints_of_blk bD) (by omega))
  rw [hDn] at RO
  have BD := hide bD
  have P1 := hide (P0.out.keep g1)
  have G1 := hide (grown_none G0.out g1)
  have DL := hide hDn
  clear LD bD g1 hb1 P0 G0 hDr
  go_wp2_with fail
  refine RO.out.mono ?_
  rintro x W2 ⟨bm, rfl, _, hM, g2⟩
  have RM := hide hM
  have BD2 := hide (BD.out.keep g2)
  have P2 := hide (P1.out.keep g2)
  have G2 := hide (grown_none G1.out g2)
  have PE1 := hide (PE.out D hDn rD)
  have EOK := EO.out D hDn rD
  have EY := enc_yes true EOK
  rw [EY.1, EY.2.1, EY.2.2.1, EY.2.2.2.1, EY.2.2.2.2] at PE1
  have GPk := enP_good (l := D) true EOK.2.1
  have PLk := enP_len (l := D) true EOK.2.1
  have UNk := un_pk _ PLk GPk
  have EM := hide (show (enHp begL D ++ (enI begL D ++ plyM (enMm begL) (enP begL D true))).length = 225 by have := encM_len (l := D) true begL_len; rwa [EY.1] at this)
  have HLn := hide ((plyL_right (show (enMm begL).length = 101 from prt_len _ _ _) EOK.2.1 GPk).1)
  have BLn := hide (pkA_len (enP begL D true))
  have BBy := hide (pkA_by (enP begL D true))
  have DY := dec_yes freL_good UNk.1
  have PD1 := hide (PD.out (pkA (enP begL D true)) BBy.out (by rw [pkA_len]; omega))
  rw [DY.1, DY.2.1, DY.2.2.1, DY.2.2.2, UNk.2] at PD1
  have KM := hide (plyM_len (enP begL D true) freL_len)
  have KL := hide ((plyL_right freL_len freL_good GPk).1)
  have MI := hide (fun wr (g : W2.grownBy wr none) => (show Ints wr (.slice (some ⟨bm, 0, none⟩) 80 (80 + 2)) D from by have := Room.ints (RM.out.keep g); rwa [hDn] at this))
  have ST := hide (fun wr (g : W2.grownBy wr none) => stayed_any bm D wr (RM.out.keep g) _ (Ints_of_blk (BD2.out.keep g)) (by omega))
  rw [hDn] at ST
  have MS := hide (show Shp (.slice (some ⟨bm, 0, none⟩) 80 (80 + 2)) D from .inr ⟨_, _, by rw [hDn]⟩)
  clear RO hM g2 P1 G1 BD PE EO EOK EY GPk PLk UNk DY PD rD hDn RM BD2
  generalize enHp begL D ++ (enI begL D ++ plyM (enMm begL) (enP begL D true)) = XM at *
  generalize plyS (enP begL D true) = XS at *
  generalize plyL (enMm begL) (enP begL D true) = XH at *
  generalize plyM freL (enP begL D true) = YM at *
  generalize plyL freL (enP begL D true) = YK at *
  generalize pkA (enP begL D true) = YB at *
  go_upto_region 3 with fail
  go_wp2_with fail
  refine (PB.out W2 G2.out).mono ?_
  rintro x W3 ⟨rfl, g3⟩
  have G3 := hide (grown_none G2.out g3)
  have Q3 := hide g3
  clear PB g3
  go_wp2_with fail
  refine (PE1.out _ W3 G3.out (MI.out W3 Q3.out) MS.out).mono ?_
  rintro x W4 ⟨vb, vh, rfl, ob, oh, g4⟩
  have FE := hide (fresh_enc W4 XM XS EM.out)
  have CX := hide (encC_len EM.out XS)
  have GA := hide (grown_none g4 FE.out.2.2)
  have Q5 := hide (grown_none Q3.out GA.out)
  have OB := hide (ob.keep FE.out.2.2)
  have OH := hide (oh.keep FE.out.2.2)
  have N3 := hide (show W2.heap.size ≤ W3.heap.size from Q3.out.size)
  clear PE1 G3 Q3 g4 ob oh MI MS GA
  go_upto_region 4 with (first | refine wpList_store_v rfl 47 _ _ rfl W4.heap.size 0 47 (encC (zeros 225) false) (encC XM XS) rfl rfl FE.out.1 (by rw [ZE.out, CX.out]; omega) (by rw [CX.out]; exact size226) (encC_one _ _) ?_)
  (try simp only [Act.put])
  clear FE hze CX
  generalize putV (W4.alloc (.cells (encC (zeros 225) false).toArray 47)) W4.heap.size 0 (encC XM XS) = W5 at *
  obtain ⟨gb, cb, rfl, hgb3, hgb5, _⟩ := OB.out.form (by rw [BLn.out]; omega)
  obtain ⟨gh, ch, rfl, hgh3, hgh5, _⟩ := OH.out.form (by rw [HLn.out]; omega)
  rw [BLn.out] at OB ⊢
  rw [HLn.out] at OH ⊢
  have NGB := hide (show W3.heap.size ≤ gb ∧ gb < W5.heap.size from ⟨hgb3, hgb5⟩)
  have NGH := hide (show W3.heap.size ≤ gh ∧ gh < W5.heap.size from ⟨hgh3, hgh5⟩)
  clear hgb3 hgb5 hgh3 hgh5
  have OR := hide (own_room W5)
  have BY := hide (OB.out.byts)
  have BSH := hide (show Shp (.slice (some ⟨gb, 0, none⟩) 15 cb) YB from .inr ⟨_, _, by rw [BLn.out]⟩)
  have GR := grown_alloc W5 (.cells (arrB (zeros 40)) 5) none
  have BY6 := hide (Byts_keep BY.out GR)
  have SZ6 := hide (show W5.heap.size ≤ (W5.alloc (.cells (arrB (zeros 40)) 5)).heap.size from GR.size)
  have Q6 := hide GR
  clear GR BY
  generalize zeros 40 = Z40 at *
  go_wp2_with (at_builtin; refine wpList_append_bothB (by rfl) _ _ rfl W5.heap.size _ _ [] YB rfl rfl OR.out BY6.out BSH.out (by rw [BLn.out]; simp) SZ6.out ?_)
  intro v7 w7 o7 g7
  (try rw [List.nil_append] at o7)
  have O7 := hide (o7.keep (grown_alloc w7 (.cells #[.int .u8 77] 5) none))
  have Q7 := hide (grown_none (grown_own' Q6.out g7 (fun x hx => (OR.out.lt x hx).1)) (grown_alloc w7 (.cells #[.int .u8 77] 5) none))
  have LT := hide (byts_litM w7 77)
  have A7 := hide (show ∀ x, v7.ownBlock = some x → W5.heap.size ≤ x from fun x hx => (o7.lt x hx).1)
  clear o7 g7 OR BY6 BSH SZ6 Q6
  go_wp2_with (at_builtin; refine wpList_append_bothB (by rfl) _ _ rfl W5.heap.size _ _ YB [77] rfl rfl O7.out LT.out (.inr ⟨_, _, rfl⟩) (by rw [BLn.out]; simp) Q7.out.size ?_)
  intro v8 w8 o8 g8
  have Q8 := hide (grown_own' Q7.out g8 A7.out)
  obtain ⟨gc, cc, rfl, hgc, _, hcc⟩ := o8.form (by simp)
  have OC := hide o8
  clear o8 g8 O7 Q7 LT A7
  have YL1 : (YB ++ [77]).length = 16 := by rw [List.length_append, BLn.out]; rfl
  rw [YL1] at OC hcc ⊢
  have BC := hide (show Byts w8 (.slice (some ⟨gc, 0, none⟩) 15 cc) YB from by have := byts_cut (A := YB) (x := 77) (by rw [BLn.out]; exact OC.out); rwa [BLn.out] at this)
  have CSH := hide (show Shp (.slice (some ⟨gc, 0, none⟩) 15 cc) YB from .inr ⟨_, _, by rw [BLn.out]⟩)
  have i1 : (15 : Int) ≤ cc := by omega
  have Q8' := hide (grown_none Q5.out Q8.out)
  go_upto_region 5 with fail
  go_wp2_with fail
  refine (PF.out w8 (grown_none G2.out Q8'.out)).mono ?_
  rintro x W9 ⟨rfl, g9⟩
  have Q9 := hide (grown_none Q8'.out g9)
  have BC9 := hide (Byts_keep BC.out g9)
  have H9 := hide (grown_none Q8.out g9)
  have OC9 := hide (OC.out.keep g9)
  clear PF g9 BC OC Q8 Q8'
  go_wp2_with fail
  refine (PD1.out _ W9 (grown_none G2.out Q9.out) BC9.out CSH.out).mono ?_
  rintro x W10 ⟨vk, rfl, ok, g10⟩
  (try unfold memV)
  have CN := hide (memC_len KM.out XS)
  have FB := hide (fresh_mem W10 YM XS KM.out)
  have GA := hide (grown_none g10 FB.out.2.2)
  have Q11 := hide (grown_none Q9.out GA.out)
  have H11 := hide (grown_none H9.out GA.out)
  have OC11 := hide (OC9.out.keep GA.out)
  have N9 := hide (show W5.heap.size ≤ W9.heap.size from H9.out.size)
  have OK := hide (ok.keep FB.out.2.2)
  clear PD1 g10 ok GA Q9 BC9 CSH H9 OC9
  go_upto_region 6 with (first | refine wpList_store_v rfl 25 _ _ rfl W10.heap.size 0 25 (memC (zeros 101) false) (memC YM XS) rfl rfl FB.out.1 (by rw [ZL.out, CN.out]; omega) (by rw [CN.out]; exact size102) (memC_one _ _) ?_)
  (try simp only [Act.put])
  clear FB hz CN
  generalize putV (W10.alloc (.cells (memC (zeros 101) false).toArray 25)) W10.heap.size 0 (memC YM XS) = W11 at *
  have KI := hide OK.out.ints
  have KS := hide OK.out.shp
  have N11 := hide (show W9.heap.size ≤ W11.heap.size from by have := OK.out; exact own_le OK.out (by rw [KL.out]; omega))
  go_wp2_with (at_builtin; refine wpList_append_both (by rfl) _ _ rfl W11.heap.size _ _ [] YK rfl rfl (Own_nil _ _) KI.out KS.out (by rw [KL.out]; simp) (Nat.le_refl _) ?_)
  intro vw W12 ow g12
  (try rw [List.nil_append] at ow)
  have S12 := hide (show CmS W2 W5.heap.size W9.heap.size W11.heap.size (.slice (some ⟨gc, 0, none⟩) 16 cc) (YB ++ [77]) vk vw YK W12 from ⟨grown_none Q11.out g12, OC11.out.keep g12, OK.out.keep g12, ow⟩)
  have OB12 := hide ((OB.out.keep H11.out).keep g12)
  have OH12 := hide ((OH.out.keep H11.out).keep g12)
  have G12 := hide (grown_none H11.out g12)
  clear ow g12 OB OH OK KI KS OC11 Q11 H11 Q5
  have SB := hide (scribble_any W3.heap.size _ XH W12 OH12.out (by rw [HLn.out]; omega) (by have := S12.out.q.size; have := G12.out.size; have := NGH.out; omega))
  go_upto_region 7 with fail
  go_wp2_with fail
  refine SB.out.mono ?_
  rintro x W13 ⟨rfl, g13⟩
  rw [show (Value.slice (some ⟨gh, 0, none⟩) 80 ch).ownBlock = some gh from rfl] at g13
  have S13 := hide (S12.out.low g13 (by have := NGH.out; have := N3.out; omega) NGH.out.2 N9.out N11.out)
  have OB13 := hide (show OwnB W3.heap.size W13 (.slice (some ⟨gb, 0, none⟩) 15 cb) YB from World.ownsRow.kept OB12.out g13 (.inr (fun e => ownB_ne OB12.out OH12.out rfl rfl (by simpa [Value.ownBlock] using e))))
  clear SB g13 S12 OB12 OH12 G12
  go_upto_region 8 with fail
  go_wp2_with fail
  go_loopw [15] (fun i wr => ∃ (k : Nat) (B : List Int), i = .int .i64 k ∧ k ≤ 15 ∧ Hid (B.length = 15) ∧ Hid (OwnB W3.heap.size wr (.slice (some ⟨gb, 0, none⟩) 15 cb) B) ∧ Hid (CmS W2 W5.heap.size W9.heap.size W11.heap.size (.slice (some ⟨gc, 0, none⟩) 16 cc) (YB ++ [77]) vk vw YK wr)) (fun i _ => 15 - (intOf i).toNat)
  case atStart => exact ⟨0, YB, rfl, Nat.zero_le _, BLn.out, OB13.out, S13.out⟩
  case round =>
    obtain ⟨k, B, rfl, hk, hB, hO, hS⟩ := hrel
    clear OB13 S13
    by_cases hk15 : k < 15
    · have j1 : (k : Int) < 15 := by omega
      have ck := hO.out.cell hB.out.symm k (by rw [hB.out]; exact hk15)
      have fk := hO.out.free hB.out.symm k
      have OS := hO.out.set hB.out.symm k 0
      have NO := hide OS.1
      have NS := hide (hS.out.low OS.2 (by have := NGB.out; have := N3.out; omega) NGB.out.2 N9.out N11.out)
      have NB := hide (show (B.set k 0).length = 15 by rw [List.length_set]; exact hB.out)
      clear hB hO hS OS CD ST PA PK
      generalize nth B k = y at *
      go_wp2_with fail
      go_roundw
      case rel => exact ⟨k + 1, _, by go_num, by omega, NB.out, NO.out, NS.out⟩
      case measure => simp [intOf]; omega
    · obtain rfl : k = 15 := by omega
      rw [show ((15 : Nat) : Int) = 15 from rfl]
      have S14 := hide hS.out
      clear hB hO hS
      have P14 := hide (P2.out.keep S14.out.q)
      go_upto_region 12 with fail
      go_wp2_with (first | refine wpList_load_arr rfl 38 _ rfl _ rfl _ P14.out _ Tryz.underlying38 rfl (by rw [HP.out]; exact size25) ?_)
      refine (PA.out wr).mono ?_
      rintro x W15 ⟨q1, rfl, hq1, gq1, g15⟩
      have S15 := hide (S14.out.keep g15)
      have PK1 := hide (PK.out q1 hq1 gq1)
      unfold PkP at PK1
      rw [(pkR_yes gq1).1, (pkR_yes gq1).2] at PK1
      clear S14 g15 hq1 gq1 P14
      go_wp2_with fail
      refine (PK1.out W15 (grown_none G2.out S15.out.q)).mono ?_
      rintro x W16 ⟨vq, rfl, oq, g16⟩
      have S16 := hide (S15.out.keep g16)
      obtain ⟨gq, cq, rfl, hgq, hgq2, _⟩ := oq.form (by rw [pkA_len]; omega)
      rw [pkA_len] at oq ⊢
      have OQ := hide oq
      have PLq := hide (pkA_len q1)
      have NQ := hide (show W15.heap.size ≤ gq ∧ gq < W16.heap.size from ⟨hgq, hgq2⟩)
      have N15 := hide (show W2.heap.size ≤ W15.heap.size from S15.out.q.size)
      have C15 := hide (fun x hx => (S15.out.c.lt x hx).2)
      have K15 := hide (fun x hx => (S15.out.k.lt x hx).2)
      have V15 := hide (fun x hx => (S15.out.w.lt x hx).2)
      generalize pkA q1 = YQ at *
      clear PK1 g16 oq hgq hgq2 S15
      have P16 := hide (P2.out.keep S16.out.q)
      go_upto_region 13 with fail
      go_wp2_with (first | refine wpList_load_arr rfl 38 _ rfl _ rfl _ P16.out _ Tryz.underlying38 rfl (by rw [HP.out]; exact size25) ?_)
      refine (PA.out W16).mono ?_
      rintro x W17 ⟨q2, rfl, hq2, gq2, g17⟩
      have S17 := hide (S16.out.keep g17)
      have OQ17 := hide (OQ.out.keep g17)
      have PK2 := hide (PK.out q2 hq2 gq2)
      unfold PkP at PK2
      rw [(pkR_yes gq2).1, (pkR_yes gq2).2] at PK2
      have N17 := hide (show W16.heap.size ≤ W17.heap.size from g17.size)
      clear S16 OQ g17 hq2 gq2 PA PK P16
      go_wp2_with fail
      refine (PK2.out W17 (grown_none G2.out S17.out.q)).mono ?_
      rintro x W18 ⟨vr, rfl, orr, g18⟩
      have S18 := hide (S17.out.keep g18)
      have OQ18 := hide (OQ17.out.keep g18)
      obtain ⟨gr, cr, rfl, hgr, _, _⟩ := orr.form (by rw [pkA_len]; omega)
      have c1 := conv_byts orr.byts (shp_c orr.shp)
      rw [pkA_len] at orr c1 ⊢
      have OR18 := hide orr
      have PLr := hide (pkA_len q2)
      have NR := hide (show W17.heap.size ≤ gr from hgr)
      generalize pkA q2 = YR at *
      have CVB := hide (fun (u : World) (h : OwnB W17.heap.size u (.slice (some ⟨gr, 0, none⟩) 15 cr) YR) => conv_byts h.byts (.inr ⟨_, _, _, rfl⟩))
      clear PK2 g18 orr S17 OQ17 hgr
      generalize strOfNums YR = SS at *
      go_upto_region 15 with fail
      clear c1
      go_wp2_with fail
      go_loopw [21] (fun i wr => ∃ (k : Nat) (Q : List Int), i = .int .i64 k ∧ k ≤ 15 ∧ Hid (Q.length = 15) ∧ Hid (OwnB W15.heap.size wr (.slice (some ⟨gq, 0, none⟩) 15 cq) Q) ∧ Hid (CmS W2 W5.heap.size W9.heap.size W11.heap.size (.slice (some ⟨gc, 0, none⟩) 16 cc) (YB ++ [77]) vk vw YK wr) ∧ Hid (OwnB W17.heap.size wr (.slice (some ⟨gr, 0, none⟩) 15 cr) YR)) (fun i _ => 15 - (intOf i).toNat)
      case atStart => exact ⟨0, YQ, rfl, Nat.zero_le _, PLq.out, OQ18.out, S18.out, OR18.out⟩
      case round =>
        obtain ⟨k, Q, rfl, hk, hB, hO, hS, hR⟩ := hrel
        clear OQ18 S18 OR18
        by_cases hk15 : k < 15
        · have j1 : (k : Int) < 15 := by omega
          have ck := hO.out.cell hB.out.symm k (by rw [hB.out]; exact hk15)
          have fk := hO.out.free hB.out.symm k
          have NO := hide (fun z => hO.out.set hB.out.symm k z)
          have NS := hide (fun z => hS.out.high (NO.out z).2 (by have := NQ.out; have := N15.out; omega) (fun x hx => by have := C15.out x hx; have := NQ.out; omega) (fun x hx => by have := K15.out x hx; have := NQ.out; omega) (fun x hx => by have := V15.out x hx; have := NQ.out; omega))
          have NR' := hide (fun z => hR.out.keepLt (NO.out z).2 (by have := NQ.out; have := N17.out; omega))
          have NB := hide (fun z => show (Q.set k z).length = 15 by rw [List.length_set]; exact hB.out)
          clear hB hO hS hR CD ST CVB
          generalize nth Q k = y at *
          go_wp2_with fail
          go_roundw
          case rel => exact ⟨k + 1, _, by go_num, by omega, NB.out _, (NO.out _).1, NS.out _, NR'.out _⟩
          case measure => simp [intOf]; omega
        · obtain rfl : k = 15 := by omega
          rw [show ((15 : Nat) : Int) = 15 from rfl]
          have S19 := hide hS.out
          have R19 := hide hR.out
          clear hB hO hS hR
          go_upto_region 19 with fail
          go_wp2_with fail
          refine (CD.out _ (grown_none G2.out S19.out.q)).mono ?_
          rintro x W20 ⟨rfl, g20⟩
          have S20 := hide (S19.out.keep g20)
          have R20 := hide (R19.out.keep g20)
          clear CD g20 S19 R19
          go_wp2_with fail
          refine (ST.out _ S20.out.q).mono ?_
          rintro x W21 ⟨rfl, g21⟩
          have S21 := hide (S20.out.keep g21)
          have R21 := hide (R20.out.keep g21)
          clear ST g21 S20 R20
          have SM := hide (keepSame_any _ _ YK YK W21 S21.out.k.ints S21.out.w.ints (by rw [KL.out]; omega) (by rw [KL.out]; omega))
          rw [show decide (YK = YK) = true from decide_eq_true rfl] at SM
          go_wp2_with fail
          refine SM.out.mono ?_
          rintro x W22 ⟨rfl, n, rfl⟩
          have gd := grown_drewN' W21 n none
          have S22 := hide (S21.out.keep gd)
          have R22 := hide (R21.out.keep gd)
          clear SM S21 R21 gd
          generalize W21.drewN n = W22 at *
          have c77 := S22.out.c.cell (by rw [YL1]) 15 (by rw [YL1]; omega)
          rw [show nth (YB ++ [77]) 15 = 77 from by rw [nth_app_r _ _ _ (by rw [BLn.out]; omega), BLn.out]; rfl] at c77
          have cv := CVB.out W22 R22.out
          have i2 : (16 : Int) ≤ cc := by omega
          have GF := hide (grown_none G2.out S22.out.q)
          clear S22 R22 CVB
          go_wp2_with fail
          go_ret
          exact ⟨rfl, below_of_grown GF.out⟩
end Go.Proofs.YtjepkgdejkifcaaGreatDoor

/- LCdM -/
namespace Go.Proofs.YtjepkgdejkifcaaGreatDoor
open Go.RowKit
set_option linter.unusedVariables false
theorem crd_codMemory (W : World) (t0 : TabA W 5 gro 15) (t1 : TabA W 2 widq 8) (t2 : TabA W 3 gains 8) (v : Value) (l : List Int) (hi : Ints W v l) (hl : l.length * 8 ≤ 140737488351232) (hl64 : In64 l) (hsh : Shp v l) (p : List Int) (hp : p.length = 25) (hp64 : In64 p) :
    Calls Tryz.prog 7 #[v, .agg (arrI p)] W fun e w' => e = .returned (.bool true) ∧ Below W.heap.size W w' :=
  law_codMemory W (fun l hl h64 wr g => pkPack_any l hl h64 wr (TabA_keep t1 g)) (cde_of t0 t1 t2) (fun wr g => conFresh_any wr) (cen_of t0 t1 t2) (cbg_of W) v l hi hl hl64 hsh p hp hp64
end Go.Proofs.YtjepkgdejkifcaaGreatDoor
