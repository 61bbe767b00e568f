/- Texts put together: CodL, CodH, LConM, LEnc, LCdS, CnpD, CodE, TopMath, TopA, KeepC, TopB. -/
import Derived.Test.YtihphpcgjeokmaaGreatDoorBun7
import Derived.Test.YtihphpcgjeokmaaGreatDoorBun5
import Derived.Deep.Cut
import Derived.Test.YtihphpcgjeokmaaGreatDoorBun6
import Derived.Test.YtihphpcgjeokmaaGreatDoorBun1
import Derived.BigQuiet
import Derived.Deep.QuietTactic
import Derived.OwnWalk
import Derived.Test.YtihphpcgjeokmaaGreatDoorBun2
/- CodL -/
namespace Go.Proofs.YtihphpcgjeokmaaGreatDoor
open Go.RowKit
set_option linter.unusedVariables false
set_option linter.unusedSimpArgs false
set_option maxHeartbeats 4000000
theorem zero_pktK (w : World) : Sem.run Tryz.prog (zeroValue 59) w = .ok (.agg (arrI (zeros 25))) w := by
  have hz := zPkt
  cases hq : Tryz.prog.info? 59 with
  | none => simp [hq] at hz
  | some i =>
    have hi : i.zero = some (.agg (arrI (zeros 25))) := by simpa [hq] using hz
    simp [zeroValue, typeInfo, hq, hi]
theorem gud_64C {q : List Int} (hl : q.length = 25) (h : gudP q = true) : In64 q := fun i => by
  by_cases hi : i < 25
  · have := (gudP_iff q).1 h i hi
    have := moN_lt i hi
    omega
  · rw [getD_out _ i (by omega)]; omega
set_option maxRecDepth 100000 in
theorem run_build_pkt (kd : Int) (q : List Int) (hq : q.length = 8) (w : World) : Sem.run Tryz.prog (Instr.build 59 #[(0, .int .i64 kd), (1, .agg (arrI q))]) w = .ok (.agg (intsV (kd :: (q ++ zeros 16))).toArray) w := by
  obtain ⟨a, b, c, d, e, f, g, h, rfl⟩ : ∃ a b c d e f g h, q = [a, b, c, d, e, f, g, h] := by
    match q, hq with
    | [a, b, c, d, e, f, g, h], _ => exact ⟨a, b, c, d, e, f, g, h, rfl⟩
  kernel_rfl
theorem yields_build_pkt {w : World} {a : Act} {op : Oper} {x y : Operand} (kd : Int) (q P : List Int) (hq : ∀ u, Sem.run Tryz.prog (Instr.build 59 #[(0, .int .i64 kd), (1, .agg (arrI q))]) u = .ok (.agg (intsV P).toArray) u) (ho : op.op = .build 59 #[(0, x), (1, y)]) (hx : a.eval x = .int .i64 kd) (hy : a.eval y = .agg (arrI q)) :
    (execOp a.eval op).run Tryz.prog w = .ok (.value (.agg (intsV P).toArray)) w := by
  have e : (#[(0, x), (1, y)] : Array (Nat × Operand)).map (fun (i, x) => (i, a.eval x)) = #[(0, .int .i64 kd), (1, .agg (arrI q))] := by simp [hx, hy]
  unfold execOp
  simp only [ho, e, Sem.run_bind, hq, Result.andThen_ok, Sem.run_pure]
theorem pkt_put (kd : Int) (q S : List Int) (hq : q.length = 8) (hS : S.length = 16) : ovr (kd :: (q ++ zeros 16)) 9 S = kd :: (q ++ S) := by
  refine list_nth (by rw [ovr_len]; simp [hq, hS, zeros_len]) (fun i hi => ?_)
  rw [ovr_len] at hi
  have h25 : i < 25 := by simp [hq, zeros_len] at hi; omega
  rw [ovr_nth _ _ _ _ hi]
  by_cases h0 : i = 0
  · subst h0; rw [if_neg (by omega)]; rfl
  · obtain ⟨j, rfl⟩ : ∃ j, i = j + 1 := ⟨i - 1, by omega⟩
    show (if 9 ≤ j + 1 ∧ j + 1 < 9 + S.length then nth S (j + 1 - 9) else nth (q ++ zeros 16) j) = nth (q ++ S) j
    by_cases h8 : j < 8
    · rw [if_neg (by omega), nth_app_l _ _ _ (by omega), nth_app_l _ _ _ (by omega)]
    · rw [if_pos (by omega), nth_app_r q S j (by omega), hq, show j + 1 - 9 = j - 8 by omega]
theorem enc_putM (A I M0 M : List Int) (s t : Bool) (hA : A.length = 4) (hI : I.length = 120) (h0 : M0.length = 101) (hM : M.length = 101) : splV (encC (A ++ (I ++ M0)) s) 124 (memC M t) = encC (A ++ (I ++ M)) t := by
  have e0 : encC (A ++ (I ++ M0)) s = (intsV A ++ intsV I) ++ ((intsV M0 ++ [.bool s]) ++ []) := by unfold encC mixC intsV; simp
  rw [e0, splV_mid _ _ _ _ 124 (by rw [List.length_append, intsV_len, intsV_len, hA, hI]) (by unfold memC; rw [mixC_len, hM, List.length_append, intsV_len, h0]; rfl)]
  unfold encC memC mixC intsV
  simp
def PktR (W : World) (P : List Int) (v : Value) (wx : World) : Prop := ∃ b, v = .pointer (some ⟨b, 0, none⟩) ∧ BlkV wx b 59 (intsV P) ∧ W.heap.size ≤ b ∧ W.grownBy wx none
set_option maxRecDepth 100000 in
theorem codEncode_err (w : World) (e : List Int) (s : Bool) (he : e.length = 225) (v : Value) (l : List Int) (hi : Ints w v l) (hsz : l.length * 8 ≤ 140737488351232) (r : Bool) (hk : ¬ enOk e l) : Calls Tryz.prog 12 #[encV e s, v, .bool r] w (EncE w (encM e l r) (encT e l r) (encB e l r) (encL e l r) (encE e l)) := by
  have Q0 := hide (EnQ.new w e s)
  have HE := hide he
  have CE := hide (encC_len he s)
  have AE := hide (BlkE.all s he)
  have ZC := hide (encC_len (zeros_len 225) false)
  have ZO := hide (encC_one (zeros 225) false)
  have hz := zero_enc
  have LI := hide (fun wr (g : w.grownBy wr none) => codListened_err wr e s he v l (Ints_keep hi g) hsz hk)
  have hne : encE e l ≠ 0 := by unfold encE; (repeat' split) <;> first | exact absurd ‹_› hk | decide
  have F := hide (show ∀ w', w.grownBy w' none → EncE w (encM e l r) (encT e l r) (encB e l r) (encL e l r) (encE e l) (.returned (.tuple #[encV (zeros 225) false, .slice none 0 0, .slice none 0 0, .int .i64 (encE e l)])) w' from fun w' q => ⟨_, _, by rw [(enc_no r hk).1, (enc_no r hk).2.1], by rw [(enc_no r hk).2.2.1]; exact OwnB_nil _ _, by rw [(enc_no r hk).2.2.2]; exact Own_nil _ _, q⟩)
  clear hk hi
  generalize EncE w (encM e l r) (encT e l r) (encB e l r) (encL e l r) (encE e l) = T at *
  generalize encE e l = en at *
  have hnb : (en == 0) = false := beq_eq_false_iff_ne.2 hne
  clear hne
  unfold LisE at LI
  obtain ⟨Z8, hZ8⟩ : ∃ Z8, zeros 8 = Z8 := ⟨_, rfl⟩
  have LQ := hide (show Z8.length = 8 by rw [← hZ8]; exact zeros_len 8)
  rw [hZ8] at LI
  clear hZ8
  unfold encV at LI hz F ⊢
  go_enter Tryz.func12, Tryz.ntmps12
  go_upto_region 1 with fail
  generalize (w.alloc (.cells (encC e s).toArray 32)).alloc (.cells (encC (zeros 225) false).toArray 32) = W0 at *
  go_wp2_with (first | refine wpList_load_v rfl 32 _ rfl w.heap.size 0 226 rfl 32 (encC e s) Q0.out.1 _ Tryz.underlying32 rfl size226 (by rw [CE.out]; omega) _ AE.out ?_)
  refine (LI.out W0 Q0.out.2.2).mono ?_
  rintro x W1 ⟨m, t, lm, rfl, g1⟩
  have LMM := hide lm
  clear lm LI
  obtain ⟨b1, b2, b3⟩ := fresh_arr W1 27 8 Z8 LQ.out
  have B1 := hide b1
  have NB := hide (show w.heap.size + 1 + 1 ≤ W1.heap.size from (Q0.out.keep g1).2.1.lt)
  have GA := grown_alloc W1 (.cells (arrI (zeros 8)) 27) none
  have QA := hide ((Q0.out.keep g1).keep GA)
  have PU := QA.out.1.putAll (m := m) (t := t) HE.out LMM.out
  have E2 := hide PU.1
  have R2 := hide (QA.out.2.1.keepBut PU.2 (by omega))
  have G2 := hide (grown_own QA.out.2.2 PU.2 (Nat.le_refl _))
  have B2 := hide (b1.keepBut PU.2 (by have := NB.out; omega))
  have PV := put_arr (rs' := Z8) B2.out (LQ.out.trans (zeros_len 8).symm)
  have B3 := hide PV.1
  have E3 := hide (E2.out.keepBut PV.2 (by have := NB.out; omega))
  have R3 := hide (R2.out.keepBut PV.2 (by have := NB.out; omega))
  have G3 := hide (grown_own G2.out PV.2 (by have := NB.out; omega))
  have CM := hide (encC_len LMM.out t)
  have OM := hide (encC_one m t)
  rw [z8'] at B1 QA E2 R2 G2 B2 B3 E3 R3 G3
  clear b1 b2 b3 GA PU PV g1 Q0 AE
  go_upto_region 2 with (first | refine wpList_store_v rfl 32 _ _ rfl w.heap.size 0 32 (encC e s) (encC m t) rfl rfl QA.out.1 (by rw [CE.out, CM.out]; omega) (by rw [CM.out]; exact size226) OM.out ?_ | refine wpList_store_arr rfl 27 _ _ rfl _ (zeros 8) Z8 rfl rfl B2.out (LQ.out.trans (zeros_len 8).symm) (by rw [zeros_len]; exact size8) ?_)
  (try simp only [Act.put])
  clear QA E2 R2 G2 B1 B2 OM
  generalize putArr _ W1.heap.size Z8 = W3 at *
  generalize W1.heap.size = bq at *
  have PB := hide (R3.out.putAll (m := zeros 225) (t := false) (zeros_len 225) (zeros_len 225))
  have FF := hide (F.out _ (grown_own G3.out PB.out.2 (by omega)))
  clear F
  go_wp2_with (first | refine wpList_store_v rfl 32 _ _ rfl (w.heap.size + 1) 0 32 (encC (zeros 225) false) (encC (zeros 225) false) rfl rfl R3.out (by rw [ZC.out]; omega) (by rw [ZC.out]; exact size226) ZO.out ?_)
  have hlv := loadVar_v PB.out.1 _ Tryz.underlying32 rfl (by rw [ZC.out]; exact size226)
  refine bodyPost_ret (v := .tuple #[.agg (encC (zeros 225) false).toArray, .slice none 0 0, .slice none 0 0, .int .i64 en]) ?_ rfl FF.out
  simp [results, Tryz.results12, asAddr, Act.put, hlv]
set_option maxRecDepth 100000 in
theorem codEncode_s (w : World) (e : List Int) (s : Bool) (he : e.length = 225) (v : Value) (l : List Int) (hi : Ints w v l) (hsz : l.length * 8 ≤ 140737488351232) (r : Bool) (hW : Wide w) (hX : TabA w 0 widq 8) (hT : TabA w 1 gains 8) (hG : Grows w) (hk : enOk e l) (hs : enKd e l r = 2) : Calls Tryz.prog 12 #[encV e s, v, .bool r] w (EncE w (encM e l r) (encT e l r) (encB e l r) (encL e l r) (encE e l)) := by
  have Q0 := hide (EnQ.new w e s)
  have HE := hide he
  have CE := hide (encC_len he s)
  have AE := hide (BlkE.all s he)
  have ZC := hide (encC_len (zeros_len 225) false)
  have ZO := hide (encC_one (zeros 225) false)
  have hz := zero_enc
  have LI := hide (fun wr (g : w.grownBy wr none) => codListened_yes wr e s he v l (Ints_keep hi g) hsz (Wide_keep hW g) hk)
  obtain ⟨hl, hg, hh, hc⟩ := id hk
  have cr := enC_right hh
  have cl : (enC e l).length = 80 := (enC_len hh).trans hl
  have il := enI_len hl hh
  have mm : (enMm e).length = 101 := prt_len _ _ _
  have ql : (enQ e l).length = 8 := quL_len _
  have lE : (enHp e l ++ (enI e l ++ enMm e)).length = 225 := by rw [List.length_append, List.length_append, il, mm]; rfl
  obtain ⟨E1, hE1⟩ : ∃ E1, enHp e l ++ (enI e l ++ enMm e) = E1 := ⟨_, rfl⟩
  have LE1 := hide (show E1.length = 225 by rw [← hE1]; exact lE)
  have pc : prt E1 44 80 = enC e l := by
    refine (tab_ext cl (fun i hi => ?_)).symm
    rw [← hE1, nth_app_r _ _ _ (by show 4 ≤ 44 + i; omega), show (enHp e l).length = 4 from rfl, nth_app_l _ _ _ (by rw [il]; omega)]
    unfold enI
    rw [nth_app_r _ _ _ (by rw [prt_len]; omega), prt_len, show 44 + i - 4 - 40 = i by omega]
  have pm : prt E1 124 101 = enMm e := by
    refine (tab_ext mm (fun i hi => ?_)).symm
    rw [← hE1, nth_app_r _ _ _ (by show 4 ≤ 124 + i; omega), show (enHp e l).length = 4 from rfl, nth_app_r _ _ _ (by rw [il]; omega), il, show 124 + i - 4 - 120 = i by omega]
  rw [hE1] at LI
  have IF := hide (fun wr (h : BlkE wr w.heap.size E1 s) => h.input 44 80 80 (by rw [LE1.out]; omega) (by omega))
  rw [pc] at IF
  obtain ⟨kd, hkd⟩ : ∃ kd, enKd e l r = kd := ⟨_, rfl⟩
  obtain ⟨q, hq⟩ : ∃ q, enQ e l = q := ⟨_, rfl⟩
  rw [hq] at ql LI
  have LQ := hide ql
  have KI := hide (fun wr (g : w.grownBy wr none) (h : Ints wr (.slice (some ⟨w.heap.size, 44, none⟩) 80 80) (enC e l)) => codKind_any (.slice (some ⟨w.heap.size, 44, none⟩) 80 80) (enC e l) r wr h cl cr)
  rw [show (if r = true then (1 : Int) else if dotS (enC e l) (enC e l) 80 < 1280 then 2 else 0) = kd from hkd] at KI
  obtain ⟨P0, hP0⟩ : ∃ P0, kd :: (q ++ zeros 16) = P0 := ⟨_, rfl⟩
  have LP0 := hide (show P0.length = 25 by rw [← hP0]; simp [ql, zeros_len])
  have RB := hide (fun u => run_build_pkt kd q ql u)
  rw [hP0] at RB
  have PG : gudP (enP e l r) = true := enP_good r hg
  have PL : (enP e l r).length = 25 := enP_len r hg
  have PK := hide (fun wr (g : w.grownBy wr none) => pkPack_any (enP e l r) PL (gud_64C PL PG) wr (TabA_keep hX g))
  unfold PkP at PK
  rw [show pkR (enP e l r) = pkA (enP e l r) from if_pos PG] at PK
  have PY := hide (fun wr (g : w.grownBy wr none) => codPlayed_any wr (Wide_keep hW g) (TabA_keep hT g) (growsC_keep hG g) (enMm e) s mm hg (enP e l r) PL PG)
  have ML := hide (plyM_len (enP e l r) mm)
  have F := hide (show ∀ vb vl w', OwnB w.heap.size w' vb (pkA (enP e l r)) → Own w.heap.size w' vl (plyL (enMm e) (enP e l r)) → w.grownBy w' none → EncE w (encM e l r) (encT e l r) (encB e l r) (encL e l r) (encE e l) (.returned (.tuple #[encV (enHp e l ++ (enI e l ++ plyM (enMm e) (enP e l r))) (plyS (enP e l r)), vb, vl, .int .i64 0])) w' from fun vb vl w' o1 o2 qq => ⟨vb, vl, by rw [(enc_yes r hk).1, (enc_yes r hk).2.1, (enc_yes r hk).2.2.2.2], by rw [(enc_yes r hk).2.2.1]; exact o1, by rw [(enc_yes r hk).2.2.2.1]; exact o2, qq⟩)
  have FL := hide (show (enHp e l ++ (enI e l ++ plyM (enMm e) (enP e l r))).length = 225 by rw [List.length_append, List.length_append, il, ML.out]; rfl)
  have SM := hide (show splV (encC E1 s) 124 (memC (plyM (enMm e) (enP e l r)) (plyS (enP e l r))) = encC (enHp e l ++ (enI e l ++ plyM (enMm e) (enP e l r))) (plyS (enP e l r)) from by
    rw [← hE1]
    exact enc_putM (enHp e l) (enI e l) (enMm e) _ s _ rfl il mm ML.out)
  have PM := hide (encC_mem s LE1.out)
  rw [pm] at PM
  have CE1 := hide (encC_len LE1.out s)
  have AE1 := hide (BlkE.all s LE1.out)
  have CMM := hide (memC_len mm s)
  have c0 := hide (show nth P0 0 = kd by rw [← hP0]; rfl)
  have kd2 : kd = 2 := by rw [← hkd]; exact hs
  have hne : (kd == 2) = true := beq_iff_eq.2 kd2
  have EP := hide (show P0 = enP e l r from by
    rw [← hP0, ← hq, ← hkd]
    unfold enP enS
    rw [if_pos hs])
  have AP := hide (BlkI.all (enP e l r) 25 PL)
  have LPP := hide PL
  clear hk hl hg hh hc cr cl il mm ql lE hE1 pc pm hkd hq hP0 PG PL hs hi hW hX hT hG kd2
  generalize EncE w (encM e l r) (encT e l r) (encB e l r) (encL e l r) (encE e l) = T at *
  generalize enHp e l ++ (enI e l ++ plyM (enMm e) (enP e l r)) = EF at *
  generalize plyM (enMm e) (enP e l r) = MF at *
  generalize plyS (enP e l r) = tf at *
  generalize plyL (enMm e) (enP e l r) = LF at *
  generalize pkA (enP e l r) = BF at *
  generalize pakE (enP e l r) = pe at *
  generalize enP e l r = PP at *
  generalize enMm e = MM at *
  generalize enC e l = CC at *
  unfold MmL at PY
  unfold encV at LI hz F ⊢
  unfold memV at PY
  go_enter Tryz.func12, Tryz.ntmps12
  go_upto_region 1 with fail
  generalize (w.alloc (.cells (encC e s).toArray 32)).alloc (.cells (encC (zeros 225) false).toArray 32) = W0 at *
  go_wp2_with (first | refine wpList_load_v rfl 32 _ rfl w.heap.size 0 226 rfl 32 (encC e s) Q0.out.1 _ Tryz.underlying32 rfl size226 (by rw [CE.out]; omega) _ AE.out ?_)
  refine (LI.out W0 Q0.out.2.2).mono ?_
  rintro x W1 ⟨rfl, g1⟩
  clear LI
  obtain ⟨b1, b2, b3⟩ := fresh_arr W1 27 8 q LQ.out
  have B1 := hide b1
  have NB := hide (show w.heap.size + 1 + 1 ≤ W1.heap.size from (Q0.out.keep g1).2.1.lt)
  have GA := grown_alloc W1 (.cells (arrI (zeros 8)) 27) none
  have QA := hide ((Q0.out.keep g1).keep GA)
  have PU := QA.out.1.putAll (m := E1) (t := s) HE.out LE1.out
  have E2 := hide PU.1
  have R2 := hide (QA.out.2.1.keepBut PU.2 (by omega))
  have G2 := hide (grown_own QA.out.2.2 PU.2 (Nat.le_refl _))
  have B2 := hide (b1.keepBut PU.2 (by have := NB.out; omega))
  have PV := put_arr (rs' := q) B2.out (LQ.out.trans (zeros_len 8).symm)
  have B3 := hide PV.1
  have E3 := hide (E2.out.keepBut PV.2 (by have := NB.out; omega))
  have R3 := hide (R2.out.keepBut PV.2 (by have := NB.out; omega))
  have G3 := hide (grown_own G2.out PV.2 (by have := NB.out; omega))
  have CM := hide (encC_len LE1.out s)
  have OM := hide (encC_one E1 s)
  rw [z8'] at B1 QA E2 R2 G2 B2 B3 E3 R3 G3
  clear b1 b2 b3 GA PU PV g1 Q0 AE
  go_upto_region 2 with (first | refine wpList_store_v rfl 32 _ _ rfl w.heap.size 0 32 (encC e s) (encC E1 s) rfl rfl QA.out.1 (by rw [CE.out, CM.out]; omega) (by rw [CM.out]; exact size226) OM.out ?_ | refine wpList_store_arr rfl 27 _ _ rfl _ (zeros 8) q rfl rfl B2.out (LQ.out.trans (zeros_len 8).symm) (by rw [zeros_len]; exact size8) ?_)
  (try simp only [Act.put])
  clear QA E2 R2 G2 B1 B2 OM
  generalize putArr _ W1.heap.size q = W3 at *
  generalize W1.heap.size = bq at *
  go_upto_region 4 with fail
  go_upto_region 5 with fail
  replace IF := hide (fun wr (g : W3.grownBy wr none) => IF.out wr (E3.out.keep g))
  clear hz
  have hzp := zero_pktK
  go_cut [13] from 18 (fun s13 wx => PktR W3 P0 s13 wx)
  case first =>
    refine wp_region_held_drew (S := GrownW W3) (by kernel_rfl) (gw_start _) (fun hHeld => ?_)
    refine wpAnyH_take (i := 0) (v := ?ve0) rfl (by kernel_rfl) (by kernel_rfl) (by kernel_rfl) (fun _ _ _ h => h) (Or.inl ⟨by rfl, ?ye0⟩) hHeld ?re0
    case ye0 => (intro w' hSw; go_simp; (try with_reducible rfl))
    (try simp only [Act.put, sL])
    refine wpAnyH_take (i := 1) (v := ?ve1) rfl (by kernel_rfl) (by kernel_rfl) (by kernel_rfl) (fun _ _ _ h => h) (Or.inl ⟨by rfl, ?ye1⟩) hHeld ?re1
    case ye1 => (intro w' hSw; go_simp; (try with_reducible rfl))
    (try simp only [Act.put, sL])
    refine wpAnyH_take (i := 3) (v := .agg (arrI q)) rfl (by kernel_rfl) (by kernel_rfl) (by kernel_rfl) (fun _ _ _ h => h) (Or.inl ⟨by rfl, ?ye3⟩) hHeld ?re3
    case ye3 => (intro w' hSw; exact yields_load_arr rfl rfl (B3.out.keep hSw) _ Tryz.underlying27 rfl (by rw [LQ.out]; exact size8))
    (try simp only [Act.put, sL])
    refine wpAnyH_ready (rs := [2, 5]) (by kernel_rfl) (by simp) (AllReadyH.cons rfl (fun K hK => ?gea) (AllReadyH.cons rfl (fun K hK => ?geb) AllReadyH.nil))
    case gea =>
      (try simp only [Act.put, sL])
      go_simp
      refine (KI.out _ (grown_none G3.out hHeld) (IF.out _ hHeld)).mono ?_
      rintro x wk ⟨rfl, rfl⟩
      go_wp2_with fail
      refine hK.out _ _ hHeld (fun hHeld => ?_)
      clear hK
      (try simp only [Act.put, sL])
      refine wpAnyH_take (i := 4) (v := .agg (intsV P0).toArray) rfl (by kernel_rfl) (by kernel_rfl) (by kernel_rfl) (fun _ _ _ h => h) (Or.inl ⟨by rfl, ?ye4⟩) hHeld ?re4
      case ye4 => (intro w' hSw; exact yields_build_pkt kd q P0 RB.out rfl rfl rfl)
      (try simp only [Act.put, sL])
      refine wpAnyH_ready (rs := [5]) (by kernel_rfl) (by simp) (AllReadyH.cons rfl (fun K hK => ?_) AllReadyH.nil)
      (try simp only [Act.put, sL])
      go_simp
      go_wp2_with fail
      have HB := hide (show W3.heap.size ≤ W3.heap.size from by first | exact Nat.le_refl _ | exact World.grownBy.size hHeld)
      refine hK.out _ _ (gw_alloc hHeld (.cells (arrI (zeros 25)) 59)) (fun hHeld => ?_)
      clear hK
      have HZ := hide (show BlkV ((W3.alloc (.cells (arrI (zeros 25)) 59)).drew) (W3.heap.size) 59 (intsV (zeros 25)) from BlkV.new W3.drew 59 (intsV (zeros 25)))
      generalize (W3.alloc (.cells (arrI (zeros 25)) 59)).drew = wz at *
      (try simp only [Act.put, sL])
      refine wpAnyH_ready (rs := [6]) (by kernel_rfl) (by simp) (AllReadyH.cons rfl (fun K hK => ?_) AllReadyH.nil)
      (try simp only [Act.put, sL])
      refine step_store_v rfl 59 _ _ rfl (W3.heap.size) 0 59 (intsV (zeros 25)) (intsV P0) rfl rfl HZ.out (by rw [intsV_len, intsV_len, LP0.out, zeros_len]; omega) (by rw [intsV_len, LP0.out]; exact size25) (intsV_one _) ?_
      have PU := put_v HZ.out 0 (intsV P0) (by rw [intsV_len, intsV_len, LP0.out, zeros_len]; omega)
      rw [splV_all _ _ (by rw [intsV_len, intsV_len, LP0.out, zeros_len])] at PU
      refine hK.out _ _ (gw_own hHeld PU.2 HB.out) (fun hHeld => ?_)
      clear hK
      (try simp only [Act.put, sL])
      refine wpAnyH_done (by kernel_rfl) ?_ _
      go_wp2_with fail
      go_meet
      exact ⟨W3.heap.size, rfl, PU.1, HB.out, hHeld⟩
    case geb =>
      (try simp only [Act.put, sL])
      go_simp
      go_wp2_with fail
      have HB := hide (show W3.heap.size ≤ W3.heap.size from by first | exact Nat.le_refl _ | exact World.grownBy.size hHeld)
      refine hK.out _ _ (gw_alloc hHeld (.cells (arrI (zeros 25)) 59)) (fun hHeld => ?_)
      clear hK
      have HZ := hide (show BlkV ((W3.alloc (.cells (arrI (zeros 25)) 59)).drew) (W3.heap.size) 59 (intsV (zeros 25)) from BlkV.new W3.drew 59 (intsV (zeros 25)))
      generalize (W3.alloc (.cells (arrI (zeros 25)) 59)).drew = wz at *
      (try simp only [Act.put, sL])
      refine wpAnyH_ready (rs := [2]) (by kernel_rfl) (by simp) (AllReadyH.cons rfl (fun K hK => ?_) AllReadyH.nil)
      (try simp only [Act.put, sL])
      go_simp
      refine (KI.out _ (grown_none G3.out hHeld) (IF.out _ hHeld)).mono ?_
      rintro x wk ⟨rfl, rfl⟩
      go_wp2_with fail
      refine hK.out _ _ hHeld (fun hHeld => ?_)
      clear hK
      (try simp only [Act.put, sL])
      refine wpAnyH_take (i := 4) (v := .agg (intsV P0).toArray) rfl (by kernel_rfl) (by kernel_rfl) (by kernel_rfl) (fun _ _ _ h => h) (Or.inl ⟨by rfl, ?ye5⟩) hHeld ?re5
      case ye5 => (intro w' hSw; exact yields_build_pkt kd q P0 RB.out rfl rfl rfl)
      (try simp only [Act.put, sL])
      refine wpAnyH_ready (rs := [6]) (by kernel_rfl) (by simp) (AllReadyH.cons rfl (fun K hK => ?_) AllReadyH.nil)
      (try simp only [Act.put, sL])
      refine step_store_v rfl 59 _ _ rfl (W3.heap.size) 0 59 (intsV (zeros 25)) (intsV P0) rfl rfl HZ.out (by rw [intsV_len, intsV_len, LP0.out, zeros_len]; omega) (by rw [intsV_len, LP0.out]; exact size25) (intsV_one _) ?_
      have PU := put_v HZ.out 0 (intsV P0) (by rw [intsV_len, intsV_len, LP0.out, zeros_len]; omega)
      rw [splV_all _ _ (by rw [intsV_len, intsV_len, LP0.out, zeros_len])] at PU
      refine hK.out _ _ (gw_own hHeld PU.2 HB.out) (fun hHeld => ?_)
      clear hK
      (try simp only [Act.put, sL])
      refine wpAnyH_done (by kernel_rfl) ?_ _
      go_wp2_with fail
      go_meet
      exact ⟨W3.heap.size, rfl, PU.1, HB.out, hHeld⟩
  case rest =>
  obtain ⟨bp, rfl, HP, hb, gc⟩ := hcut
  have P4 := hide HP
  have HBP := hide hb
  have G4 := hide (grown_none G3.out gc)
  have E4 := hide (E3.out.keep gc)
  have R4 := hide (R3.out.keep gc)
  have NBP := hide (show w.heap.size + 1 + 1 ≤ bp from Nat.le_trans (show w.heap.size + 1 + 1 ≤ W3.heap.size from R3.out.lt) hb)
  have IF4 := hide (IF.out wc gc)
  clear HP hb gc E3 R3 G3 B3 KI IF RB hzp
  have cp := (P4.out.cell 0).trans (ints_getC P0 0 (by rw [LP0.out]; omega))
  rw [c0.out] at cp
  go_upto_region 8 with fail
  clear cp
  have P5 := hide (show BlkV wc bp 59 (intsV PP) from by rw [← EP.out]; exact P4.out)
  have E5 := E4
  have R5 := R4
  have G5 := G4
  clear P4 E4 R4 G4 IF4
  generalize hwc : wc = W5 at *
  clear hwc
  have N5 := hide (show bp + 1 ≤ W5.heap.size from P5.out.lt)
  go_wp2_with (first | refine wpList_load_v rfl 59 _ rfl bp 0 25 rfl 59 (intsV PP) P5.out _ Tryz.underlying59 rfl size25 (by rw [intsV_len, LPP.out]; omega) _ AP.out ?_)
  refine (PK.out W5 G5.out).mono ?_
  rintro x W6 ⟨vb, rfl, ob, g6⟩
  have P6 := hide (P5.out.keep g6)
  have E6 := hide (E5.out.keep g6)
  have R6 := hide (R5.out.keep g6)
  have G6 := hide (grown_none G5.out g6)
  have OB6 := hide (ob.base N5.out)
  have N6 := hide (Nat.le_trans N5.out g6.size)
  clear PK P5 E5 R5 G5 g6 ob N5
  go_upto_region 9 with fail
  have PY1 := hide (PY.out W6 G6.out)
  clear PY
  go_wp2_with (first | refine wpList_load_v rfl 30 _ rfl w.heap.size 124 102 rfl 32 (encC E1 s) E6.out _ Tryz.underlying30 rfl size102 (by rw [CE1.out]; omega) _ PM.out ?_ | refine wpList_load_v rfl 59 _ rfl bp 0 25 rfl 59 (intsV PP) P6.out _ Tryz.underlying59 rfl size25 (by rw [intsV_len, LPP.out]; omega) _ AP.out ?_)
  refine PY1.out.mono ?_
  rintro x W7 ⟨vl, rfl, ol, g7⟩
  have FB := hide (fresh_memC W7 MF tf ML.out)
  have E8 := hide ((E6.out.keep g7).keep FB.out.2.2)
  have R8 := hide ((R6.out.keep g7).keep FB.out.2.2)
  have G8 := hide (grown_none (grown_none G6.out g7) FB.out.2.2)
  have OB8 := hide ((OB6.out.keep g7).keep FB.out.2.2)
  have OL8 := hide ((ol.base N6.out).keep FB.out.2.2)
  have CF := hide (memC_len ML.out tf)
  have OF := hide (memC_one MF tf)
  have ZM := hide (memC_len (zeros_len 101) false)
  have hzm := zero_mem
  unfold memV at hzm
  clear PY1 P6 E6 R6 G6 OB6 g7 ol N6
  go_upto_region 10 with (first | refine wpList_store_v rfl 30 _ _ rfl W7.heap.size 0 30 (memC (zeros 101) false) (memC MF tf) rfl rfl FB.out.1 (by rw [ZM.out, CF.out]; omega) (by rw [CF.out]; exact size102) OF.out ?_)
  (try simp only [Act.put])
  have V8 := hide FB.out.2.1
  clear FB hzm
  generalize putV (W7.alloc (.cells (memC (zeros 101) false).toArray 30)) W7.heap.size 0 (memC MF tf) = W8 at *
  generalize W7.heap.size = bm at *
  have AF := hide (BlkM.all tf ML.out)
  have PU := put_v E8.out 124 (memC MF tf) (by rw [CF.out, CE1.out]; omega)
  rw [SM.out] at PU
  have E9 := hide (show BlkE _ w.heap.size EF tf from PU.1)
  have R9 := hide (R8.out.keepBut PU.2 (by omega))
  have G9 := hide (grown_own G8.out PU.2 (Nat.le_refl _))
  have OB9 := hide (OB8.out.keepLt PU.2 (by have := NBP.out; omega))
  have OL9 := hide (OL8.out.keepLt PU.2 (by have := NBP.out; omega))
  clear PU R8 G8 OB8 OL8
  go_upto_region 11 with (first | refine wpList_load_v rfl 30 _ rfl bm 0 102 rfl 30 (memC MF tf) V8.out _ Tryz.underlying30 rfl size102 (by rw [CF.out]; omega) _ AF.out ?_ | refine wpList_store_v rfl 30 _ _ rfl w.heap.size 124 32 (encC E1 s) (memC MF tf) rfl rfl E8.out (by rw [CF.out, CE1.out]; omega) (by rw [CF.out]; exact size102) OF.out ?_)
  (try simp only [Act.put])
  clear E8 V8 AF
  generalize putV W8 w.heap.size 124 (memC MF tf) = W9 at *
  have AEF := hide (BlkE.all tf FL.out)
  have CEF := hide (encC_len FL.out tf)
  have OEF := hide (encC_one EF tf)
  have PB := hide (R9.out.putAll (m := EF) (t := tf) (zeros_len 225) FL.out)
  have OBX := hide (OB9.out.keepLt PB.out.2 (by have := NBP.out; omega))
  have OLX := hide (OL9.out.keepLt PB.out.2 (by have := NBP.out; omega))
  have FF := hide (F.out _ _ _ (OBX.out.base (b' := w.heap.size) (by have := NBP.out; omega)) (OLX.out.base (b' := w.heap.size) (by have := NBP.out; omega)) (grown_own G9.out PB.out.2 (by omega)))
  clear F OB9 OL9 OBX OLX
  go_wp2_with (first | refine wpList_load_v rfl 32 _ rfl w.heap.size 0 226 rfl 32 (encC EF tf) E9.out _ Tryz.underlying32 rfl size226 (by rw [CEF.out]; omega) _ AEF.out ?_ | refine wpList_store_v rfl 32 _ _ rfl (w.heap.size + 1) 0 32 (encC (zeros 225) false) (encC EF tf) rfl rfl R9.out (by rw [ZC.out, CEF.out]; omega) (by rw [CEF.out]; exact size226) OEF.out ?_)
  have hlv := loadVar_v PB.out.1 _ Tryz.underlying32 rfl (by rw [CEF.out]; exact size226)
  refine bodyPost_ret (v := .tuple #[.agg (encC EF tf).toArray, _, _, .int .i64 0]) ?_ rfl FF.out
  simp [results, Tryz.results12, asAddr, Act.put, hlv]
set_option maxRecDepth 100000 in
theorem codEncode_v (w : World) (e : List Int) (s : Bool) (he : e.length = 225) (v : Value) (l : List Int) (hi : Ints w v l) (hsz : l.length * 8 ≤ 140737488351232) (r : Bool) (hW : Wide w) (hX : TabA w 0 widq 8) (hT : TabA w 1 gains 8) (hG : Grows w) (hk : enOk e l) (hs : ¬ enKd e l r = 2) : Calls Tryz.prog 12 #[encV e s, v, .bool r] w (EncE w (encM e l r) (encT e l r) (encB e l r) (encL e l r) (encE e l)) := by
  have Q0 := hide (EnQ.new w e s)
  have HE := hide he
  have CE := hide (encC_len he s)
  have AE := hide (BlkE.all s he)
  have ZC := hide (encC_len (zeros_len 225) false)
  have ZO := hide (encC_one (zeros 225) false)
  have hz := zero_enc
  have LI := hide (fun wr (g : w.grownBy wr none) => codListened_yes wr e s he v l (Ints_keep hi g) hsz (Wide_keep hW g) hk)
  obtain ⟨hl, hg, hh, hc⟩ := id hk
  have cr := enC_right hh
  have cl : (enC e l).length = 80 := (enC_len hh).trans hl
  have il := enI_len hl hh
  have mm : (enMm e).length = 101 := prt_len _ _ _
  have ql : (enQ e l).length = 8 := quL_len _
  have lE : (enHp e l ++ (enI e l ++ enMm e)).length = 225 := by rw [List.length_append, List.length_append, il, mm]; rfl
  obtain ⟨E1, hE1⟩ : ∃ E1, enHp e l ++ (enI e l ++ enMm e) = E1 := ⟨_, rfl⟩
  have LE1 := hide (show E1.length = 225 by rw [← hE1]; exact lE)
  have pc : prt E1 44 80 = enC e l := by
    refine (tab_ext cl (fun i hi => ?_)).symm
    rw [← hE1, nth_app_r _ _ _ (by show 4 ≤ 44 + i; omega), show (enHp e l).length = 4 from rfl, nth_app_l _ _ _ (by rw [il]; omega)]
    unfold enI
    rw [nth_app_r _ _ _ (by rw [prt_len]; omega), prt_len, show 44 + i - 4 - 40 = i by omega]
  have pm : prt E1 124 101 = enMm e := by
    refine (tab_ext mm (fun i hi => ?_)).symm
    rw [← hE1, nth_app_r _ _ _ (by show 4 ≤ 124 + i; omega), show (enHp e l).length = 4 from rfl, nth_app_r _ _ _ (by rw [il]; omega), il, show 124 + i - 4 - 120 = i by omega]
  rw [hE1] at LI
  have IF := hide (fun wr (h : BlkE wr w.heap.size E1 s) => h.input 44 80 80 (by rw [LE1.out]; omega) (by omega))
  rw [pc] at IF
  obtain ⟨kd, hkd⟩ : ∃ kd, enKd e l r = kd := ⟨_, rfl⟩
  obtain ⟨q, hq⟩ : ∃ q, enQ e l = q := ⟨_, rfl⟩
  rw [hq] at ql LI
  have LQ := hide ql
  have KI := hide (fun wr (g : w.grownBy wr none) (h : Ints wr (.slice (some ⟨w.heap.size, 44, none⟩) 80 80) (enC e l)) => codKind_any (.slice (some ⟨w.heap.size, 44, none⟩) 80 80) (enC e l) r wr h cl cr)
  rw [show (if r = true then (1 : Int) else if dotS (enC e l) (enC e l) 80 < 1280 then 2 else 0) = kd from hkd] at KI
  obtain ⟨P0, hP0⟩ : ∃ P0, kd :: (q ++ zeros 16) = P0 := ⟨_, rfl⟩
  have LP0 := hide (show P0.length = 25 by rw [← hP0]; simp [ql, zeros_len])
  have RB := hide (fun u => run_build_pkt kd q ql u)
  rw [hP0] at RB
  have PG : gudP (enP e l r) = true := enP_good r hg
  have PL : (enP e l r).length = 25 := enP_len r hg
  have PK := hide (fun wr (g : w.grownBy wr none) => pkPack_any (enP e l r) PL (gud_64C PL PG) wr (TabA_keep hX g))
  unfold PkP at PK
  rw [show pkR (enP e l r) = pkA (enP e l r) from if_pos PG] at PK
  have PY := hide (fun wr (g : w.grownBy wr none) => codPlayed_any wr (Wide_keep hW g) (TabA_keep hT g) (growsC_keep hG g) (enMm e) s mm hg (enP e l r) PL PG)
  have ML := hide (plyM_len (enP e l r) mm)
  have F := hide (show ∀ vb vl w', OwnB w.heap.size w' vb (pkA (enP e l r)) → Own w.heap.size w' vl (plyL (enMm e) (enP e l r)) → w.grownBy w' none → EncE w (encM e l r) (encT e l r) (encB e l r) (encL e l r) (encE e l) (.returned (.tuple #[encV (enHp e l ++ (enI e l ++ plyM (enMm e) (enP e l r))) (plyS (enP e l r)), vb, vl, .int .i64 0])) w' from fun vb vl w' o1 o2 qq => ⟨vb, vl, by rw [(enc_yes r hk).1, (enc_yes r hk).2.1, (enc_yes r hk).2.2.2.2], by rw [(enc_yes r hk).2.2.1]; exact o1, by rw [(enc_yes r hk).2.2.2.1]; exact o2, qq⟩)
  have FL := hide (show (enHp e l ++ (enI e l ++ plyM (enMm e) (enP e l r))).length = 225 by rw [List.length_append, List.length_append, il, ML.out]; rfl)
  have SM := hide (show splV (encC E1 s) 124 (memC (plyM (enMm e) (enP e l r)) (plyS (enP e l r))) = encC (enHp e l ++ (enI e l ++ plyM (enMm e) (enP e l r))) (plyS (enP e l r)) from by
    rw [← hE1]
    exact enc_putM (enHp e l) (enI e l) (enMm e) _ s _ rfl il mm ML.out)
  have PM := hide (encC_mem s LE1.out)
  rw [pm] at PM
  have CE1 := hide (encC_len LE1.out s)
  have AE1 := hide (BlkE.all s LE1.out)
  have CMM := hide (memC_len mm s)
  have c0 := hide (show nth P0 0 = kd by rw [← hP0]; rfl)
  have kd2 : ¬ kd = 2 := by rw [← hkd]; exact hs
  have hne : (kd == 2) = false := beq_eq_false_iff_ne.2 kd2
  have p1 : prt P0 1 8 = q := by
    refine (tab_ext ql (fun i hi => ?_)).symm
    rw [← hP0, Nat.add_comm 1 i]
    exact (nth_app_l q (zeros 16) i (by omega)).symm
  have m0 : (if nth P0 0 = 1 then freL else enMm e) = enF e r := by
    rw [c0.out, ← hkd]
    unfold enKd enF
    cases r with
    | true => rfl
    | false =>
      by_cases hd : dotS (enC e l) (enC e l) 80 < 1280 <;> simp [hd]
  have CH := hide (fun wr (g : w.grownBy wr none) (h : Ints wr (.slice (some ⟨w.heap.size, 44, none⟩) 80 80) (enC e l)) => codChosen_any wr (Wide_keep hW g) (TabA_keep hT g) (growsC_keep hG g) (enMm e) s mm hg P0 LP0.out (by rw [p1, ← hq]; exact quL_good _) (by rw [c0.out]; exact kd2) (.slice (some ⟨w.heap.size, 44, none⟩) 80 80) (enC e l) h cl cr (enF e r) m0)
  rw [p1] at CH
  obtain ⟨SS, hSS⟩ : ∃ SS, enU (nowL q) (enF e r) (enC e l) 0 ++ enU (nowL q) (enF e r) (enC e l) 1 = SS := ⟨_, rfl⟩
  rw [hSS] at CH
  have SE : enS e l r = SS := by
    unfold enS
    rw [if_neg hs, hq, hSS]
  have SL := hide (show SS.length = 16 by rw [← SE]; exact enS_len r hg)
  have EP := hide (show ovr P0 9 SS = enP e l r from by
    unfold enP
    rw [SE, hq, hkd, ← hP0]
    exact pkt_put kd q SS ql SL.out)
  have AP := hide (BlkI.all (enP e l r) 25 PL)
  have LPP := hide PL
  clear hk hl hg hh hc cr cl il mm ql lE hE1 pc pm hkd hq hP0 PG PL hs hi hW hX hT hG kd2 p1 m0 hSS SE
  generalize EncE w (encM e l r) (encT e l r) (encB e l r) (encL e l r) (encE e l) = T at *
  generalize enHp e l ++ (enI e l ++ plyM (enMm e) (enP e l r)) = EF at *
  generalize plyM (enMm e) (enP e l r) = MF at *
  generalize plyS (enP e l r) = tf at *
  generalize plyL (enMm e) (enP e l r) = LF at *
  generalize pkA (enP e l r) = BF at *
  generalize pakE (enP e l r) = pe at *
  generalize enP e l r = PP at *
  generalize enMm e = MM at *
  generalize enC e l = CC at *
  unfold AnsC at CH
  unfold MmL at PY
  unfold encV at LI hz F ⊢
  unfold memV at PY CH
  go_enter Tryz.func12, Tryz.ntmps12
  go_upto_region 1 with fail
  generalize (w.alloc (.cells (encC e s).toArray 32)).alloc (.cells (encC (zeros 225) false).toArray 32) = W0 at *
  go_wp2_with (first | refine wpList_load_v rfl 32 _ rfl w.heap.size 0 226 rfl 32 (encC e s) Q0.out.1 _ Tryz.underlying32 rfl size226 (by rw [CE.out]; omega) _ AE.out ?_)
  refine (LI.out W0 Q0.out.2.2).mono ?_
  rintro x W1 ⟨rfl, g1⟩
  clear LI
  obtain ⟨b1, b2, b3⟩ := fresh_arr W1 27 8 q LQ.out
  have B1 := hide b1
  have NB := hide (show w.heap.size + 1 + 1 ≤ W1.heap.size from (Q0.out.keep g1).2.1.lt)
  have GA := grown_alloc W1 (.cells (arrI (zeros 8)) 27) none
  have QA := hide ((Q0.out.keep g1).keep GA)
  have PU := QA.out.1.putAll (m := E1) (t := s) HE.out LE1.out
  have E2 := hide PU.1
  have R2 := hide (QA.out.2.1.keepBut PU.2 (by omega))
  have G2 := hide (grown_own QA.out.2.2 PU.2 (Nat.le_refl _))
  have B2 := hide (b1.keepBut PU.2 (by have := NB.out; omega))
  have PV := put_arr (rs' := q) B2.out (LQ.out.trans (zeros_len 8).symm)
  have B3 := hide PV.1
  have E3 := hide (E2.out.keepBut PV.2 (by have := NB.out; omega))
  have R3 := hide (R2.out.keepBut PV.2 (by have := NB.out; omega))
  have G3 := hide (grown_own G2.out PV.2 (by have := NB.out; omega))
  have CM := hide (encC_len LE1.out s)
  have OM := hide (encC_one E1 s)
  rw [z8'] at B1 QA E2 R2 G2 B2 B3 E3 R3 G3
  clear b1 b2 b3 GA PU PV g1 Q0 AE
  go_upto_region 2 with (first | refine wpList_store_v rfl 32 _ _ rfl w.heap.size 0 32 (encC e s) (encC E1 s) rfl rfl QA.out.1 (by rw [CE.out, CM.out]; omega) (by rw [CM.out]; exact size226) OM.out ?_ | refine wpList_store_arr rfl 27 _ _ rfl _ (zeros 8) q rfl rfl B2.out (LQ.out.trans (zeros_len 8).symm) (by rw [zeros_len]; exact size8) ?_)
  (try simp only [Act.put])
  clear QA E2 R2 G2 B1 B2 OM
  generalize putArr _ W1.heap.size q = W3 at *
  generalize W1.heap.size = bq at *
  go_upto_region 4 with fail
  go_upto_region 5 with fail
  replace IF := hide (fun wr (g : W3.grownBy wr none) => IF.out wr (E3.out.keep g))
  clear hz
  have hzp := zero_pktK
  go_cut [13] from 18 (fun s13 wx => PktR W3 P0 s13 wx)
  case first =>
    refine wp_region_held_drew (S := GrownW W3) (by kernel_rfl) (gw_start _) (fun hHeld => ?_)
    refine wpAnyH_take (i := 0) (v := ?ve0) rfl (by kernel_rfl) (by kernel_rfl) (by kernel_rfl) (fun _ _ _ h => h) (Or.inl ⟨by rfl, ?ye0⟩) hHeld ?re0
    case ye0 => (intro w' hSw; go_simp; (try with_reducible rfl))
    (try simp only [Act.put, sL])
    refine wpAnyH_take (i := 1) (v := ?ve1) rfl (by kernel_rfl) (by kernel_rfl) (by kernel_rfl) (fun _ _ _ h => h) (Or.inl ⟨by rfl, ?ye1⟩) hHeld ?re1
    case ye1 => (intro w' hSw; go_simp; (try with_reducible rfl))
    (try simp only [Act.put, sL])
    refine wpAnyH_take (i := 3) (v := .agg (arrI q)) rfl (by kernel_rfl) (by kernel_rfl) (by kernel_rfl) (fun _ _ _ h => h) (Or.inl ⟨by rfl, ?ye3⟩) hHeld ?re3
    case ye3 => (intro w' hSw; exact yields_load_arr rfl rfl (B3.out.keep hSw) _ Tryz.underlying27 rfl (by rw [LQ.out]; exact size8))
    (try simp only [Act.put, sL])
    refine wpAnyH_ready (rs := [2, 5]) (by kernel_rfl) (by simp) (AllReadyH.cons rfl (fun K hK => ?gea) (AllReadyH.cons rfl (fun K hK => ?geb) AllReadyH.nil))
    case gea =>
      (try simp only [Act.put, sL])
      go_simp
      refine (KI.out _ (grown_none G3.out hHeld) (IF.out _ hHeld)).mono ?_
      rintro x wk ⟨rfl, rfl⟩
      go_wp2_with fail
      refine hK.out _ _ hHeld (fun hHeld => ?_)
      clear hK
      (try simp only [Act.put, sL])
      refine wpAnyH_take (i := 4) (v := .agg (intsV P0).toArray) rfl (by kernel_rfl) (by kernel_rfl) (by kernel_rfl) (fun _ _ _ h => h) (Or.inl ⟨by rfl, ?ye4⟩) hHeld ?re4
      case ye4 => (intro w' hSw; exact yields_build_pkt kd q P0 RB.out rfl rfl rfl)
      (try simp only [Act.put, sL])
      refine wpAnyH_ready (rs := [5]) (by kernel_rfl) (by simp) (AllReadyH.cons rfl (fun K hK => ?_) AllReadyH.nil)
      (try simp only [Act.put, sL])
      go_simp
      go_wp2_with fail
      have HB := hide (show W3.heap.size ≤ W3.heap.size from by first | exact Nat.le_refl _ | exact World.grownBy.size hHeld)
      refine hK.out _ _ (gw_alloc hHeld (.cells (arrI (zeros 25)) 59)) (fun hHeld => ?_)
      clear hK
      have HZ := hide (show BlkV ((W3.alloc (.cells (arrI (zeros 25)) 59)).drew) (W3.heap.size) 59 (intsV (zeros 25)) from BlkV.new W3.drew 59 (intsV (zeros 25)))
      generalize (W3.alloc (.cells (arrI (zeros 25)) 59)).drew = wz at *
      (try simp only [Act.put, sL])
      refine wpAnyH_ready (rs := [6]) (by kernel_rfl) (by simp) (AllReadyH.cons rfl (fun K hK => ?_) AllReadyH.nil)
      (try simp only [Act.put, sL])
      refine step_store_v rfl 59 _ _ rfl (W3.heap.size) 0 59 (intsV (zeros 25)) (intsV P0) rfl rfl HZ.out (by rw [intsV_len, intsV_len, LP0.out, zeros_len]; omega) (by rw [intsV_len, LP0.out]; exact size25) (intsV_one _) ?_
      have PU := put_v HZ.out 0 (intsV P0) (by rw [intsV_len, intsV_len, LP0.out, zeros_len]; omega)
      rw [splV_all _ _ (by rw [intsV_len, intsV_len, LP0.out, zeros_len])] at PU
      refine hK.out _ _ (gw_own hHeld PU.2 HB.out) (fun hHeld => ?_)
      clear hK
      (try simp only [Act.put, sL])
      refine wpAnyH_done (by kernel_rfl) ?_ _
      go_wp2_with fail
      go_meet
      exact ⟨W3.heap.size, rfl, PU.1, HB.out, hHeld⟩
    case geb =>
      (try simp only [Act.put, sL])
      go_simp
      go_wp2_with fail
      have HB := hide (show W3.heap.size ≤ W3.heap.size from by first | exact Nat.le_refl _ | exact World.grownBy.size hHeld)
      refine hK.out _ _ (gw_alloc hHeld (.cells (arrI (zeros 25)) 59)) (fun hHeld => ?_)
      clear hK
      have HZ := hide (show BlkV ((W3.alloc (.cells (arrI (zeros 25)) 59)).drew) (W3.heap.size) 59 (intsV (zeros 25)) from BlkV.new W3.drew 59 (intsV (zeros 25)))
      generalize (W3.alloc (.cells (arrI (zeros 25)) 59)).drew = wz at *
      (try simp only [Act.put, sL])
      refine wpAnyH_ready (rs := [2]) (by kernel_rfl) (by simp) (AllReadyH.cons rfl (fun K hK => ?_) AllReadyH.nil)
      (try simp only [Act.put, sL])
      go_simp
      refine (KI.out _ (grown_none G3.out hHeld) (IF.out _ hHeld)).mono ?_
      rintro x wk ⟨rfl, rfl⟩
      go_wp2_with fail
      refine hK.out _ _ hHeld (fun hHeld => ?_)
      clear hK
      (try simp only [Act.put, sL])
      refine wpAnyH_take (i := 4) (v := .agg (intsV P0).toArray) rfl (by kernel_rfl) (by kernel_rfl) (by kernel_rfl) (fun _ _ _ h => h) (Or.inl ⟨by rfl, ?ye5⟩) hHeld ?re5
      case ye5 => (intro w' hSw; exact yields_build_pkt kd q P0 RB.out rfl rfl rfl)
      (try simp only [Act.put, sL])
      refine wpAnyH_ready (rs := [6]) (by kernel_rfl) (by simp) (AllReadyH.cons rfl (fun K hK => ?_) AllReadyH.nil)
      (try simp only [Act.put, sL])
      refine step_store_v rfl 59 _ _ rfl (W3.heap.size) 0 59 (intsV (zeros 25)) (intsV P0) rfl rfl HZ.out (by rw [intsV_len, intsV_len, LP0.out, zeros_len]; omega) (by rw [intsV_len, LP0.out]; exact size25) (intsV_one _) ?_
      have PU := put_v HZ.out 0 (intsV P0) (by rw [intsV_len, intsV_len, LP0.out, zeros_len]; omega)
      rw [splV_all _ _ (by rw [intsV_len, intsV_len, LP0.out, zeros_len])] at PU
      refine hK.out _ _ (gw_own hHeld PU.2 HB.out) (fun hHeld => ?_)
      clear hK
      (try simp only [Act.put, sL])
      refine wpAnyH_done (by kernel_rfl) ?_ _
      go_wp2_with fail
      go_meet
      exact ⟨W3.heap.size, rfl, PU.1, HB.out, hHeld⟩
  case rest =>
  obtain ⟨bp, rfl, HP, hb, gc⟩ := hcut
  have P4 := hide HP
  have HBP := hide hb
  have G4 := hide (grown_none G3.out gc)
  have E4 := hide (E3.out.keep gc)
  have R4 := hide (R3.out.keep gc)
  have NBP := hide (show w.heap.size + 1 + 1 ≤ bp from Nat.le_trans (show w.heap.size + 1 + 1 ≤ W3.heap.size from R3.out.lt) hb)
  have IF4 := hide (IF.out wc gc)
  clear HP hb gc E3 R3 G3 B3 KI IF RB hzp
  have cp := (P4.out.cell 0).trans (ints_getC P0 0 (by rw [LP0.out]; omega))
  rw [c0.out] at cp
  have AP0 := hide (BlkI.all P0 25 LP0.out)
  have CH1 := hide (CH.out wc G4.out IF4.out)
  clear CH IF4
  go_upto_region 7 with fail
  clear cp
  go_wp2_with (first | refine wpList_load_v rfl 30 _ rfl w.heap.size 124 102 rfl 32 (encC E1 s) E4.out _ Tryz.underlying30 rfl size102 (by rw [CE1.out]; omega) _ PM.out ?_ | refine wpList_load_v rfl 59 _ rfl bp 0 25 rfl 59 (intsV P0) P4.out _ Tryz.underlying59 rfl size25 (by rw [intsV_len, LP0.out]; omega) _ AP0.out ?_)
  refine CH1.out.mono ?_
  rintro x wd ⟨rfl, gd⟩
  have P4d := hide (P4.out.keep gd)
  have PU := putI P4d.out 9 SS (by rw [SL.out, LP0.out]; omega)
  have P5 := hide PU.1
  rw [EP.out] at P5
  have E5 := hide ((E4.out.keep gd).keepBut PU.2 (by have := NBP.out; omega))
  have R5 := hide ((R4.out.keep gd).keepBut PU.2 (by have := NBP.out; omega))
  have G5 := hide (grown_own (grown_none G4.out gd) PU.2 (by have := NBP.out; omega))
  have IS := hide (intsV_one SS)
  have LS := hide (show (intsV SS).length = 16 by rw [intsV_len]; exact SL.out)
  clear PU P4 E4 R4 G4 gd CH1 AP0
  go_upto_region 8 with (first | refine wpList_store_v rfl 57 _ _ rfl bp 9 59 (intsV P0) (intsV SS) rfl rfl P4d.out (by rw [LS.out, intsV_len, LP0.out]; omega) (by rw [LS.out]; exact size16s) IS.out ?_)
  (try simp only [Act.put])
  clear P4d IS LS
  generalize putV wd bp 9 (intsV SS) = W5 at *
  have N5 := hide (show bp + 1 ≤ W5.heap.size from P5.out.lt)
  go_wp2_with (first | refine wpList_load_v rfl 59 _ rfl bp 0 25 rfl 59 (intsV PP) P5.out _ Tryz.underlying59 rfl size25 (by rw [intsV_len, LPP.out]; omega) _ AP.out ?_)
  refine (PK.out W5 G5.out).mono ?_
  rintro x W6 ⟨vb, rfl, ob, g6⟩
  have P6 := hide (P5.out.keep g6)
  have E6 := hide (E5.out.keep g6)
  have R6 := hide (R5.out.keep g6)
  have G6 := hide (grown_none G5.out g6)
  have OB6 := hide (ob.base N5.out)
  have N6 := hide (Nat.le_trans N5.out g6.size)
  clear PK P5 E5 R5 G5 g6 ob N5
  go_upto_region 9 with fail
  have PY1 := hide (PY.out W6 G6.out)
  clear PY
  go_wp2_with (first | refine wpList_load_v rfl 30 _ rfl w.heap.size 124 102 rfl 32 (encC E1 s) E6.out _ Tryz.underlying30 rfl size102 (by rw [CE1.out]; omega) _ PM.out ?_ | refine wpList_load_v rfl 59 _ rfl bp 0 25 rfl 59 (intsV PP) P6.out _ Tryz.underlying59 rfl size25 (by rw [intsV_len, LPP.out]; omega) _ AP.out ?_)
  refine PY1.out.mono ?_
  rintro x W7 ⟨vl, rfl, ol, g7⟩
  have FB := hide (fresh_memC W7 MF tf ML.out)
  have E8 := hide ((E6.out.keep g7).keep FB.out.2.2)
  have R8 := hide ((R6.out.keep g7).keep FB.out.2.2)
  have G8 := hide (grown_none (grown_none G6.out g7) FB.out.2.2)
  have OB8 := hide ((OB6.out.keep g7).keep FB.out.2.2)
  have OL8 := hide ((ol.base N6.out).keep FB.out.2.2)
  have CF := hide (memC_len ML.out tf)
  have OF := hide (memC_one MF tf)
  have ZM := hide (memC_len (zeros_len 101) false)
  have hzm := zero_mem
  unfold memV at hzm
  clear PY1 P6 E6 R6 G6 OB6 g7 ol N6
  go_upto_region 10 with (first | refine wpList_store_v rfl 30 _ _ rfl W7.heap.size 0 30 (memC (zeros 101) false) (memC MF tf) rfl rfl FB.out.1 (by rw [ZM.out, CF.out]; omega) (by rw [CF.out]; exact size102) OF.out ?_)
  (try simp only [Act.put])
  have V8 := hide FB.out.2.1
  clear FB hzm
  generalize putV (W7.alloc (.cells (memC (zeros 101) false).toArray 30)) W7.heap.size 0 (memC MF tf) = W8 at *
  generalize W7.heap.size = bm at *
  have AF := hide (BlkM.all tf ML.out)
  have PU := put_v E8.out 124 (memC MF tf) (by rw [CF.out, CE1.out]; omega)
  rw [SM.out] at PU
  have E9 := hide (show BlkE _ w.heap.size EF tf from PU.1)
  have R9 := hide (R8.out.keepBut PU.2 (by omega))
  have G9 := hide (grown_own G8.out PU.2 (Nat.le_refl _))
  have OB9 := hide (OB8.out.keepLt PU.2 (by have := NBP.out; omega))
  have OL9 := hide (OL8.out.keepLt PU.2 (by have := NBP.out; omega))
  clear PU R8 G8 OB8 OL8
  go_upto_region 11 with (first | refine wpList_load_v rfl 30 _ rfl bm 0 102 rfl 30 (memC MF tf) V8.out _ Tryz.underlying30 rfl size102 (by rw [CF.out]; omega) _ AF.out ?_ | refine wpList_store_v rfl 30 _ _ rfl w.heap.size 124 32 (encC E1 s) (memC MF tf) rfl rfl E8.out (by rw [CF.out, CE1.out]; omega) (by rw [CF.out]; exact size102) OF.out ?_)
  (try simp only [Act.put])
  clear E8 V8 AF
  generalize putV W8 w.heap.size 124 (memC MF tf) = W9 at *
  have AEF := hide (BlkE.all tf FL.out)
  have CEF := hide (encC_len FL.out tf)
  have OEF := hide (encC_one EF tf)
  have PB := hide (R9.out.putAll (m := EF) (t := tf) (zeros_len 225) FL.out)
  have OBX := hide (OB9.out.keepLt PB.out.2 (by have := NBP.out; omega))
  have OLX := hide (OL9.out.keepLt PB.out.2 (by have := NBP.out; omega))
  have FF := hide (F.out _ _ _ (OBX.out.base (b' := w.heap.size) (by have := NBP.out; omega)) (OLX.out.base (b' := w.heap.size) (by have := NBP.out; omega)) (grown_own G9.out PB.out.2 (by omega)))
  clear F OB9 OL9 OBX OLX
  go_wp2_with (first | refine wpList_load_v rfl 32 _ rfl w.heap.size 0 226 rfl 32 (encC EF tf) E9.out _ Tryz.underlying32 rfl size226 (by rw [CEF.out]; omega) _ AEF.out ?_ | refine wpList_store_v rfl 32 _ _ rfl (w.heap.size + 1) 0 32 (encC (zeros 225) false) (encC EF tf) rfl rfl R9.out (by rw [ZC.out, CEF.out]; omega) (by rw [CEF.out]; exact size226) OEF.out ?_)
  have hlv := loadVar_v PB.out.1 _ Tryz.underlying32 rfl (by rw [CEF.out]; exact size226)
  refine bodyPost_ret (v := .tuple #[.agg (encC EF tf).toArray, _, _, .int .i64 0]) ?_ rfl FF.out
  simp [results, Tryz.results12, asAddr, Act.put, hlv]
theorem codEncode_any (w : World) (e : List Int) (s : Bool) (he : e.length = 225) (v : Value) (l : List Int) (hi : Ints w v l) (hsz : l.length * 8 ≤ 140737488351232) (r : Bool) (hW : Wide w) (hX : TabA w 0 widq 8) (hT : TabA w 1 gains 8) (hG : Grows w) : Calls Tryz.prog 12 #[encV e s, v, .bool r] w (EncE w (encM e l r) (encT e l r) (encB e l r) (encL e l r) (encE e l)) := by
  by_cases hk : enOk e l
  · by_cases hs : enKd e l r = 2
    · exact codEncode_s w e s he v l hi hsz r hW hX hT hG hk hs
    · exact codEncode_v w e s he v l hi hsz r hW hX hT hG hk hs
  · exact codEncode_err w e s he v l hi hsz r hk
end Go.Proofs.YtihphpcgjeokmaaGreatDoor

/- CodH -/
namespace Go.Proofs.YtihphpcgjeokmaaGreatDoor
open Go.RowKit
set_option linter.unusedVariables false
set_option linter.unusedSimpArgs false
set_option maxHeartbeats 2000000
set_option maxRecDepth 100000 in
theorem codBegin_any (w : World) : Calls Tryz.prog 9 #[] w (AnsC w (encV begL false)) := by
  have B0 := hide (BlkE.new w (zeros 225) false)
  have G0 := hide (grown_alloc w (.cells (encC (zeros 225) false).toArray 32) none)
  have FR := hide (fun u => conFresh_any u)
  have S1 := hide (encC_len begL_len false)
  have S0 := hide (encC_len (zeros_len 225) false)
  have O1 := hide (encC_one begL false)
  have hz := zero_enc
  have F := hide (show ∀ w', w.grownBy w' none → AnsC w (encV begL false) (.returned (encV begL false)) w' from fun w' q => ⟨rfl, q⟩)
  generalize AnsC w (encV begL false) = T at *
  have BF := hide (fun ops rest op a w Q => @wpList_build_beg ops rest op a w Q)
  unfold AnsC at FR
  unfold memV at BF FR
  unfold encV at hz F BF
  go_enter Tryz.func9, Tryz.ntmps9
  go_upto_region 1 with fail
  generalize w.alloc (.cells (encC (zeros 225) false).toArray 32) = W0 at *
  go_wp2_with fail
  refine (FR.out _).mono ?_
  rintro x W1 ⟨rfl, g1⟩
  have B1 := hide (B0.out.keep g1)
  have PU := B1.out.putAll (m := begL) (t := false) (zeros_len 225) begL_len
  have PB := hide PU.1
  have FF := hide (F.out _ (grown_own (grown_none G0.out g1) PU.2 (Nat.le_refl _)))
  clear PU F B0 G0 g1 FR
  unfold BlkE at B1 PB
  generalize memC freL false = FC at *
  generalize encC begL false = M at *
  go_wp2_with (first | refine BF.out _ _ _ _ _ _ rfl _ rfl rfl ?_ | refine wpList_store_v rfl 32 _ _ rfl w.heap.size 0 32 (encC (zeros 225) false) M rfl rfl B1.out (by rw [S0.out, S1.out]; omega) (by rw [S1.out]; exact size226) O1.out ?_)
  have hlv := loadVar_v PB.out _ Tryz.underlying32 rfl (by rw [S1.out]; exact size226)
  refine bodyPost_ret (v := .agg M.toArray) ?_ rfl FF.out
  simp [results, Tryz.results9, asAddr, Act.put, hlv]
end Go.Proofs.YtihphpcgjeokmaaGreatDoor

/- LConM -/
namespace Go.Proofs.YtihphpcgjeokmaaGreatDoor

end Go.Proofs.YtihphpcgjeokmaaGreatDoor

/- LEnc -/
namespace Go.Proofs.YtihphpcgjeokmaaGreatDoor
open Go.RowKit
set_option linter.unusedVariables false
set_option linter.unusedSimpArgs false
set_option maxHeartbeats 4000000
def CEn (f : Nat) (w : World) : Prop := ∀ (e : List Int) (s : Bool), e.length = 225 → In64 e → ∀ (v : Value) (l : List Int) (wr : World), w.grownBy wr none → Ints wr v l → Shp v l → In64 l → l.length * 8 ≤ 140737488351232 → ∀ r : Bool, Calls Tryz.prog f #[encV e s, v, .bool r] wr (EncE wr (encM e l r) (encT e l r) (encB e l r) (encL e l r) (encE e l))
def EncR (W0 : World) (m : List Int) (s2 : Bool) (B L : List Int) (E : Int) (s7 s8 s9 s10 : Value) (wx : World) : Prop := ∃ b, s7 = .pointer (some ⟨b, 0, none⟩) ∧ s10 = .int .i64 E ∧ BlkE wx b m s2 ∧ OwnB W0.heap.size wx s8 B ∧ Own W0.heap.size wx s9 L ∧ W0.heap.size ≤ b ∧ W0.grownBy wx none
end Go.Proofs.YtihphpcgjeokmaaGreatDoor

/- LCdS -/
namespace Go.Proofs.YtihphpcgjeokmaaGreatDoor
open Go.RowKit
set_option linter.unusedVariables false
theorem cen_of {W : World} (t0 : TabA W 2 gro 15) (t1 : TabA W 0 widq 8) (t2 : TabA W 1 gains 8) : CEn 12 W :=
  fun e s he h64 v l wr g hi sh hl64 hsz r => codEncode_any wr e s he v l hi (by omega) r (wide_tab (TabA_keep t1 g)) (TabA_keep t1 g) (TabA_keep t2 g) (grows_tab (TabA_keep t0 g))
theorem cbg_of (W : World) : CBg 9 W := fun wr g => codBegin_any wr
end Go.Proofs.YtihphpcgjeokmaaGreatDoor

/- CnpD -/
namespace Go.Proofs.YtihphpcgjeokmaaGreatDoor
open Go.RowKit
set_option linter.unusedVariables false
set_option linter.unusedSimpArgs false
set_option maxHeartbeats 2000000
set_option maxRecDepth 100000 in
theorem conErased_no1 (l : List Int) (s : Bool) (half : Int) (hl : l.length = 101) (hg : goodM l = false) (w : World) : Calls Tryz.prog 48 #[memV l s, .int .i64 half] w (MemE w (erM l half) (erS l half s) (erL l half) (erE l half)) := by
  have M0 := hide (MmS.new w l s)
  have GD := hide (fun wr => conGood_any l s hl wr)
  rw [hg] at GD
  have hno : ¬ erO l half := by unfold erO; rintro ⟨k, _⟩; rw [hg] at k; cases k
  have F := hide (show ∀ w', w.grownBy w' none → MemE w (erM l half) (erS l half s) (erL l half) (erE l half) (.returned (.tuple #[memV (zeros 101) false, .slice none 0 0, .int .i64 2])) w' from fun w' q => ⟨_, by rw [(er_no (s := s) hno).1, (er_no (s := s) hno).2.1, (er_no (s := s) hno).2.2.2], by rw [(er_no (s := s) hno).2.2.1]; exact Own_nil _ _, q⟩)
  have CL := hide (memC_len hl s)
  have AL := hide (BlkM.all s hl)
  have ZL := hide (memC_len (zeros_len 101) false)
  have ZO := hide (memC_one (zeros 101) false)
  have hz := zero_mem
  have ZB := hide (fun wr (h : MmS w l s wr) => h.fin (zeros 101) false (zeros_len 101))
  clear hg hno
  generalize MemE w (erM l half) (erS l half s) (erL l half) (erE l half) = T at *
  unfold memV at hz F GD ⊢
  go_enter Tryz.func48, Tryz.ntmps48
  go_upto_region 1 with fail
  generalize (w.alloc (.cells (memC l s).toArray 30)).alloc (.cells (memC (zeros 101) false).toArray 30) = W0 at *
  go_wp2_with (refine wpList_load_v rfl 30 _ rfl w.heap.size 0 102 rfl 30 (memC l s) M0.out.1 _ Tryz.underlying30 rfl size102 (by rw [CL.out]; omega) _ AL.out ?_)
  refine (GD.out W0).mono ?_
  rintro e W1 ⟨rfl, g1⟩
  have M1 := hide (M0.out.keep g1)
  have PB := hide (ZB.out W1 M1.out)
  have FF := hide (F.out _ PB.out.2)
  clear M0 g1 GD ZB F
  go_wp2_with (first | refine wpList_store_v rfl 30 _ _ rfl (w.heap.size + 1) 0 30 (memC (zeros 101) false) (memC (zeros 101) false) rfl rfl M1.out.2.1 (by rw [ZL.out]; omega) (by rw [ZL.out]; exact size102) ZO.out ?_)
  have hlv := loadVar_v PB.out.1 _ Tryz.underlying30 rfl (by rw [ZL.out]; exact size102)
  refine bodyPost_ret (v := .tuple #[.agg (memC (zeros 101) false).toArray, .slice none 0 0, .int .i64 2]) ?_ rfl FF.out
  simp [results, Tryz.results48, asAddr, Act.put, hlv]
set_option maxRecDepth 100000 in
theorem conErased_no2 (l : List Int) (s : Bool) (half : Int) (hl : l.length = 101) (hg : goodM l = true) (hh : ¬ (0 ≤ half ∧ half ≤ 1)) (w : World) : Calls Tryz.prog 48 #[memV l s, .int .i64 half] w (MemE w (erM l half) (erS l half s) (erL l half) (erE l half)) := by
  have M0 := hide (MmS.new w l s)
  have GD := hide (fun wr => conGood_any l s hl wr)
  rw [hg] at GD
  have hno : ¬ erO l half := by unfold erO; exact fun k => hh k.2
  have F := hide (show ∀ w', w.grownBy w' none → MemE w (erM l half) (erS l half s) (erL l half) (erE l half) (.returned (.tuple #[memV (zeros 101) false, .slice none 0 0, .int .i64 2])) w' from fun w' q => ⟨_, by rw [(er_no (s := s) hno).1, (er_no (s := s) hno).2.1, (er_no (s := s) hno).2.2.2], by rw [(er_no (s := s) hno).2.2.1]; exact Own_nil _ _, q⟩)
  have CL := hide (memC_len hl s)
  have AL := hide (BlkM.all s hl)
  have ZL := hide (memC_len (zeros_len 101) false)
  have ZO := hide (memC_one (zeros 101) false)
  have hz := zero_mem
  have ZB := hide (fun wr (h : MmS w l s wr) => h.fin (zeros 101) false (zeros_len 101))
  have WI := hide (fun u => conWithin_any half 0 1 u)
  rw [decide_eq_false hh] at WI
  clear hh
  clear hg hno
  generalize MemE w (erM l half) (erS l half s) (erL l half) (erE l half) = T at *
  unfold memV at hz F GD ⊢
  go_enter Tryz.func48, Tryz.ntmps48
  go_upto_region 1 with fail
  generalize (w.alloc (.cells (memC l s).toArray 30)).alloc (.cells (memC (zeros 101) false).toArray 30) = W0 at *
  go_wp2_with (refine wpList_load_v rfl 30 _ rfl w.heap.size 0 102 rfl 30 (memC l s) M0.out.1 _ Tryz.underlying30 rfl size102 (by rw [CL.out]; omega) _ AL.out ?_)
  refine (GD.out W0).mono ?_
  rintro e W1 ⟨rfl, g1⟩
  have M1 := hide (M0.out.keep g1)
  have PB := hide (ZB.out W1 M1.out)
  have FF := hide (F.out _ PB.out.2)
  clear M0 g1 GD ZB F
  go_wp2_with fail
  refine (WI.out _).mono ?_
  rintro e W2 ⟨rfl, rfl⟩
  clear WI
  go_wp2_with (first | refine wpList_store_v rfl 30 _ _ rfl (w.heap.size + 1) 0 30 (memC (zeros 101) false) (memC (zeros 101) false) rfl rfl M1.out.2.1 (by rw [ZL.out]; omega) (by rw [ZL.out]; exact size102) ZO.out ?_)
  have hlv := loadVar_v PB.out.1 _ Tryz.underlying30 rfl (by rw [ZL.out]; exact size102)
  refine bodyPost_ret (v := .tuple #[.agg (memC (zeros 101) false).toArray, .slice none 0 0, .int .i64 2]) ?_ rfl FF.out
  simp [results, Tryz.results48, asAddr, Act.put, hlv]
set_option maxRecDepth 100000 in
theorem conErased_up (l : List Int) (s : Bool) (half : Int) (hl : l.length = 101) (hg : goodM l = true) (hh : half = 0) (h6 : nth l 99 < 6) (w : World) : Calls Tryz.prog 48 #[memV l s, .int .i64 half] w (MemE w (erM l half) (erS l half s) (erL l half) (erE l half)) := by
  have M0 := hide (MmS.new w l s)
  have GD := hide (fun wr => conGood_any l s hl wr)
  have h64 := good_64 hl hg
  have hk : erO l half := ⟨hg, by omega, by omega⟩
  have EB := erN_bd l half hg
  rw [hg] at GD
  have WI := hide (fun u => conWithin_any half 0 1 u)
  rw [decide_eq_true (show 0 ≤ half ∧ half ≤ 1 by omega)] at WI
  have hx3 : (half == 0) = true := beq_iff_eq.2 hh
  have h60 : 0 ≤ nth l 99 ∧ nth l 99 ≤ 6 := (goodM_iff l).1 hg 99 (by omega)
  obtain ⟨er, her⟩ : ∃ er, erN l half = er := ⟨_, rfl⟩
  obtain ⟨f1, hf1⟩ : ∃ f1, fdV (nth l 96) er = f1 := ⟨_, rfl⟩
  obtain ⟨f2, hf2⟩ : ∃ f2, fdV (nth l 97) er = f2 := ⟨_, rfl⟩
  obtain ⟨sz, hsz⟩ : ∃ sz, f1 / 4 = sz := ⟨_, rfl⟩
  obtain ⟨l1, hl1⟩ : ∃ l1, l.set 99 (nth l 99 + 1) = l1 := ⟨_, rfl⟩
  have E1 : l1 = l.set 99 er := by rw [← hl1, ← her]; unfold erN; rw [if_pos ⟨hh, h6⟩]
  have L1 := hide (show l1.length = 101 by rw [E1, List.length_set]; exact hl)
  have E96 := hide (show nth l1 96 = nth l 96 by rw [E1, setN _ _ _ (by omega), if_neg (by omega)])
  have E97 := hide (show nth l1 97 = nth l 97 by rw [E1, setN _ _ _ (by omega), if_neg (by omega)])
  have E98 := hide (show nth l1 98 = nth l 98 by rw [E1, setN _ _ _ (by omega), if_neg (by omega)])
  have E99 := hide (show nth l1 99 = er by rw [E1, setN _ _ _ (by omega), if_pos rfl])
  have E100 := hide (show nth l1 100 = nth l 100 by rw [E1, setN _ _ _ (by omega), if_neg (by omega)])
  have D97 := hide (show ∀ z, nth (l1.set 100 z) 97 = nth l 97 from fun z => by rw [setN _ _ _ (by rw [L1.out]; omega), if_neg (by omega)]; exact E97.out)
  have D98 := hide (show ∀ z, nth (l1.set 100 z) 98 = nth l 98 from fun z => by rw [setN _ _ _ (by rw [L1.out]; omega), if_neg (by omega)]; exact E98.out)
  have D99 := hide (show ∀ z, nth (l1.set 100 z) 99 = er from fun z => by rw [setN _ _ _ (by rw [L1.out]; omega), if_neg (by omega)]; exact E99.out)
  have NZ := hide (fun wr => conNoise_any l1 s sz L1.out wr)
  rw [E100.out] at NZ
  have EZ : nzL (nth l 100) sz 40 = erZ l half := by unfold erZ; rw [her, hf1, hsz]
  rw [EZ] at NZ
  have MO := er_mix l half hg
  rw [her, hf2] at MO
  have MX := hide (fun v wr (hv : Ints wr v (erZ l half)) => conMix_any (prt l 16 80) (nth l 98) f2 v (erZ l half) wr (prt_len _ _ _) hv (by rw [erZ_len]; omega))
  rw [(mxL_yes (h := prt l 16 80) MO).1, (mxL_yes (h := prt l 16 80) MO).2] at MX
  have EX : mxA (pasL (prt l 16 80) (nth l 98)) f2 (erZ l half) = erX l half := by unfold erX; rw [her, hf2]
  rw [EX] at MX
  have KP := hide (fun v wr (hv : Ints wr v (erX l half)) => conKeep_any (prt l 16 80) v (erX l half) wr (prt_len _ _ _) hv (by rw [erX_len]; omega))
  rw [(kpL_yes (h := prt l 16 80) (erX_len l half)).1, (kpL_yes (h := prt l 16 80) (erX_len l half)).2] at KP
  have KL := hide (kpA_len (prt l 16 80) (erX l half))
  have F := hide (show ∀ v' w', Own w.heap.size w' v' (erX l half) → w.grownBy w' none → MemE w (erM l half) (erS l half s) (erL l half) (erE l half) (.returned (.tuple #[memV (ovr (l1.set 100 (sdN (nth l 100) 40)) 16 (kpA (prt l 16 80) (erX l half))) s, v', .int .i64 0])) w' from fun v' w' o q =>
    ⟨v', by rw [(er_yes (s := s) hk).1, (er_yes (s := s) hk).2.1, (er_yes (s := s) hk).2.2.2]; unfold memT; rw [her, E1], by rw [(er_yes (s := s) hk).2.2.1]; exact o, q⟩)
  have PS := hide (show prt l1 16 80 = prt l 16 80 by rw [E1]; exact prt_set l 99 _ 16 80 (by omega) (.inr (by omega)))
  have PS2 := hide (fun z => prt_set l1 100 z 16 80 (by rw [L1.out]; omega) (.inr (by omega)))
  have CL := hide (memC_len hl s)
  have AL := hide (BlkM.all s hl)
  have C1 := hide (memC_len L1.out s)
  have A1 := hide (BlkM.all s L1.out)
  have ZL := hide (memC_len (zeros_len 101) false)
  have HL := hide hl
  have fb := fdV_bd (nth l 96) er
  rw [hf1] at fb
  have FD1 := hide hf1
  have FD2 := hide hf2
  have hsz1 : f1.tdiv 4 = sz := by rw [Int.tdiv_eq_ediv_of_nonneg fb.1]; exact hsz
  have hsz2 : f1 / 4 = sz := hsz
  have WSZ := wrapI sz (by omega) (by omega)
  have hz := zero_mem
  have HL1 := hide hl1
  clear hg h64 hl hf1 hf2 hsz EZ EX MO hk E1 hl1 fb hh her
  generalize MemE w (erM l half) (erS l half s) (erL l half) (erE l half) = T at *
  unfold NsE at NZ
  unfold memV at hz F GD NZ ⊢
  generalize erX l half = X at *
  generalize erZ l half = N at *
  generalize sdN (nth l 100) 40 = sd at *
  generalize nth l 96 = g0 at *
  generalize nth l 97 = p0 at *
  generalize nth l 98 = lg at *
  replace D97 := hide (D97.out sd)
  replace D98 := hide (D98.out sd)
  replace D99 := hide (D99.out sd)
  have L2 := hide (show (l1.set 100 sd).length = 101 by rw [List.length_set]; exact L1.out)
  have C2 := hide (memC_len L2.out s)
  have ON1 := hide (memC_one (l1.set 100 sd) s)
  have P2 := hide (BlkM.part (l := l1.set 100 sd) s 16 80 (by rw [L2.out]; omega))
  rw [PS2.out, PS.out] at P2
  go_enter Tryz.func48, Tryz.ntmps48
  go_upto_region 1 with fail
  generalize (w.alloc (.cells (memC l s).toArray 30)).alloc (.cells (memC (zeros 101) false).toArray 30) = W0 at *
  clear hz
  go_wp2_with (refine wpList_load_v rfl 30 _ rfl w.heap.size 0 102 rfl 30 (memC l s) M0.out.1 _ Tryz.underlying30 rfl size102 (by rw [CL.out]; omega) _ AL.out ?_)
  refine (GD.out W0).mono ?_
  rintro e W1 ⟨rfl, g1⟩
  have M1 := hide (M0.out.keep g1)
  clear M0 g1 GD
  go_wp2_with fail
  refine (WI.out _).mono ?_
  rintro e w1 ⟨rfl, rfl⟩
  clear WI
  have M2 := hide (show MmS w l1 s (w1.setCell ⟨w.heap.size, 99, none⟩ (.int .i64 (nth l 99 + 1))) from by rw [← HL1.out]; exact M1.out.set 99 ((nth l 99 + 1)) (by rw [HL.out]; omega))
  have c99 := M1.out.1.cell 99 (by rw [HL.out]; omega)
  have f99 := M1.out.1.free 99
  generalize hz9 : nth l 99 = z9 at *
  have m9 : min (z9 + 1) 6 = z9 + 1 := by omega
  go_upto_region 5 with fail
  clear c99 f99 M1
  generalize w1.setCell ⟨w.heap.size, 99, none⟩ (.int .i64 (z9 + 1)) = W2 at *
  have B2 := hide (show w.heap.size + 1 < W2.heap.size from M2.out.2.1.lt)
  have B2' := hide (show w.heap.size ≤ W2.heap.size from M2.out.2.2.size)
  refine wp_region_G 11 (GrownW W2) 13 (by rfl) #[false, false, false, false, false, false, false, false, false, false, false, false, false] (by rfl) (by kernel_rfl) (fun hcl => ?_)
  have hHeld := (gw_start W2)
  refine wpAnyG_take (i := 0) (v := .agg (memC l1 s).toArray) rfl (by kernel_rfl) hcl (fun _ _ _ h => h) (Or.inl ⟨by rfl, ?yea0⟩) hHeld (fun hcl => ?rea0)
  case yea0 => (intro w' hSw; (try dsimp only at hSw); exact yields_load_v rfl rfl (M2.out.1.keep hSw) _ Tryz.underlying30 rfl size102 (by rw [C1.out]; omega) _ A1.out)
  (try simp only [Act.put, sL])
  refine wpAnyG_take (i := 1) (v := ?vea1) rfl (by kernel_rfl) hcl (fun _ _ _ h => h) (Or.inl ⟨by rfl, ?yea1⟩) hHeld (fun hcl => ?rea1)
  case yea1 => (intro w' hSw; (try dsimp only at hSw); go_simp; (try with_reducible rfl))
  (try simp only [Act.put, sL])
  refine wpAnyG_take (i := 2) (v := .int .i64 g0) rfl (by kernel_rfl) hcl (fun _ _ _ h => h) (Or.inl ⟨by rfl, ?yea2⟩) hHeld (fun hcl => ?rea2)
  case yea2 => (intro w' hSw; (try dsimp only at hSw); have cc := (M2.out.1.keep hSw).cell 96 (by rw [L1.out]; omega); rw [E96.out] at cc; go_simp; (try with_reducible rfl))
  (try simp only [Act.put, sL])
  refine wpAnyG_take (i := 3) (v := ?vea3) rfl (by kernel_rfl) hcl (fun _ _ _ h => h) (Or.inl ⟨by rfl, ?yea3⟩) hHeld (fun hcl => ?rea3)
  case yea3 => (intro w' hSw; (try dsimp only at hSw); go_simp; (try with_reducible rfl))
  (try simp only [Act.put, sL])
  refine wpAnyG_take (i := 4) (v := .int .i64 er) rfl (by kernel_rfl) hcl (fun _ _ _ h => h) (Or.inl ⟨by rfl, ?yea4⟩) hHeld (fun hcl => ?rea4)
  case yea4 => (intro w' hSw; (try dsimp only at hSw); have cc := (M2.out.1.keep hSw).cell 99 (by rw [L1.out]; omega); rw [E99.out] at cc; go_simp; (try with_reducible rfl))
  (try simp only [Act.put, sL])
  refine wpAnyG_exec (i := 5) rfl (by kernel_rfl) hcl (fun K hK => ?_)
  (try simp only [Act.put, sL])
  go_simp
  refine (gaiFade_any g0 er _).mono ?_
  rintro e w1 ⟨rfl, rfl⟩
  rw [FD1.out]
  go_wp2_with fail
  have hNew := hHeld
  refine hK.out _ _ (fun _ => hNew) (fun hcl => ?_)
  clear hK
  replace hHeld := hNew
  clear hNew
  (try simp only [Act.put, sL])
  refine wpAnyG_take (i := 6) (v := .int .i64 sz) rfl (by kernel_rfl) hcl (fun _ _ _ h => h) (Or.inl ⟨by rfl, ?yea6⟩) hHeld (fun hcl => ?rea6)
  case yea6 => (intro w' hSw; (try dsimp only at hSw); go_simp; (try simp only [hsz1, hsz2, WSZ]))
  (try simp only [Act.put, sL])
  refine wpAnyG_exec (i := 7) rfl (by kernel_rfl) hcl (fun K hK => ?_)
  (try simp only [Act.put, sL])
  go_simp
  refine (NZ.out _).mono ?_
  rintro e w2 ⟨v2, rfl, o2, q2⟩
  have Q2 := hide q2
  have O2 := hide (o2.base hHeld.size)
  clear q2 o2
  go_wp2_with fail
  have hNew := (gw_trans hHeld Q2.out)
  refine hK.out _ _ (fun _ => hNew) (fun hcl => ?_)
  clear hK
  replace hHeld := hNew
  clear hNew
  (try simp only [Act.put, sL])
  refine wpAnyG_take (i := 8) (v := ?vea8) rfl (by kernel_rfl) hcl (fun _ _ _ h => h) (Or.inl ⟨by rfl, ?yea8⟩) hHeld (fun hcl => ?rea8)
  case yea8 => (intro w' hSw; (try dsimp only at hSw); go_simp; (try with_reducible rfl))
  (try simp only [Act.put, sL])
  refine wpAnyG_take (i := 9) (v := ?vea9) rfl (by kernel_rfl) hcl (fun _ _ _ h => h) (Or.inl ⟨by rfl, ?yea9⟩) hHeld (fun hcl => ?rea9)
  case yea9 => (intro w' hSw; (try dsimp only at hSw); go_simp; (try with_reducible rfl))
  (try simp only [Act.put, sL])
  refine wpAnyG_takeF (i := 10) (v := ?vea10) rfl (by kernel_rfl) hcl (fun _ _ _ h => h) (Or.inl ⟨by rfl, ?yea10⟩) hHeld (fun hcl => ?rea10)
  case yea10 => (intro w' _; go_simp; (try with_reducible rfl))
  (try simp only [Act.put, sL])
  refine wpAnyG_exec (i := 11) rfl (by kernel_rfl) hcl (fun K hK => ?_)
  (try simp only [Act.put, sL])
  have M3p := hide (M2.out.keep hHeld)
  have M3' := M3p.out.putP (l1.set 100 sd) s L1.out L2.out
  have M3 := hide M3'.1
  have O3 := hide (O2.out.keepLt M3'.2 (by have := B2.out; omega))
  clear O2 M3'
  refine step_store_v rfl 30 _ _ rfl w.heap.size 0 30 (memC l1 s) (memC (l1.set 100 sd) s) rfl rfl M3p.out.1 (by rw [C1.out, C2.out]; omega) (by rw [C2.out]; exact size102) ON1.out ?_
  refine hK.out _ _ (fun h => by cases h) (fun hcl => ?_)
  clear hK hHeld
  (try simp only [Act.put, sL])
  clear M3p M2 Q2
  generalize putV w2 w.heap.size 0 (memC (l1.set 100 sd) s) = W3 at *
  refine wpAnyG_of_any _ _ _ _ (by rfl) ?_
  refine wpAny_take (i := 12) (v := ?vea12) rfl (by kernel_rfl) (by kernel_rfl) (by kernel_rfl) (fun _ _ _ h => h) (Or.inl ⟨by rfl, ?yea12⟩) ?rea12
  case yea12 => (intro w'; go_simp; (try with_reducible rfl))
  (try simp only [Act.put, sL])
  refine wpAny_done (by kernel_rfl) ?_ _
  clear NZ
  go_upto_region 6 with fail
  refine wp_region_held_drew (S := GrownW W3) (by kernel_rfl) (gw_start _) (fun hHeld => ?_)
  refine wpAnyH_take (i := 0) (v := ?veb0) rfl (by kernel_rfl) (by kernel_rfl) (by kernel_rfl) (fun _ _ _ h => h) (Or.inl ⟨by rfl, ?yeb0⟩) hHeld ?reb0
  case yeb0 => (intro w' hSw; go_simp; (try with_reducible rfl))
  (try simp only [Act.put, sL])
  refine wpAnyH_take (i := 1) (v := .agg (intsV (prt l 16 80)).toArray) rfl (by kernel_rfl) (by kernel_rfl) (by kernel_rfl) (fun _ _ _ h => h) (Or.inl ⟨by rfl, ?yeb1⟩) hHeld ?reb1
  case yeb1 => (intro w' hSw; exact yields_load_v rfl rfl (M3.out.1.keep hSw) _ Tryz.underlying28 rfl size80c (by rw [C2.out]; omega) _ P2.out)
  (try simp only [Act.put, sL])
  refine wpAnyH_take (i := 2) (v := ?veb2) rfl (by kernel_rfl) (by kernel_rfl) (by kernel_rfl) (fun _ _ _ h => h) (Or.inl ⟨by rfl, ?yeb2⟩) hHeld ?reb2
  case yeb2 => (intro w' hSw; go_simp; (try with_reducible rfl))
  (try simp only [Act.put, sL])
  refine wpAnyH_take (i := 3) (v := .int .i64 lg) rfl (by kernel_rfl) (by kernel_rfl) (by kernel_rfl) (fun _ _ _ h => h) (Or.inl ⟨by rfl, ?yeb3⟩) hHeld ?reb3
  case yeb3 => (intro w' hSw; have cc := (M3.out.1.keep hSw).cell 98 (by rw [L2.out]; omega); rw [D98.out] at cc; go_simp; (try with_reducible rfl))
  (try simp only [Act.put, sL])
  refine wpAnyH_take (i := 4) (v := ?veb4) rfl (by kernel_rfl) (by kernel_rfl) (by kernel_rfl) (fun _ _ _ h => h) (Or.inl ⟨by rfl, ?yeb4⟩) hHeld ?reb4
  case yeb4 => (intro w' hSw; go_simp; (try with_reducible rfl))
  (try simp only [Act.put, sL])
  refine wpAnyH_take (i := 5) (v := .int .i64 p0) rfl (by kernel_rfl) (by kernel_rfl) (by kernel_rfl) (fun _ _ _ h => h) (Or.inl ⟨by rfl, ?yeb5⟩) hHeld ?reb5
  case yeb5 => (intro w' hSw; have cc := (M3.out.1.keep hSw).cell 97 (by rw [L2.out]; omega); rw [D97.out] at cc; go_simp; (try with_reducible rfl))
  (try simp only [Act.put, sL])
  refine wpAnyH_take (i := 6) (v := ?veb6) rfl (by kernel_rfl) (by kernel_rfl) (by kernel_rfl) (fun _ _ _ h => h) (Or.inl ⟨by rfl, ?yeb6⟩) hHeld ?reb6
  case yeb6 => (intro w' hSw; go_simp; (try with_reducible rfl))
  (try simp only [Act.put, sL])
  refine wpAnyH_take (i := 7) (v := .int .i64 er) rfl (by kernel_rfl) (by kernel_rfl) (by kernel_rfl) (fun _ _ _ h => h) (Or.inl ⟨by rfl, ?yeb7⟩) hHeld ?reb7
  case yeb7 => (intro w' hSw; have cc := (M3.out.1.keep hSw).cell 99 (by rw [L2.out]; omega); rw [D99.out] at cc; go_simp; (try with_reducible rfl))
  (try simp only [Act.put, sL])
  refine wpAnyH_take (i := 9) (v := ?veb9) rfl (by kernel_rfl) (by kernel_rfl) (by kernel_rfl) (fun _ _ _ h => h) (Or.inl ⟨by rfl, ?yeb9⟩) hHeld ?reb9
  case yeb9 => (intro w' hSw; go_simp; (try with_reducible rfl))
  (try simp only [Act.put, sL])
  refine wpAnyH_ready (rs := [8]) (by kernel_rfl) (by simp) (AllReadyH.cons rfl (fun K hK => ?_) AllReadyH.nil)
  (try simp only [Act.put, sL])
  go_simp
  refine (gaiFade_any p0 er _).mono ?_
  rintro e w3 ⟨rfl, rfl⟩
  rw [FD2.out]
  go_wp2_with fail
  refine hK.out _ _ hHeld (fun hHeld => ?_)
  clear hK
  (try simp only [Act.put, sL])
  refine wpAnyH_ready (rs := [10]) (by kernel_rfl) (by simp) (AllReadyH.cons rfl (fun K hK => ?_) AllReadyH.nil)
  (try simp only [Act.put, sL])
  go_simp
  refine (MX.out v2 _ (O3.out.keep hHeld).ints).mono ?_
  rintro e w4 ⟨v4, rfl, o4, q4⟩
  have Q4 := hide q4
  have O4 := hide (o4.base hHeld.size)
  clear q4 o4
  go_wp2_with fail
  refine hK.out _ _ (gw_trans hHeld Q4.out) (fun hHeld => ?_)
  clear hK
  (try simp only [Act.put, sL])
  clear Q4
  refine wpAnyH_take (i := 11) (v := ?veb11) rfl (by kernel_rfl) (by kernel_rfl) (by kernel_rfl) (fun _ _ _ h => h) (Or.inl ⟨by rfl, ?yeb11⟩) hHeld ?reb11
  case yeb11 => (intro w' hSw; go_simp; (try with_reducible rfl))
  (try simp only [Act.put, sL])
  refine wpAnyH_take (i := 12) (v := ?veb12) rfl (by kernel_rfl) (by kernel_rfl) (by kernel_rfl) (fun _ _ _ h => h) (Or.inl ⟨by rfl, ?yeb12⟩) hHeld ?reb12
  case yeb12 => (intro w' hSw; go_simp; (try with_reducible rfl))
  (try simp only [Act.put, sL])
  refine wpAnyH_take (i := 13) (v := ?veb13) rfl (by kernel_rfl) (by kernel_rfl) (by kernel_rfl) (fun _ _ _ h => h) (Or.inl ⟨by rfl, ?yeb13⟩) hHeld ?reb13
  case yeb13 => (intro w' hSw; go_simp; (try with_reducible rfl))
  (try simp only [Act.put, sL])
  refine wpAnyH_take (i := 14) (v := ?veb14) rfl (by kernel_rfl) (by kernel_rfl) (by kernel_rfl) (fun _ _ _ h => h) (Or.inl ⟨by rfl, ?yeb14⟩) hHeld ?reb14
  case yeb14 => (intro w' hSw; go_simp; (try with_reducible rfl))
  (try simp only [Act.put, sL])
  refine wpAnyH_take (i := 15) (v := ?veb15) rfl (by kernel_rfl) (by kernel_rfl) (by kernel_rfl) (fun _ _ _ h => h) (Or.inl ⟨by rfl, ?yeb15⟩) hHeld ?reb15
  case yeb15 => (intro w' hSw; go_simp; (try with_reducible rfl))
  (try simp only [Act.put, sL])
  refine wpAnyH_done (by kernel_rfl) ?_ _
  have M4' := hide (M3.out.keep hHeld)
  have O4' := hide O4.out
  have BL := hide (show w.heap.size + 1 < W3.heap.size from M3.out.2.1.lt)
  have B1 := hide (show w.heap.size ≤ W3.heap.size from M3.out.2.2.size)
  clear M3 O3 O4 hHeld MX P2
  go_upto_region 7 with fail
  have L1' := L2
  have P3 := hide (BlkM.part (l := l1.set 100 sd) s 16 80 (by rw [L1'.out]; omega))
  rw [PS2.out, PS.out] at P3
  have C3 := C2
  have KK := hide (KP.out v4 w4 O4'.out.ints)
  have M3 := M4'
  have O3 := O4'
  clear KP PS PS2 M4' O4' D97 D98 D99 E96 E97 E98 E99 E100
  go_wp2_with (first | refine wpList_load_v rfl 28 _ rfl w.heap.size 16 80 rfl 30 (memC (l1.set 100 sd) s) M3.out.1 _ Tryz.underlying28 rfl size80c (by rw [C3.out]; omega) _ P3.out ?_)
  refine KK.out.mono ?_
  rintro e W4 ⟨rfl, g4⟩
  have M4 := hide (M3.out.keep g4)
  have O4 := hide (O3.out.keep g4)
  clear KK M3 O3 g4 P3
  generalize kpA (prt l 16 80) X = R at *
  have M5 := hide (M4.out.put 16 R (by rw [KL.out, L1'.out]; omega))
  have O5 := hide (O4.out.keepLt (M4.out.1.put 16 R (by rw [KL.out, L1'.out]; omega)).2 (by have := BL.out; omega))
  have I_ := hide (intsV_one R)
  have IL := hide (show (intsV R).length = 80 by rw [intsV_len]; exact KL.out)
  clear O4
  go_upto_region 8 with (first | refine wpList_store_v rfl 28 _ _ rfl w.heap.size 16 30 (memC (l1.set 100 sd) s) (intsV R) rfl rfl M4.out.1 (by rw [IL.out, C3.out]; omega) (by rw [IL.out]; exact size80c) I_.out ?_)
  (try simp only [Act.put])
  clear M4 I_ IL C3
  generalize putV W4 w.heap.size 16 (intsV R) = W5 at *
  have L5 := hide (show (ovr (l1.set 100 sd) 16 R).length = 101 by rw [ovr_len]; exact L1'.out)
  generalize ovr (l1.set 100 sd) 16 R = m at *
  have A5 := hide (BlkM.all s L5.out)
  have C5 := hide (memC_len L5.out s)
  have ON := hide (memC_one m s)
  have PB := hide (M5.out.fin m s L5.out)
  have O6 := hide (O5.out.keepLt (M5.out.2.1.putAll (m := m) (t := s) (zeros_len 101) L5.out).2 BL.out)
  have FF := hide (F.out _ _ (O6.out.base B1.out) PB.out.2)
  clear F O5 O6
  go_wp2_with (first | refine wpList_load_v rfl 30 _ rfl w.heap.size 0 102 rfl 30 (memC m s) M5.out.1 _ Tryz.underlying30 rfl size102 (by rw [C5.out]; omega) _ A5.out ?_ | refine wpList_store_v rfl 30 _ _ rfl (w.heap.size + 1) 0 30 (memC (zeros 101) false) (memC m s) rfl rfl M5.out.2.1 (by rw [ZL.out, C5.out]; omega) (by rw [C5.out]; exact size102) ON.out ?_)
  have hlv := loadVar_v PB.out.1 _ Tryz.underlying30 rfl (by rw [C5.out]; exact size102)
  refine bodyPost_ret (v := .tuple #[.agg (memC m s).toArray, _, .int .i64 0]) ?_ rfl FF.out
  simp [results, Tryz.results48, asAddr, Act.put, hlv]
set_option maxRecDepth 100000 in
theorem conErased_top (l : List Int) (s : Bool) (half : Int) (hl : l.length = 101) (hg : goodM l = true) (hh : half = 0) (h6 : ¬ nth l 99 < 6) (w : World) : Calls Tryz.prog 48 #[memV l s, .int .i64 half] w (MemE w (erM l half) (erS l half s) (erL l half) (erE l half)) := by
  have M0 := hide (MmS.new w l s)
  have GD := hide (fun wr => conGood_any l s hl wr)
  have h64 := good_64 hl hg
  have hk : erO l half := ⟨hg, by omega, by omega⟩
  have EB := erN_bd l half hg
  rw [hg] at GD
  have WI := hide (fun u => conWithin_any half 0 1 u)
  rw [decide_eq_true (show 0 ≤ half ∧ half ≤ 1 by omega)] at WI
  have hx3 : (half == 0) = true := beq_iff_eq.2 hh
  have h60 : 0 ≤ nth l 99 ∧ nth l 99 ≤ 6 := (goodM_iff l).1 hg 99 (by omega)
  obtain ⟨er, her⟩ : ∃ er, erN l half = er := ⟨_, rfl⟩
  obtain ⟨f1, hf1⟩ : ∃ f1, fdV (nth l 96) er = f1 := ⟨_, rfl⟩
  obtain ⟨f2, hf2⟩ : ∃ f2, fdV (nth l 97) er = f2 := ⟨_, rfl⟩
  obtain ⟨sz, hsz⟩ : ∃ sz, f1 / 4 = sz := ⟨_, rfl⟩
  obtain ⟨l1, hl1⟩ : ∃ l1, l.set 99 6 = l1 := ⟨_, rfl⟩
  have E1 : l1 = l.set 99 er := by rw [← hl1, ← her]; unfold erN; rw [if_neg (fun k => h6 k.2), show nth l 99 = 6 by omega]
  have L1 := hide (show l1.length = 101 by rw [E1, List.length_set]; exact hl)
  have E96 := hide (show nth l1 96 = nth l 96 by rw [E1, setN _ _ _ (by omega), if_neg (by omega)])
  have E97 := hide (show nth l1 97 = nth l 97 by rw [E1, setN _ _ _ (by omega), if_neg (by omega)])
  have E98 := hide (show nth l1 98 = nth l 98 by rw [E1, setN _ _ _ (by omega), if_neg (by omega)])
  have E99 := hide (show nth l1 99 = er by rw [E1, setN _ _ _ (by omega), if_pos rfl])
  have E100 := hide (show nth l1 100 = nth l 100 by rw [E1, setN _ _ _ (by omega), if_neg (by omega)])
  have D97 := hide (show ∀ z, nth (l1.set 100 z) 97 = nth l 97 from fun z => by rw [setN _ _ _ (by rw [L1.out]; omega), if_neg (by omega)]; exact E97.out)
  have D98 := hide (show ∀ z, nth (l1.set 100 z) 98 = nth l 98 from fun z => by rw [setN _ _ _ (by rw [L1.out]; omega), if_neg (by omega)]; exact E98.out)
  have D99 := hide (show ∀ z, nth (l1.set 100 z) 99 = er from fun z => by rw [setN _ _ _ (by rw [L1.out]; omega), if_neg (by omega)]; exact E99.out)
  have NZ := hide (fun wr => conNoise_any l1 s sz L1.out wr)
  rw [E100.out] at NZ
  have EZ : nzL (nth l 100) sz 40 = erZ l half := by unfold erZ; rw [her, hf1, hsz]
  rw [EZ] at NZ
  have MO := er_mix l half hg
  rw [her, hf2] at MO
  have MX := hide (fun v wr (hv : Ints wr v (erZ l half)) => conMix_any (prt l 16 80) (nth l 98) f2 v (erZ l half) wr (prt_len _ _ _) hv (by rw [erZ_len]; omega))
  rw [(mxL_yes (h := prt l 16 80) MO).1, (mxL_yes (h := prt l 16 80) MO).2] at MX
  have EX : mxA (pasL (prt l 16 80) (nth l 98)) f2 (erZ l half) = erX l half := by unfold erX; rw [her, hf2]
  rw [EX] at MX
  have KP := hide (fun v wr (hv : Ints wr v (erX l half)) => conKeep_any (prt l 16 80) v (erX l half) wr (prt_len _ _ _) hv (by rw [erX_len]; omega))
  rw [(kpL_yes (h := prt l 16 80) (erX_len l half)).1, (kpL_yes (h := prt l 16 80) (erX_len l half)).2] at KP
  have KL := hide (kpA_len (prt l 16 80) (erX l half))
  have F := hide (show ∀ v' w', Own w.heap.size w' v' (erX l half) → w.grownBy w' none → MemE w (erM l half) (erS l half s) (erL l half) (erE l half) (.returned (.tuple #[memV (ovr (l1.set 100 (sdN (nth l 100) 40)) 16 (kpA (prt l 16 80) (erX l half))) s, v', .int .i64 0])) w' from fun v' w' o q =>
    ⟨v', by rw [(er_yes (s := s) hk).1, (er_yes (s := s) hk).2.1, (er_yes (s := s) hk).2.2.2]; unfold memT; rw [her, E1], by rw [(er_yes (s := s) hk).2.2.1]; exact o, q⟩)
  have PS := hide (show prt l1 16 80 = prt l 16 80 by rw [E1]; exact prt_set l 99 _ 16 80 (by omega) (.inr (by omega)))
  have PS2 := hide (fun z => prt_set l1 100 z 16 80 (by rw [L1.out]; omega) (.inr (by omega)))
  have CL := hide (memC_len hl s)
  have AL := hide (BlkM.all s hl)
  have C1 := hide (memC_len L1.out s)
  have A1 := hide (BlkM.all s L1.out)
  have ZL := hide (memC_len (zeros_len 101) false)
  have HL := hide hl
  have fb := fdV_bd (nth l 96) er
  rw [hf1] at fb
  have FD1 := hide hf1
  have FD2 := hide hf2
  have hsz1 : f1.tdiv 4 = sz := by rw [Int.tdiv_eq_ediv_of_nonneg fb.1]; exact hsz
  have hsz2 : f1 / 4 = sz := hsz
  have WSZ := wrapI sz (by omega) (by omega)
  have hz := zero_mem
  have HL1 := hide hl1
  clear hg h64 hl hf1 hf2 hsz EZ EX MO hk E1 hl1 fb hh her
  generalize MemE w (erM l half) (erS l half s) (erL l half) (erE l half) = T at *
  unfold NsE at NZ
  unfold memV at hz F GD NZ ⊢
  generalize erX l half = X at *
  generalize erZ l half = N at *
  generalize sdN (nth l 100) 40 = sd at *
  generalize nth l 96 = g0 at *
  generalize nth l 97 = p0 at *
  generalize nth l 98 = lg at *
  replace D97 := hide (D97.out sd)
  replace D98 := hide (D98.out sd)
  replace D99 := hide (D99.out sd)
  have L2 := hide (show (l1.set 100 sd).length = 101 by rw [List.length_set]; exact L1.out)
  have C2 := hide (memC_len L2.out s)
  have ON1 := hide (memC_one (l1.set 100 sd) s)
  have P2 := hide (BlkM.part (l := l1.set 100 sd) s 16 80 (by rw [L2.out]; omega))
  rw [PS2.out, PS.out] at P2
  go_enter Tryz.func48, Tryz.ntmps48
  go_upto_region 1 with fail
  generalize (w.alloc (.cells (memC l s).toArray 30)).alloc (.cells (memC (zeros 101) false).toArray 30) = W0 at *
  clear hz
  go_wp2_with (refine wpList_load_v rfl 30 _ rfl w.heap.size 0 102 rfl 30 (memC l s) M0.out.1 _ Tryz.underlying30 rfl size102 (by rw [CL.out]; omega) _ AL.out ?_)
  refine (GD.out W0).mono ?_
  rintro e W1 ⟨rfl, g1⟩
  have M1 := hide (M0.out.keep g1)
  clear M0 g1 GD
  go_wp2_with fail
  refine (WI.out _).mono ?_
  rintro e w1 ⟨rfl, rfl⟩
  clear WI
  have M2 := hide (show MmS w l1 s (w1.setCell ⟨w.heap.size, 99, none⟩ (.int .i64 6)) from by rw [← HL1.out]; exact M1.out.set 99 (6) (by rw [HL.out]; omega))
  have c99 := M1.out.1.cell 99 (by rw [HL.out]; omega)
  have f99 := M1.out.1.free 99
  generalize hz9 : nth l 99 = z9 at *
  obtain rfl : z9 = 6 := by omega
  have m9 : min (7 : Int) 6 = 6 := by omega
  have m9' : min ((6 : Int) + 1) 6 = 6 := by omega
  go_upto_region 5 with fail
  clear c99 f99 M1
  generalize w1.setCell ⟨w.heap.size, 99, none⟩ (.int .i64 6) = W2 at *
  have B2 := hide (show w.heap.size + 1 < W2.heap.size from M2.out.2.1.lt)
  have B2' := hide (show w.heap.size ≤ W2.heap.size from M2.out.2.2.size)
  refine wp_region_G 11 (GrownW W2) 13 (by rfl) #[false, false, false, false, false, false, false, false, false, false, false, false, false] (by rfl) (by kernel_rfl) (fun hcl => ?_)
  have hHeld := (gw_start W2)
  refine wpAnyG_take (i := 0) (v := .agg (memC l1 s).toArray) rfl (by kernel_rfl) hcl (fun _ _ _ h => h) (Or.inl ⟨by rfl, ?yea0⟩) hHeld (fun hcl => ?rea0)
  case yea0 => (intro w' hSw; (try dsimp only at hSw); exact yields_load_v rfl rfl (M2.out.1.keep hSw) _ Tryz.underlying30 rfl size102 (by rw [C1.out]; omega) _ A1.out)
  (try simp only [Act.put, sL])
  refine wpAnyG_take (i := 1) (v := ?vea1) rfl (by kernel_rfl) hcl (fun _ _ _ h => h) (Or.inl ⟨by rfl, ?yea1⟩) hHeld (fun hcl => ?rea1)
  case yea1 => (intro w' hSw; (try dsimp only at hSw); go_simp; (try with_reducible rfl))
  (try simp only [Act.put, sL])
  refine wpAnyG_take (i := 2) (v := .int .i64 g0) rfl (by kernel_rfl) hcl (fun _ _ _ h => h) (Or.inl ⟨by rfl, ?yea2⟩) hHeld (fun hcl => ?rea2)
  case yea2 => (intro w' hSw; (try dsimp only at hSw); have cc := (M2.out.1.keep hSw).cell 96 (by rw [L1.out]; omega); rw [E96.out] at cc; go_simp; (try with_reducible rfl))
  (try simp only [Act.put, sL])
  refine wpAnyG_take (i := 3) (v := ?vea3) rfl (by kernel_rfl) hcl (fun _ _ _ h => h) (Or.inl ⟨by rfl, ?yea3⟩) hHeld (fun hcl => ?rea3)
  case yea3 => (intro w' hSw; (try dsimp only at hSw); go_simp; (try with_reducible rfl))
  (try simp only [Act.put, sL])
  refine wpAnyG_take (i := 4) (v := .int .i64 er) rfl (by kernel_rfl) hcl (fun _ _ _ h => h) (Or.inl ⟨by rfl, ?yea4⟩) hHeld (fun hcl => ?rea4)
  case yea4 => (intro w' hSw; (try dsimp only at hSw); have cc := (M2.out.1.keep hSw).cell 99 (by rw [L1.out]; omega); rw [E99.out] at cc; go_simp; (try with_reducible rfl))
  (try simp only [Act.put, sL])
  refine wpAnyG_exec (i := 5) rfl (by kernel_rfl) hcl (fun K hK => ?_)
  (try simp only [Act.put, sL])
  go_simp
  refine (gaiFade_any g0 er _).mono ?_
  rintro e w1 ⟨rfl, rfl⟩
  rw [FD1.out]
  go_wp2_with fail
  have hNew := hHeld
  refine hK.out _ _ (fun _ => hNew) (fun hcl => ?_)
  clear hK
  replace hHeld := hNew
  clear hNew
  (try simp only [Act.put, sL])
  refine wpAnyG_take (i := 6) (v := .int .i64 sz) rfl (by kernel_rfl) hcl (fun _ _ _ h => h) (Or.inl ⟨by rfl, ?yea6⟩) hHeld (fun hcl => ?rea6)
  case yea6 => (intro w' hSw; (try dsimp only at hSw); go_simp; (try simp only [hsz1, hsz2, WSZ]))
  (try simp only [Act.put, sL])
  refine wpAnyG_exec (i := 7) rfl (by kernel_rfl) hcl (fun K hK => ?_)
  (try simp only [Act.put, sL])
  go_simp
  refine (NZ.out _).mono ?_
  rintro e w2 ⟨v2, rfl, o2, q2⟩
  have Q2 := hide q2
  have O2 := hide (o2.base hHeld.size)
  clear q2 o2
  go_wp2_with fail
  have hNew := (gw_trans hHeld Q2.out)
  refine hK.out _ _ (fun _ => hNew) (fun hcl => ?_)
  clear hK
  replace hHeld := hNew
  clear hNew
  (try simp only [Act.put, sL])
  refine wpAnyG_take (i := 8) (v := ?vea8) rfl (by kernel_rfl) hcl (fun _ _ _ h => h) (Or.inl ⟨by rfl, ?yea8⟩) hHeld (fun hcl => ?rea8)
  case yea8 => (intro w' hSw; (try dsimp only at hSw); go_simp; (try with_reducible rfl))
  (try simp only [Act.put, sL])
  refine wpAnyG_take (i := 9) (v := ?vea9) rfl (by kernel_rfl) hcl (fun _ _ _ h => h) (Or.inl ⟨by rfl, ?yea9⟩) hHeld (fun hcl => ?rea9)
  case yea9 => (intro w' hSw; (try dsimp only at hSw); go_simp; (try with_reducible rfl))
  (try simp only [Act.put, sL])
  refine wpAnyG_takeF (i := 10) (v := ?vea10) rfl (by kernel_rfl) hcl (fun _ _ _ h => h) (Or.inl ⟨by rfl, ?yea10⟩) hHeld (fun hcl => ?rea10)
  case yea10 => (intro w' _; go_simp; (try with_reducible rfl))
  (try simp only [Act.put, sL])
  refine wpAnyG_exec (i := 11) rfl (by kernel_rfl) hcl (fun K hK => ?_)
  (try simp only [Act.put, sL])
  have M3p := hide (M2.out.keep hHeld)
  have M3' := M3p.out.putP (l1.set 100 sd) s L1.out L2.out
  have M3 := hide M3'.1
  have O3 := hide (O2.out.keepLt M3'.2 (by have := B2.out; omega))
  clear O2 M3'
  refine step_store_v rfl 30 _ _ rfl w.heap.size 0 30 (memC l1 s) (memC (l1.set 100 sd) s) rfl rfl M3p.out.1 (by rw [C1.out, C2.out]; omega) (by rw [C2.out]; exact size102) ON1.out ?_
  refine hK.out _ _ (fun h => by cases h) (fun hcl => ?_)
  clear hK hHeld
  (try simp only [Act.put, sL])
  clear M3p M2 Q2
  generalize putV w2 w.heap.size 0 (memC (l1.set 100 sd) s) = W3 at *
  refine wpAnyG_of_any _ _ _ _ (by rfl) ?_
  refine wpAny_take (i := 12) (v := ?vea12) rfl (by kernel_rfl) (by kernel_rfl) (by kernel_rfl) (fun _ _ _ h => h) (Or.inl ⟨by rfl, ?yea12⟩) ?rea12
  case yea12 => (intro w'; go_simp; (try with_reducible rfl))
  (try simp only [Act.put, sL])
  refine wpAny_done (by kernel_rfl) ?_ _
  clear NZ
  go_upto_region 6 with fail
  refine wp_region_held_drew (S := GrownW W3) (by kernel_rfl) (gw_start _) (fun hHeld => ?_)
  refine wpAnyH_take (i := 0) (v := ?veb0) rfl (by kernel_rfl) (by kernel_rfl) (by kernel_rfl) (fun _ _ _ h => h) (Or.inl ⟨by rfl, ?yeb0⟩) hHeld ?reb0
  case yeb0 => (intro w' hSw; go_simp; (try with_reducible rfl))
  (try simp only [Act.put, sL])
  refine wpAnyH_take (i := 1) (v := .agg (intsV (prt l 16 80)).toArray) rfl (by kernel_rfl) (by kernel_rfl) (by kernel_rfl) (fun _ _ _ h => h) (Or.inl ⟨by rfl, ?yeb1⟩) hHeld ?reb1
  case yeb1 => (intro w' hSw; exact yields_load_v rfl rfl (M3.out.1.keep hSw) _ Tryz.underlying28 rfl size80c (by rw [C2.out]; omega) _ P2.out)
  (try simp only [Act.put, sL])
  refine wpAnyH_take (i := 2) (v := ?veb2) rfl (by kernel_rfl) (by kernel_rfl) (by kernel_rfl) (fun _ _ _ h => h) (Or.inl ⟨by rfl, ?yeb2⟩) hHeld ?reb2
  case yeb2 => (intro w' hSw; go_simp; (try with_reducible rfl))
  (try simp only [Act.put, sL])
  refine wpAnyH_take (i := 3) (v := .int .i64 lg) rfl (by kernel_rfl) (by kernel_rfl) (by kernel_rfl) (fun _ _ _ h => h) (Or.inl ⟨by rfl, ?yeb3⟩) hHeld ?reb3
  case yeb3 => (intro w' hSw; have cc := (M3.out.1.keep hSw).cell 98 (by rw [L2.out]; omega); rw [D98.out] at cc; go_simp; (try with_reducible rfl))
  (try simp only [Act.put, sL])
  refine wpAnyH_take (i := 4) (v := ?veb4) rfl (by kernel_rfl) (by kernel_rfl) (by kernel_rfl) (fun _ _ _ h => h) (Or.inl ⟨by rfl, ?yeb4⟩) hHeld ?reb4
  case yeb4 => (intro w' hSw; go_simp; (try with_reducible rfl))
  (try simp only [Act.put, sL])
  refine wpAnyH_take (i := 5) (v := .int .i64 p0) rfl (by kernel_rfl) (by kernel_rfl) (by kernel_rfl) (fun _ _ _ h => h) (Or.inl ⟨by rfl, ?yeb5⟩) hHeld ?reb5
  case yeb5 => (intro w' hSw; have cc := (M3.out.1.keep hSw).cell 97 (by rw [L2.out]; omega); rw [D97.out] at cc; go_simp; (try with_reducible rfl))
  (try simp only [Act.put, sL])
  refine wpAnyH_take (i := 6) (v := ?veb6) rfl (by kernel_rfl) (by kernel_rfl) (by kernel_rfl) (fun _ _ _ h => h) (Or.inl ⟨by rfl, ?yeb6⟩) hHeld ?reb6
  case yeb6 => (intro w' hSw; go_simp; (try with_reducible rfl))
  (try simp only [Act.put, sL])
  refine wpAnyH_take (i := 7) (v := .int .i64 er) rfl (by kernel_rfl) (by kernel_rfl) (by kernel_rfl) (fun _ _ _ h => h) (Or.inl ⟨by rfl, ?yeb7⟩) hHeld ?reb7
  case yeb7 => (intro w' hSw; have cc := (M3.out.1.keep hSw).cell 99 (by rw [L2.out]; omega); rw [D99.out] at cc; go_simp; (try with_reducible rfl))
  (try simp only [Act.put, sL])
  refine wpAnyH_take (i := 9) (v := ?veb9) rfl (by kernel_rfl) (by kernel_rfl) (by kernel_rfl) (fun _ _ _ h => h) (Or.inl ⟨by rfl, ?yeb9⟩) hHeld ?reb9
  case yeb9 => (intro w' hSw; go_simp; (try with_reducible rfl))
  (try simp only [Act.put, sL])
  refine wpAnyH_ready (rs := [8]) (by kernel_rfl) (by simp) (AllReadyH.cons rfl (fun K hK => ?_) AllReadyH.nil)
  (try simp only [Act.put, sL])
  go_simp
  refine (gaiFade_any p0 er _).mono ?_
  rintro e w3 ⟨rfl, rfl⟩
  rw [FD2.out]
  go_wp2_with fail
  refine hK.out _ _ hHeld (fun hHeld => ?_)
  clear hK
  (try simp only [Act.put, sL])
  refine wpAnyH_ready (rs := [10]) (by kernel_rfl) (by simp) (AllReadyH.cons rfl (fun K hK => ?_) AllReadyH.nil)
  (try simp only [Act.put, sL])
  go_simp
  refine (MX.out v2 _ (O3.out.keep hHeld).ints).mono ?_
  rintro e w4 ⟨v4, rfl, o4, q4⟩
  have Q4 := hide q4
  have O4 := hide (o4.base hHeld.size)
  clear q4 o4
  go_wp2_with fail
  refine hK.out _ _ (gw_trans hHeld Q4.out) (fun hHeld => ?_)
  clear hK
  (try simp only [Act.put, sL])
  clear Q4
  refine wpAnyH_take (i := 11) (v := ?veb11) rfl (by kernel_rfl) (by kernel_rfl) (by kernel_rfl) (fun _ _ _ h => h) (Or.inl ⟨by rfl, ?yeb11⟩) hHeld ?reb11
  case yeb11 => (intro w' hSw; go_simp; (try with_reducible rfl))
  (try simp only [Act.put, sL])
  refine wpAnyH_take (i := 12) (v := ?veb12) rfl (by kernel_rfl) (by kernel_rfl) (by kernel_rfl) (fun _ _ _ h => h) (Or.inl ⟨by rfl, ?yeb12⟩) hHeld ?reb12
  case yeb12 => (intro w' hSw; go_simp; (try with_reducible rfl))
  (try simp only [Act.put, sL])
  refine wpAnyH_take (i := 13) (v := ?veb13) rfl (by kernel_rfl) (by kernel_rfl) (by kernel_rfl) (fun _ _ _ h => h) (Or.inl ⟨by rfl, ?yeb13⟩) hHeld ?reb13
  case yeb13 => (intro w' hSw; go_simp; (try with_reducible rfl))
  (try simp only [Act.put, sL])
  refine wpAnyH_take (i := 14) (v := ?veb14) rfl (by kernel_rfl) (by kernel_rfl) (by kernel_rfl) (fun _ _ _ h => h) (Or.inl ⟨by rfl, ?yeb14⟩) hHeld ?reb14
  case yeb14 => (intro w' hSw; go_simp; (try with_reducible rfl))
  (try simp only [Act.put, sL])
  refine wpAnyH_take (i := 15) (v := ?veb15) rfl (by kernel_rfl) (by kernel_rfl) (by kernel_rfl) (fun _ _ _ h => h) (Or.inl ⟨by rfl, ?yeb15⟩) hHeld ?reb15
  case yeb15 => (intro w' hSw; go_simp; (try with_reducible rfl))
  (try simp only [Act.put, sL])
  refine wpAnyH_done (by kernel_rfl) ?_ _
  have M4' := hide (M3.out.keep hHeld)
  have O4' := hide O4.out
  have BL := hide (show w.heap.size + 1 < W3.heap.size from M3.out.2.1.lt)
  have B1 := hide (show w.heap.size ≤ W3.heap.size from M3.out.2.2.size)
  clear M3 O3 O4 hHeld MX P2
  go_upto_region 7 with fail
  have L1' := L2
  have P3 := hide (BlkM.part (l := l1.set 100 sd) s 16 80 (by rw [L1'.out]; omega))
  rw [PS2.out, PS.out] at P3
  have C3 := C2
  have KK := hide (KP.out v4 w4 O4'.out.ints)
  have M3 := M4'
  have O3 := O4'
  clear KP PS PS2 M4' O4' D97 D98 D99 E96 E97 E98 E99 E100
  go_wp2_with (first | refine wpList_load_v rfl 28 _ rfl w.heap.size 16 80 rfl 30 (memC (l1.set 100 sd) s) M3.out.1 _ Tryz.underlying28 rfl size80c (by rw [C3.out]; omega) _ P3.out ?_)
  refine KK.out.mono ?_
  rintro e W4 ⟨rfl, g4⟩
  have M4 := hide (M3.out.keep g4)
  have O4 := hide (O3.out.keep g4)
  clear KK M3 O3 g4 P3
  generalize kpA (prt l 16 80) X = R at *
  have M5 := hide (M4.out.put 16 R (by rw [KL.out, L1'.out]; omega))
  have O5 := hide (O4.out.keepLt (M4.out.1.put 16 R (by rw [KL.out, L1'.out]; omega)).2 (by have := BL.out; omega))
  have I_ := hide (intsV_one R)
  have IL := hide (show (intsV R).length = 80 by rw [intsV_len]; exact KL.out)
  clear O4
  go_upto_region 8 with (first | refine wpList_store_v rfl 28 _ _ rfl w.heap.size 16 30 (memC (l1.set 100 sd) s) (intsV R) rfl rfl M4.out.1 (by rw [IL.out, C3.out]; omega) (by rw [IL.out]; exact size80c) I_.out ?_)
  (try simp only [Act.put])
  clear M4 I_ IL C3
  generalize putV W4 w.heap.size 16 (intsV R) = W5 at *
  have L5 := hide (show (ovr (l1.set 100 sd) 16 R).length = 101 by rw [ovr_len]; exact L1'.out)
  generalize ovr (l1.set 100 sd) 16 R = m at *
  have A5 := hide (BlkM.all s L5.out)
  have C5 := hide (memC_len L5.out s)
  have ON := hide (memC_one m s)
  have PB := hide (M5.out.fin m s L5.out)
  have O6 := hide (O5.out.keepLt (M5.out.2.1.putAll (m := m) (t := s) (zeros_len 101) L5.out).2 BL.out)
  have FF := hide (F.out _ _ (O6.out.base B1.out) PB.out.2)
  clear F O5 O6
  go_wp2_with (first | refine wpList_load_v rfl 30 _ rfl w.heap.size 0 102 rfl 30 (memC m s) M5.out.1 _ Tryz.underlying30 rfl size102 (by rw [C5.out]; omega) _ A5.out ?_ | refine wpList_store_v rfl 30 _ _ rfl (w.heap.size + 1) 0 30 (memC (zeros 101) false) (memC m s) rfl rfl M5.out.2.1 (by rw [ZL.out, C5.out]; omega) (by rw [C5.out]; exact size102) ON.out ?_)
  have hlv := loadVar_v PB.out.1 _ Tryz.underlying30 rfl (by rw [C5.out]; exact size102)
  refine bodyPost_ret (v := .tuple #[.agg (memC m s).toArray, _, .int .i64 0]) ?_ rfl FF.out
  simp [results, Tryz.results48, asAddr, Act.put, hlv]
set_option maxRecDepth 100000 in
theorem conErased_two (l : List Int) (s : Bool) (half : Int) (hl : l.length = 101) (hg : goodM l = true) (hh : half = 1) (w : World) : Calls Tryz.prog 48 #[memV l s, .int .i64 half] w (MemE w (erM l half) (erS l half s) (erL l half) (erE l half)) := by
  have M0 := hide (MmS.new w l s)
  have GD := hide (fun wr => conGood_any l s hl wr)
  have h64 := good_64 hl hg
  have hk : erO l half := ⟨hg, by omega, by omega⟩
  have EB := erN_bd l half hg
  rw [hg] at GD
  have WI := hide (fun u => conWithin_any half 0 1 u)
  rw [decide_eq_true (show 0 ≤ half ∧ half ≤ 1 by omega)] at WI
  have hx3 : (half == 0) = false := beq_eq_false_iff_ne.2 (by omega)
  have h60 : 0 ≤ nth l 99 ∧ nth l 99 ≤ 6 := (goodM_iff l).1 hg 99 (by omega)
  obtain ⟨er, her⟩ : ∃ er, erN l half = er := ⟨_, rfl⟩
  obtain ⟨f1, hf1⟩ : ∃ f1, fdV (nth l 96) er = f1 := ⟨_, rfl⟩
  obtain ⟨f2, hf2⟩ : ∃ f2, fdV (nth l 97) er = f2 := ⟨_, rfl⟩
  obtain ⟨sz, hsz⟩ : ∃ sz, f1 / 4 = sz := ⟨_, rfl⟩
  obtain ⟨l1, hl1⟩ : ∃ l1, l = l1 := ⟨_, rfl⟩
  have E1 : l1 = l.set 99 er := by rw [← hl1, ← her]; unfold erN; rw [if_neg (fun k => by omega), set_self l 99 (by omega)]
  have L1 := hide (show l1.length = 101 by rw [E1, List.length_set]; exact hl)
  have E96 := hide (show nth l1 96 = nth l 96 by rw [E1, setN _ _ _ (by omega), if_neg (by omega)])
  have E97 := hide (show nth l1 97 = nth l 97 by rw [E1, setN _ _ _ (by omega), if_neg (by omega)])
  have E98 := hide (show nth l1 98 = nth l 98 by rw [E1, setN _ _ _ (by omega), if_neg (by omega)])
  have E99 := hide (show nth l1 99 = er by rw [E1, setN _ _ _ (by omega), if_pos rfl])
  have E100 := hide (show nth l1 100 = nth l 100 by rw [E1, setN _ _ _ (by omega), if_neg (by omega)])
  have D97 := hide (show ∀ z, nth (l1.set 100 z) 97 = nth l 97 from fun z => by rw [setN _ _ _ (by rw [L1.out]; omega), if_neg (by omega)]; exact E97.out)
  have D98 := hide (show ∀ z, nth (l1.set 100 z) 98 = nth l 98 from fun z => by rw [setN _ _ _ (by rw [L1.out]; omega), if_neg (by omega)]; exact E98.out)
  have D99 := hide (show ∀ z, nth (l1.set 100 z) 99 = er from fun z => by rw [setN _ _ _ (by rw [L1.out]; omega), if_neg (by omega)]; exact E99.out)
  have NZ := hide (fun wr => conNoise_any l1 s sz L1.out wr)
  rw [E100.out] at NZ
  have EZ : nzL (nth l 100) sz 40 = erZ l half := by unfold erZ; rw [her, hf1, hsz]
  rw [EZ] at NZ
  have MO := er_mix l half hg
  rw [her, hf2] at MO
  have MX := hide (fun v wr (hv : Ints wr v (erZ l half)) => conMix_any (prt l 16 80) (nth l 98) f2 v (erZ l half) wr (prt_len _ _ _) hv (by rw [erZ_len]; omega))
  rw [(mxL_yes (h := prt l 16 80) MO).1, (mxL_yes (h := prt l 16 80) MO).2] at MX
  have EX : mxA (pasL (prt l 16 80) (nth l 98)) f2 (erZ l half) = erX l half := by unfold erX; rw [her, hf2]
  rw [EX] at MX
  have KP := hide (fun v wr (hv : Ints wr v (erX l half)) => conKeep_any (prt l 16 80) v (erX l half) wr (prt_len _ _ _) hv (by rw [erX_len]; omega))
  rw [(kpL_yes (h := prt l 16 80) (erX_len l half)).1, (kpL_yes (h := prt l 16 80) (erX_len l half)).2] at KP
  have KL := hide (kpA_len (prt l 16 80) (erX l half))
  have F := hide (show ∀ v' w', Own w.heap.size w' v' (erX l half) → w.grownBy w' none → MemE w (erM l half) (erS l half s) (erL l half) (erE l half) (.returned (.tuple #[memV (ovr (l1.set 100 (sdN (nth l 100) 40)) 16 (kpA (prt l 16 80) (erX l half))) s, v', .int .i64 0])) w' from fun v' w' o q =>
    ⟨v', by rw [(er_yes (s := s) hk).1, (er_yes (s := s) hk).2.1, (er_yes (s := s) hk).2.2.2]; unfold memT; rw [her, E1], by rw [(er_yes (s := s) hk).2.2.1]; exact o, q⟩)
  have PS := hide (show prt l1 16 80 = prt l 16 80 by rw [E1]; exact prt_set l 99 _ 16 80 (by omega) (.inr (by omega)))
  have PS2 := hide (fun z => prt_set l1 100 z 16 80 (by rw [L1.out]; omega) (.inr (by omega)))
  have CL := hide (memC_len hl s)
  have AL := hide (BlkM.all s hl)
  have C1 := hide (memC_len L1.out s)
  have A1 := hide (BlkM.all s L1.out)
  have ZL := hide (memC_len (zeros_len 101) false)
  have HL := hide hl
  have fb := fdV_bd (nth l 96) er
  rw [hf1] at fb
  have FD1 := hide hf1
  have FD2 := hide hf2
  have hsz1 : f1.tdiv 4 = sz := by rw [Int.tdiv_eq_ediv_of_nonneg fb.1]; exact hsz
  have hsz2 : f1 / 4 = sz := hsz
  have WSZ := wrapI sz (by omega) (by omega)
  have hz := zero_mem
  have HL1 := hide hl1
  clear hg h64 hl hf1 hf2 hsz EZ EX MO hk E1 hl1 fb hh her
  generalize MemE w (erM l half) (erS l half s) (erL l half) (erE l half) = T at *
  unfold NsE at NZ
  unfold memV at hz F GD NZ ⊢
  generalize erX l half = X at *
  generalize erZ l half = N at *
  generalize sdN (nth l 100) 40 = sd at *
  generalize nth l 96 = g0 at *
  generalize nth l 97 = p0 at *
  generalize nth l 98 = lg at *
  replace D97 := hide (D97.out sd)
  replace D98 := hide (D98.out sd)
  replace D99 := hide (D99.out sd)
  have L2 := hide (show (l1.set 100 sd).length = 101 by rw [List.length_set]; exact L1.out)
  have C2 := hide (memC_len L2.out s)
  have ON1 := hide (memC_one (l1.set 100 sd) s)
  have P2 := hide (BlkM.part (l := l1.set 100 sd) s 16 80 (by rw [L2.out]; omega))
  rw [PS2.out, PS.out] at P2
  go_enter Tryz.func48, Tryz.ntmps48
  go_upto_region 1 with fail
  generalize (w.alloc (.cells (memC l s).toArray 30)).alloc (.cells (memC (zeros 101) false).toArray 30) = W0 at *
  clear hz
  go_wp2_with (refine wpList_load_v rfl 30 _ rfl w.heap.size 0 102 rfl 30 (memC l s) M0.out.1 _ Tryz.underlying30 rfl size102 (by rw [CL.out]; omega) _ AL.out ?_)
  refine (GD.out W0).mono ?_
  rintro e W1 ⟨rfl, g1⟩
  have M1 := hide (M0.out.keep g1)
  clear M0 g1 GD
  go_wp2_with fail
  refine (WI.out _).mono ?_
  rintro e w1 ⟨rfl, rfl⟩
  clear WI
  go_upto_region 5 with fail
  have M2 := hide (show MmS w l1 s w1 from by rw [← HL1.out]; exact M1.out)
  clear M1
  generalize hW2 : w1 = W2 at *
  clear hW2
  have B2 := hide (show w.heap.size + 1 < W2.heap.size from M2.out.2.1.lt)
  have B2' := hide (show w.heap.size ≤ W2.heap.size from M2.out.2.2.size)
  refine wp_region_G 11 (GrownW W2) 13 (by rfl) #[false, false, false, false, false, false, false, false, false, false, false, false, false] (by rfl) (by kernel_rfl) (fun hcl => ?_)
  have hHeld := (gw_start W2)
  refine wpAnyG_take (i := 0) (v := .agg (memC l1 s).toArray) rfl (by kernel_rfl) hcl (fun _ _ _ h => h) (Or.inl ⟨by rfl, ?yea0⟩) hHeld (fun hcl => ?rea0)
  case yea0 => (intro w' hSw; (try dsimp only at hSw); exact yields_load_v rfl rfl (M2.out.1.keep hSw) _ Tryz.underlying30 rfl size102 (by rw [C1.out]; omega) _ A1.out)
  (try simp only [Act.put, sL])
  refine wpAnyG_take (i := 1) (v := ?vea1) rfl (by kernel_rfl) hcl (fun _ _ _ h => h) (Or.inl ⟨by rfl, ?yea1⟩) hHeld (fun hcl => ?rea1)
  case yea1 => (intro w' hSw; (try dsimp only at hSw); go_simp; (try with_reducible rfl))
  (try simp only [Act.put, sL])
  refine wpAnyG_take (i := 2) (v := .int .i64 g0) rfl (by kernel_rfl) hcl (fun _ _ _ h => h) (Or.inl ⟨by rfl, ?yea2⟩) hHeld (fun hcl => ?rea2)
  case yea2 => (intro w' hSw; (try dsimp only at hSw); have cc := (M2.out.1.keep hSw).cell 96 (by rw [L1.out]; omega); rw [E96.out] at cc; go_simp; (try with_reducible rfl))
  (try simp only [Act.put, sL])
  refine wpAnyG_take (i := 3) (v := ?vea3) rfl (by kernel_rfl) hcl (fun _ _ _ h => h) (Or.inl ⟨by rfl, ?yea3⟩) hHeld (fun hcl => ?rea3)
  case yea3 => (intro w' hSw; (try dsimp only at hSw); go_simp; (try with_reducible rfl))
  (try simp only [Act.put, sL])
  refine wpAnyG_take (i := 4) (v := .int .i64 er) rfl (by kernel_rfl) hcl (fun _ _ _ h => h) (Or.inl ⟨by rfl, ?yea4⟩) hHeld (fun hcl => ?rea4)
  case yea4 => (intro w' hSw; (try dsimp only at hSw); have cc := (M2.out.1.keep hSw).cell 99 (by rw [L1.out]; omega); rw [E99.out] at cc; go_simp; (try with_reducible rfl))
  (try simp only [Act.put, sL])
  refine wpAnyG_exec (i := 5) rfl (by kernel_rfl) hcl (fun K hK => ?_)
  (try simp only [Act.put, sL])
  go_simp
  refine (gaiFade_any g0 er _).mono ?_
  rintro e w1 ⟨rfl, rfl⟩
  rw [FD1.out]
  go_wp2_with fail
  have hNew := hHeld
  refine hK.out _ _ (fun _ => hNew) (fun hcl => ?_)
  clear hK
  replace hHeld := hNew
  clear hNew
  (try simp only [Act.put, sL])
  refine wpAnyG_take (i := 6) (v := .int .i64 sz) rfl (by kernel_rfl) hcl (fun _ _ _ h => h) (Or.inl ⟨by rfl, ?yea6⟩) hHeld (fun hcl => ?rea6)
  case yea6 => (intro w' hSw; (try dsimp only at hSw); go_simp; (try simp only [hsz1, hsz2, WSZ]))
  (try simp only [Act.put, sL])
  refine wpAnyG_exec (i := 7) rfl (by kernel_rfl) hcl (fun K hK => ?_)
  (try simp only [Act.put, sL])
  go_simp
  refine (NZ.out _).mono ?_
  rintro e w2 ⟨v2, rfl, o2, q2⟩
  have Q2 := hide q2
  have O2 := hide (o2.base hHeld.size)
  clear q2 o2
  go_wp2_with fail
  have hNew := (gw_trans hHeld Q2.out)
  refine hK.out _ _ (fun _ => hNew) (fun hcl => ?_)
  clear hK
  replace hHeld := hNew
  clear hNew
  (try simp only [Act.put, sL])
  refine wpAnyG_take (i := 8) (v := ?vea8) rfl (by kernel_rfl) hcl (fun _ _ _ h => h) (Or.inl ⟨by rfl, ?yea8⟩) hHeld (fun hcl => ?rea8)
  case yea8 => (intro w' hSw; (try dsimp only at hSw); go_simp; (try with_reducible rfl))
  (try simp only [Act.put, sL])
  refine wpAnyG_take (i := 9) (v := ?vea9) rfl (by kernel_rfl) hcl (fun _ _ _ h => h) (Or.inl ⟨by rfl, ?yea9⟩) hHeld (fun hcl => ?rea9)
  case yea9 => (intro w' hSw; (try dsimp only at hSw); go_simp; (try with_reducible rfl))
  (try simp only [Act.put, sL])
  refine wpAnyG_takeF (i := 10) (v := ?vea10) rfl (by kernel_rfl) hcl (fun _ _ _ h => h) (Or.inl ⟨by rfl, ?yea10⟩) hHeld (fun hcl => ?rea10)
  case yea10 => (intro w' _; go_simp; (try with_reducible rfl))
  (try simp only [Act.put, sL])
  refine wpAnyG_exec (i := 11) rfl (by kernel_rfl) hcl (fun K hK => ?_)
  (try simp only [Act.put, sL])
  have M3p := hide (M2.out.keep hHeld)
  have M3' := M3p.out.putP (l1.set 100 sd) s L1.out L2.out
  have M3 := hide M3'.1
  have O3 := hide (O2.out.keepLt M3'.2 (by have := B2.out; omega))
  clear O2 M3'
  refine step_store_v rfl 30 _ _ rfl w.heap.size 0 30 (memC l1 s) (memC (l1.set 100 sd) s) rfl rfl M3p.out.1 (by rw [C1.out, C2.out]; omega) (by rw [C2.out]; exact size102) ON1.out ?_
  refine hK.out _ _ (fun h => by cases h) (fun hcl => ?_)
  clear hK hHeld
  (try simp only [Act.put, sL])
  clear M3p M2 Q2
  generalize putV w2 w.heap.size 0 (memC (l1.set 100 sd) s) = W3 at *
  refine wpAnyG_of_any _ _ _ _ (by rfl) ?_
  refine wpAny_take (i := 12) (v := ?vea12) rfl (by kernel_rfl) (by kernel_rfl) (by kernel_rfl) (fun _ _ _ h => h) (Or.inl ⟨by rfl, ?yea12⟩) ?rea12
  case yea12 => (intro w'; go_simp; (try with_reducible rfl))
  (try simp only [Act.put, sL])
  refine wpAny_done (by kernel_rfl) ?_ _
  clear NZ
  go_upto_region 6 with fail
  refine wp_region_held_drew (S := GrownW W3) (by kernel_rfl) (gw_start _) (fun hHeld => ?_)
  refine wpAnyH_take (i := 0) (v := ?veb0) rfl (by kernel_rfl) (by kernel_rfl) (by kernel_rfl) (fun _ _ _ h => h) (Or.inl ⟨by rfl, ?yeb0⟩) hHeld ?reb0
  case yeb0 => (intro w' hSw; go_simp; (try with_reducible rfl))
  (try simp only [Act.put, sL])
  refine wpAnyH_take (i := 1) (v := .agg (intsV (prt l 16 80)).toArray) rfl (by kernel_rfl) (by kernel_rfl) (by kernel_rfl) (fun _ _ _ h => h) (Or.inl ⟨by rfl, ?yeb1⟩) hHeld ?reb1
  case yeb1 => (intro w' hSw; exact yields_load_v rfl rfl (M3.out.1.keep hSw) _ Tryz.underlying28 rfl size80c (by rw [C2.out]; omega) _ P2.out)
  (try simp only [Act.put, sL])
  refine wpAnyH_take (i := 2) (v := ?veb2) rfl (by kernel_rfl) (by kernel_rfl) (by kernel_rfl) (fun _ _ _ h => h) (Or.inl ⟨by rfl, ?yeb2⟩) hHeld ?reb2
  case yeb2 => (intro w' hSw; go_simp; (try with_reducible rfl))
  (try simp only [Act.put, sL])
  refine wpAnyH_take (i := 3) (v := .int .i64 lg) rfl (by kernel_rfl) (by kernel_rfl) (by kernel_rfl) (fun _ _ _ h => h) (Or.inl ⟨by rfl, ?yeb3⟩) hHeld ?reb3
  case yeb3 => (intro w' hSw; have cc := (M3.out.1.keep hSw).cell 98 (by rw [L2.out]; omega); rw [D98.out] at cc; go_simp; (try with_reducible rfl))
  (try simp only [Act.put, sL])
  refine wpAnyH_take (i := 4) (v := ?veb4) rfl (by kernel_rfl) (by kernel_rfl) (by kernel_rfl) (fun _ _ _ h => h) (Or.inl ⟨by rfl, ?yeb4⟩) hHeld ?reb4
  case yeb4 => (intro w' hSw; go_simp; (try with_reducible rfl))
  (try simp only [Act.put, sL])
  refine wpAnyH_take (i := 5) (v := .int .i64 p0) rfl (by kernel_rfl) (by kernel_rfl) (by kernel_rfl) (fun _ _ _ h => h) (Or.inl ⟨by rfl, ?yeb5⟩) hHeld ?reb5
  case yeb5 => (intro w' hSw; have cc := (M3.out.1.keep hSw).cell 97 (by rw [L2.out]; omega); rw [D97.out] at cc; go_simp; (try with_reducible rfl))
  (try simp only [Act.put, sL])
  refine wpAnyH_take (i := 6) (v := ?veb6) rfl (by kernel_rfl) (by kernel_rfl) (by kernel_rfl) (fun _ _ _ h => h) (Or.inl ⟨by rfl, ?yeb6⟩) hHeld ?reb6
  case yeb6 => (intro w' hSw; go_simp; (try with_reducible rfl))
  (try simp only [Act.put, sL])
  refine wpAnyH_take (i := 7) (v := .int .i64 er) rfl (by kernel_rfl) (by kernel_rfl) (by kernel_rfl) (fun _ _ _ h => h) (Or.inl ⟨by rfl, ?yeb7⟩) hHeld ?reb7
  case yeb7 => (intro w' hSw; have cc := (M3.out.1.keep hSw).cell 99 (by rw [L2.out]; omega); rw [D99.out] at cc; go_simp; (try with_reducible rfl))
  (try simp only [Act.put, sL])
  refine wpAnyH_take (i := 9) (v := ?veb9) rfl (by kernel_rfl) (by kernel_rfl) (by kernel_rfl) (fun _ _ _ h => h) (Or.inl ⟨by rfl, ?yeb9⟩) hHeld ?reb9
  case yeb9 => (intro w' hSw; go_simp; (try with_reducible rfl))
  (try simp only [Act.put, sL])
  refine wpAnyH_ready (rs := [8]) (by kernel_rfl) (by simp) (AllReadyH.cons rfl (fun K hK => ?_) AllReadyH.nil)
  (try simp only [Act.put, sL])
  go_simp
  refine (gaiFade_any p0 er _).mono ?_
  rintro e w3 ⟨rfl, rfl⟩
  rw [FD2.out]
  go_wp2_with fail
  refine hK.out _ _ hHeld (fun hHeld => ?_)
  clear hK
  (try simp only [Act.put, sL])
  refine wpAnyH_ready (rs := [10]) (by kernel_rfl) (by simp) (AllReadyH.cons rfl (fun K hK => ?_) AllReadyH.nil)
  (try simp only [Act.put, sL])
  go_simp
  refine (MX.out v2 _ (O3.out.keep hHeld).ints).mono ?_
  rintro e w4 ⟨v4, rfl, o4, q4⟩
  have Q4 := hide q4
  have O4 := hide (o4.base hHeld.size)
  clear q4 o4
  go_wp2_with fail
  refine hK.out _ _ (gw_trans hHeld Q4.out) (fun hHeld => ?_)
  clear hK
  (try simp only [Act.put, sL])
  clear Q4
  refine wpAnyH_take (i := 11) (v := ?veb11) rfl (by kernel_rfl) (by kernel_rfl) (by kernel_rfl) (fun _ _ _ h => h) (Or.inl ⟨by rfl, ?yeb11⟩) hHeld ?reb11
  case yeb11 => (intro w' hSw; go_simp; (try with_reducible rfl))
  (try simp only [Act.put, sL])
  refine wpAnyH_take (i := 12) (v := ?veb12) rfl (by kernel_rfl) (by kernel_rfl) (by kernel_rfl) (fun _ _ _ h => h) (Or.inl ⟨by rfl, ?yeb12⟩) hHeld ?reb12
  case yeb12 => (intro w' hSw; go_simp; (try with_reducible rfl))
  (try simp only [Act.put, sL])
  refine wpAnyH_take (i := 13) (v := ?veb13) rfl (by kernel_rfl) (by kernel_rfl) (by kernel_rfl) (fun _ _ _ h => h) (Or.inl ⟨by rfl, ?yeb13⟩) hHeld ?reb13
  case yeb13 => (intro w' hSw; go_simp; (try with_reducible rfl))
  (try simp only [Act.put, sL])
  refine wpAnyH_take (i := 14) (v := ?veb14) rfl (by kernel_rfl) (by kernel_rfl) (by kernel_rfl) (fun _ _ _ h => h) (Or.inl ⟨by rfl, ?yeb14⟩) hHeld ?reb14
  case yeb14 => (intro w' hSw; go_simp; (try with_reducible rfl))
  (try simp only [Act.put, sL])
  refine wpAnyH_take (i := 15) (v := ?veb15) rfl (by kernel_rfl) (by kernel_rfl) (by kernel_rfl) (fun _ _ _ h => h) (Or.inl ⟨by rfl, ?yeb15⟩) hHeld ?reb15
  case yeb15 => (intro w' hSw; go_simp; (try with_reducible rfl))
  (try simp only [Act.put, sL])
  refine wpAnyH_done (by kernel_rfl) ?_ _
  have M4' := hide (M3.out.keep hHeld)
  have O4' := hide O4.out
  have BL := hide (show w.heap.size + 1 < W3.heap.size from M3.out.2.1.lt)
  have B1 := hide (show w.heap.size ≤ W3.heap.size from M3.out.2.2.size)
  clear M3 O3 O4 hHeld MX P2
  go_upto_region 7 with fail
  have L1' := L2
  have P3 := hide (BlkM.part (l := l1.set 100 sd) s 16 80 (by rw [L1'.out]; omega))
  rw [PS2.out, PS.out] at P3
  have C3 := C2
  have KK := hide (KP.out v4 w4 O4'.out.ints)
  have M3 := M4'
  have O3 := O4'
  clear KP PS PS2 M4' O4' D97 D98 D99 E96 E97 E98 E99 E100
  go_wp2_with (first | refine wpList_load_v rfl 28 _ rfl w.heap.size 16 80 rfl 30 (memC (l1.set 100 sd) s) M3.out.1 _ Tryz.underlying28 rfl size80c (by rw [C3.out]; omega) _ P3.out ?_)
  refine KK.out.mono ?_
  rintro e W4 ⟨rfl, g4⟩
  have M4 := hide (M3.out.keep g4)
  have O4 := hide (O3.out.keep g4)
  clear KK M3 O3 g4 P3
  generalize kpA (prt l 16 80) X = R at *
  have M5 := hide (M4.out.put 16 R (by rw [KL.out, L1'.out]; omega))
  have O5 := hide (O4.out.keepLt (M4.out.1.put 16 R (by rw [KL.out, L1'.out]; omega)).2 (by have := BL.out; omega))
  have I_ := hide (intsV_one R)
  have IL := hide (show (intsV R).length = 80 by rw [intsV_len]; exact KL.out)
  clear O4
  go_upto_region 8 with (first | refine wpList_store_v rfl 28 _ _ rfl w.heap.size 16 30 (memC (l1.set 100 sd) s) (intsV R) rfl rfl M4.out.1 (by rw [IL.out, C3.out]; omega) (by rw [IL.out]; exact size80c) I_.out ?_)
  (try simp only [Act.put])
  clear M4 I_ IL C3
  generalize putV W4 w.heap.size 16 (intsV R) = W5 at *
  have L5 := hide (show (ovr (l1.set 100 sd) 16 R).length = 101 by rw [ovr_len]; exact L1'.out)
  generalize ovr (l1.set 100 sd) 16 R = m at *
  have A5 := hide (BlkM.all s L5.out)
  have C5 := hide (memC_len L5.out s)
  have ON := hide (memC_one m s)
  have PB := hide (M5.out.fin m s L5.out)
  have O6 := hide (O5.out.keepLt (M5.out.2.1.putAll (m := m) (t := s) (zeros_len 101) L5.out).2 BL.out)
  have FF := hide (F.out _ _ (O6.out.base B1.out) PB.out.2)
  clear F O5 O6
  go_wp2_with (first | refine wpList_load_v rfl 30 _ rfl w.heap.size 0 102 rfl 30 (memC m s) M5.out.1 _ Tryz.underlying30 rfl size102 (by rw [C5.out]; omega) _ A5.out ?_ | refine wpList_store_v rfl 30 _ _ rfl (w.heap.size + 1) 0 30 (memC (zeros 101) false) (memC m s) rfl rfl M5.out.2.1 (by rw [ZL.out, C5.out]; omega) (by rw [C5.out]; exact size102) ON.out ?_)
  have hlv := loadVar_v PB.out.1 _ Tryz.underlying30 rfl (by rw [C5.out]; exact size102)
  refine bodyPost_ret (v := .tuple #[.agg (memC m s).toArray, _, .int .i64 0]) ?_ rfl FF.out
  simp [results, Tryz.results48, asAddr, Act.put, hlv]
theorem conErased_any (l : List Int) (s : Bool) (half : Int) (hl : l.length = 101) (w : World) : Calls Tryz.prog 48 #[memV l s, .int .i64 half] w (MemE w (erM l half) (erS l half s) (erL l half) (erE l half)) := by
  rcases hg : goodM l with _ | _
  · exact conErased_no1 l s half hl hg w
  · by_cases h1 : 0 ≤ half ∧ half ≤ 1
    · by_cases h3 : half = 0
      · by_cases h6 : nth l 99 < 6
        · exact conErased_up l s half hl hg h3 h6 w
        · exact conErased_top l s half hl hg h3 h6 w
      · exact conErased_two l s half hl hg (by omega) w
    · exact conErased_no2 l s half hl hg h1 w
end Go.Proofs.YtihphpcgjeokmaaGreatDoor

/- CodE -/
namespace Go.Proofs.YtihphpcgjeokmaaGreatDoor
open Go.RowKit
set_option linter.unusedVariables false
set_option linter.unusedSimpArgs false
set_option maxHeartbeats 4000000
theorem make_roomE (n : Nat) (h1 : n ≤ 35184372088832) (u : World) : (Instr.makeSlice 36 (.int .i64 0) (.int .i64 n)).run Tryz.prog u = .ok (.slice (some ⟨u.heap.size, 0, none⟩) 0 n) (u.alloc (.cells (arrI (zeros n)) 3)) := by
  obtain ⟨i0, hi, hz0, hz1, hz2⟩ := info_parts infoI64
  have h := run_make (P := Tryz.prog) u 36 3 i0 (.int .i64 0) Tryz.underlying36 hi hz0 .i64 .i64 0 n (Int.le_refl _) (by omega) (by rw [hz2]; omega) (by omega)
  have m := made_arrI (n := n)
  rw [show zeros n = List.replicate n 0 by unfold zeros; rfl, ← m]
  simpa [hz1, Value.cells] using h
theorem own_roomE {w : World} {b base n : Nat} (h : Blk w b 3 (zeros n)) (hb : base ≤ b) (hl : n ≤ 35184372088832) : Own base w (.slice (some ⟨b, 0, none⟩) 0 n) [] :=
  ⟨by simp, .inr ⟨b, n, arrI (zeros n), rfl, hb, h, Nat.zero_le _, by unfold maxLen; omega, by simp [arrI, zeros_len], by simp⟩⟩
theorem MmS.ownC {w : World} {l : List Int} {s : Bool} {wr wr' : World} {r : Option Nat} (h : MmS w l s wr) (g : wr.grownBy wr' r) (hr : ∀ x, r = some x → w.heap.size + 1 + 1 ≤ x) : MmS w l s wr' := by
  rcases r with _ | x
  · exact h.keep g
  · have := hr x rfl
    exact ⟨h.1.keepBut g (by omega), h.2.1.keepBut g (by omega), grown_own h.2.2 g (by omega)⟩
theorem MmS.allC {w : World} {l m : List Int} {s t : Bool} {wr : World} (h : MmS w l s wr) (hl : l.length = 101) (hm : m.length = 101) : MmS w m t (putV wr w.heap.size 0 (memC m t)) ∧ wr.grownBy (putV wr w.heap.size 0 (memC m t)) (some w.heap.size) := by
  have := h.1.putAll (m := m) (t := t) hl hm
  exact ⟨⟨this.1, h.2.1.keepBut this.2 (by omega), grown_own h.2.2 this.2 (Nat.le_refl _)⟩, this.2⟩
set_option maxRecDepth 100000 in
theorem codMadeUp_any (l : List Int) (s : Bool) (hl : l.length = 101) (hg : goodM l = true) (w : World) : Calls Tryz.prog 27 #[memV l s] w (MmL w (eaM (eaA l) l 2) s (eaO (eaA l) l 2)) := by
  have M0 := hide (MmS.new w l s)
  have DI := hide (fun wr => direct_any (prt l 0 8) (prt_len _ _ _) wr)
  have EX := hide (fun wr => expand_any (dirL (prt l 0 8)) (dirL_len _) 32440 wr)
  rw [show expL (dirL (prt l 0 8)) 32440 = eaA l from rfl] at EX
  have ER := hide (show ∀ (k : Nat), k < 2 → ∀ wr, Calls Tryz.prog 48 #[memV (eaM (eaA l) l k) s, .int .i64 (k : Int)] wr (MemE wr (erM (eaM (eaA l) l k) k) s (erL (eaM (eaA l) l k) k) 0) from fun k hk wr => by
    have g := eaM_good (eaA l) l hl (eaA_wide hg) hg k (by omega)
    have n := eaM_len (eaA l) l hl k
    have o : erO (eaM (eaA l) l k) (k : Int) := ⟨g, by omega, by omega⟩
    have c := conErased_any (eaM (eaA l) l k) s (k : Int) n wr
    rw [(er_yes (s := s) o).2.1, (er_yes (s := s) o).2.2.2] at c
    exact c)
  have EN := hide (fun (k : Nat) (hk : k < 2) => show (erL (eaM (eaA l) l k) k).length = 40 by
    have g := eaM_good (eaA l) l hl (eaA_wide hg) hg k (by omega)
    rw [(er_yes (s := true) (l := eaM (eaA l) l k) (half := (k : Int)) ⟨g, by omega, by omega⟩).2.2.1, erX_len])
  have ON := hide (fun (k : Nat) (hk : k ≤ 2) => (eaO_right (eaA l) l hl (eaA_wide hg) hg k hk).1)
  have SN := hide (fun (k : Nat) (hk : k < 2) => show (souL (eaA l) (erM (eaM (eaA l) l k) k) (erL (eaM (eaA l) l k) k)).length ≤ 40 by
    have := mkL_le (eaA l) (prt (erM (eaM (eaA l) l k) k) 8 8) (erL (eaM (eaA l) l k) k)
    rw [EN.out k hk] at this
    exact this)
  have LM := hide (fun (k : Nat) => eaM_len (eaA l) l hl k)
  have LE := hide (fun (k : Nat) => erM_lenE (eaM (eaA l) l k) (eaM_len (eaA l) l hl k) (k : Int))
  have F := hide (show ∀ v' w', Own w.heap.size w' v' (eaO (eaA l) l 2) → w.grownBy w' none → MmL w (eaM (eaA l) l 2) s (eaO (eaA l) l 2) (.returned (.tuple #[memV (eaM (eaA l) l 2) s, v'])) w' from fun v' w' o q => ⟨v', rfl, o, q⟩)
  have AN := hide (show (eaA l).length = 9 from expL_len _ _)
  have DN := hide (dirL_len (prt l 0 8))
  have SP := hide (fun (k : Nat) (hk : k < 2) v wr (h : Ints wr v (erL (eaM (eaA l) l k) k)) (sh : Shp v (erL (eaM (eaA l) l k) k)) => codSpoken_any (eaA l) (erM (eaM (eaA l) l k) k) (erL (eaM (eaA l) l k) k) s AN.out (LE.out k) v wr h sh (by rw [EN.out k hk]; omega))
  have S1 := hide (fun (k : Nat) => show souM (eaA l) (erM (eaM (eaA l) l k) k) (erL (eaM (eaA l) l k) k) = eaM (eaA l) l (k + 1) from rfl)
  have S2 := hide (fun (k : Nat) => show eaO (eaA l) l k ++ souL (eaA l) (erM (eaM (eaA l) l k) k) (erL (eaM (eaA l) l k) k) = eaO (eaA l) l (k + 1) from rfl)
  have E0 := hide (show eaM (eaA l) l 0 = l from rfl)
  have E1 := hide (show eaO (eaA l) l 0 = [] from rfl)
  have HL := hide hl
  have CL := hide (memC_len hl s)
  have P0 := hide (BlkM.part (l := l) s 0 8 (by omega))
  have ZL := hide (memC_len (zeros_len 101) false)
  have hz := zero_mem
  have hmk := make_roomE 80 (by omega)
  rw [show ((80 : Nat) : Int) = 80 from rfl] at hmk
  clear hg hl
  generalize MmL w (eaM (eaA l) l 2) s (eaO (eaA l) l 2) = T at *
  unfold MmL at SP
  unfold MemE at ER
  unfold memV at hz F ER SP ⊢
  generalize eaA l = A at *
  generalize prt l 0 8 = k8 at *
  generalize dirL k8 = D at *
  generalize expE D 32440 = x1 at *
  generalize dirE k8 = x2 at *
  go_enter Tryz.func27, Tryz.ntmps27
  go_upto_region 1 with fail
  generalize (w.alloc (.cells (memC l s).toArray 30)).alloc (.cells (memC (zeros 101) false).toArray 30) = W0 at *
  clear hz
  go_wp2_with (first | refine wpList_load_v rfl 27 _ rfl w.heap.size 0 8 rfl 30 (memC l s) M0.out.1 _ Tryz.underlying27 rfl size8 (by rw [CL.out]; omega) _ P0.out ?_)
  refine (DI.out W0).mono ?_
  rintro e W1 ⟨rfl, g1⟩
  obtain ⟨b1, b2, b3⟩ := fresh_arr W1 89 9 D DN.out
  have B1 := hide b1
  have B2 := hide b2
  have M2 := hide ((M0.out.keep g1).keep b3)
  have NB := hide (show w.heap.size + 1 + 1 ≤ W1.heap.size from (M0.out.keep g1).2.1.lt)
  rw [z9'] at B1 B2 M2
  clear g1 b1 b2 b3 M0 DI P0
  go_upto_region 2 with (first | refine wpList_store_arr rfl 89 _ _ rfl _ (zeros 9) D rfl rfl B1.out (by rw [DN.out, zeros_len]) (by rw [zeros_len]; exact size9') ?_)
  (try simp only [Act.put])
  clear B1
  generalize putArr _ W1.heap.size D = W2 at *
  generalize W1.heap.size = ba at *
  go_wp2_with (first | refine wpList_load_arr rfl 89 _ rfl _ rfl _ B2.out _ Tryz.underlying89 rfl (by rw [DN.out]; exact size9') ?_)
  refine (EX.out W2).mono ?_
  rintro e W3 ⟨rfl, g3⟩
  have B3 := hide (B2.out.keep g3)
  have PU := put_arr (rs' := A) B3.out (by rw [AN.out, DN.out])
  have M3 := hide (M2.out.keep g3)
  have M4 := hide (M3.out.ownC PU.2 (fun x e => by cases e; exact NB.out))
  have B4 := hide PU.1
  clear g3 EX M2 B2 PU M3
  go_upto_region 3 with (first | refine wpList_store_arr rfl 89 _ _ rfl _ D A rfl rfl B3.out (by rw [AN.out, DN.out]) (by rw [DN.out]; exact size9') ?_)
  (try simp only [Act.put])
  clear B3
  generalize putArr W3 ba A = W4 at *
  have N4 := hide (show ba + 1 ≤ W4.heap.size from B4.out.lt)
  have OZ := hide (own_roomE (base := ba + 1) (n := 80) (Blk.new W4 3 (zeros 80)) N4.out (by omega))
  have GZ := grown_alloc W4 (.cells (arrI (zeros 80)) 3) none
  have M5 := hide (M4.out.keep GZ)
  have B5 := hide (B4.out.keep GZ)
  have N5 := hide (Nat.le_trans N4.out GZ.size)
  clear GZ M4 B4 N4
  go_upto_region 4 with fail
  clear hmk
  generalize W4.alloc (.cells (arrI (zeros 80)) 3) = W5 at *
  generalize W4.heap.size = bo at *
  go_wp2_with fail
  go_loopw [6, 22] (fun va i wr => ∃ k : Nat, i = .int .i64 (k : Int) ∧ k ≤ 2 ∧ Hid (Own (ba + 1) wr va (eaO A l k)) ∧ Hid (MmS w (eaM A l k) s wr) ∧ Hid (Blk wr ba 89 A) ∧ Hid (ba + 1 ≤ wr.heap.size)) (fun _ i _ => 2 - (intOf i).toNat)
  case atStart => exact ⟨0, rfl, Nat.zero_le _, by rw [E1.out]; exact OZ.out, by rw [E0.out]; exact M5.out, B5.out, N5.out⟩
  case round =>
    obtain ⟨k, rfl, hk, hO, hM, hB, hN⟩ := hrel
    clear M5 B5 N5 OZ
    by_cases hkl : k < 2
    · have hk2 : (k : Int) < 2 := by omega
      have A1 := hide (BlkM.all s (LM.out k))
      have C1 := hide (memC_len (LM.out k) s)
      have ER1 := hide (ER.out k hkl wr)
      have L1 := hide (LM.out k)
      have L2 := hide (LE.out k)
      have L3 := hide (LM.out (k + 1))
      have Q1 := hide (S1.out k)
      have Q2 := hide (S2.out k)
      have OL := hide (ON.out k hk)
      have SL := hide (SN.out k hkl)
      have SP1 := hide (SP.out k hkl)
      rw [Q1.out] at SP1
      clear ER F LM LE S1 S2 ON SN SP EN E0 E1 Q1
      generalize souL A (erM (eaM A l k) k) (erL (eaM A l k) k) = LX at *
      generalize erL (eaM A l k) k = X at *
      generalize erM (eaM A l k) k = m1 at *
      generalize eaM A l k = m0 at *
      generalize hm2 : eaM A l (k + 1) = m2 at *
      have E2 := hide hm2
      clear hm2
      go_upto_region 8 with fail
      go_wp2_with (first | refine wpList_load_v rfl 30 _ rfl w.heap.size 0 102 rfl 30 (memC m0 s) hM.out.1 _ Tryz.underlying30 rfl size102 (by rw [C1.out]; omega) _ A1.out ?_)
      refine ER1.out.mono ?_
      rintro e w2 ⟨v2, rfl, o2, g2⟩
      have O2 := hide (hO.out.keep g2)
      have M2 := hide (hM.out.keep g2)
      have B2 := hide (hB.out.keep g2)
      have N2 := hide (Nat.le_trans hN.out g2.size)
      have X2 := hide (o2.base hN.out)
      clear hO hM hB hN g2 o2 ER1 A1
      have MA := M2.out.allC (m := m1) (t := s) L1.out L2.out
      have M3 := hide MA.1
      have O3 := hide (O2.out.keepLt MA.2 (by have := NB.out; omega))
      have X3 := hide (X2.out.keepLt MA.2 (by have := NB.out; omega))
      have B3 := hide (B2.out.keepBut MA.2 (by have := NB.out; omega))
      have N3 := hide (Nat.le_trans N2.out MA.2.size)
      have I_ := hide (memC_one m1 s)
      have C2 := hide (memC_len L2.out s)
      clear MA O2 X2 B2 N2
      go_upto_region 9 with (first | refine wpList_store_v rfl 30 _ _ rfl w.heap.size 0 30 (memC m0 s) (memC m1 s) rfl rfl M2.out.1 (by rw [C1.out, C2.out]; omega) (by rw [C2.out]; exact size102) I_.out ?_)
      (try simp only [Act.put])
      clear M2 I_ C1
      generalize putV w2 w.heap.size 0 (memC m1 s) = w3 at *
      have A2 := hide (BlkM.all s L2.out)
      have SP2 := hide (SP1.out v2 w3 X3.out.ints X3.out.shp)
      clear SP1 X3
      go_wp2_with (first | refine wpList_load_arr rfl 89 _ rfl _ rfl _ B3.out _ Tryz.underlying89 rfl (by rw [AN.out]; exact size9') ?_ | refine wpList_load_v rfl 30 _ rfl w.heap.size 0 102 rfl 30 (memC m1 s) M3.out.1 _ Tryz.underlying30 rfl size102 (by rw [C2.out]; omega) _ A2.out ?_)
      refine SP2.out.mono ?_
      rintro e w4 ⟨v4, rfl, o4, g4⟩
      have O4 := hide (O3.out.keep g4)
      have M4 := hide (M3.out.keep g4)
      have B4 := hide (B3.out.keep g4)
      have N4 := hide (Nat.le_trans N3.out g4.size)
      have X4 := hide (o4.base N3.out)
      clear O3 M3 B3 N3 g4 o4 SP2 A2
      have MA := M4.out.allC (m := m2) (t := s) L2.out L3.out
      have M5 := hide MA.1
      have O5 := hide (O4.out.keepLt MA.2 (by have := NB.out; omega))
      have X5 := hide (X4.out.keepLt MA.2 (by have := NB.out; omega))
      have B5 := hide (B4.out.keepBut MA.2 (by have := NB.out; omega))
      have N5 := hide (Nat.le_trans N4.out MA.2.size)
      have I_ := hide (memC_one m2 s)
      have C3 := hide (memC_len L3.out s)
      clear MA O4 X4 B4 N4
      go_upto_region 10 with (first | refine wpList_store_v rfl 30 _ _ rfl w.heap.size 0 30 (memC m1 s) (memC m2 s) rfl rfl M4.out.1 (by rw [C2.out, C3.out]; omega) (by rw [C3.out]; exact size102) I_.out ?_)
      (try simp only [Act.put])
      clear M4 I_ C2 C3
      generalize putV w4 w.heap.size 0 (memC m2 s) = w5 at *
      have LB := hide (show ((eaO A l k).length + LX.length) * 8 ≤ 140737488355328 by rw [OL.out]; have := SL.out; omega)
      have XI := hide X5.out.ints
      have XS := hide X5.out.shp
      go_wp2_with (at_builtin; refine wpList_append_both (by rfl) _ _ rfl (ba + 1) _ v4 (eaO A l k) LX rfl rfl O5.out XI.out XS.out LB.out N5.out ?_)
      intro v6 w6 h6 g6
      rw [Q2.out] at h6
      have O6 := hide h6
      have M6 := hide (M5.out.ownC g6 (fun x e => by have := (O5.out.lt x e).1; have := NB.out; omega))
      have B6 := hide (BlkV.toBlk (BlkV.own (BlkV.ofBlk B5.out) g6 (fun x e => by have := (O5.out.lt x e).1; omega)))
      have N6 := hide (Nat.le_trans N5.out g6.size)
      clear h6 g6 O5 M5 B5 N5 X5 Q2 XI XS
      go_wp2_with fail
      go_roundw
      case rel => exact ⟨k + 1, by go_num, by omega, O6.out, by rw [E2.out]; exact M6.out, B6.out, N6.out⟩
      case measure => simp [intOf]; omega
    · obtain rfl : k = 2 := by omega
      have A1 := hide (BlkM.all s (LM.out 2))
      have C1 := hide (memC_len (LM.out 2) s)
      have I_ := hide (memC_one (eaM A l 2) s)
      have PB := hide (hM.out.fin (eaM A l 2) s (LM.out 2))
      have O6 := hide (hO.out.keepLt (hM.out.2.1.putAll (m := eaM A l 2) (t := s) (zeros_len 101) (LM.out 2)).2 (by have := NB.out; omega))
      have FF := hide (F.out _ _ (O6.out.base (b' := w.heap.size) (by have := NB.out; omega)) PB.out.2)
      clear F O6 ER SP
      generalize eaM A l 2 = m at *
      generalize eaO A l 2 = L at *
      go_wp2_with (first | refine wpList_load_v rfl 30 _ rfl w.heap.size 0 102 rfl 30 (memC m s) hM.out.1 _ Tryz.underlying30 rfl size102 (by rw [C1.out]; omega) _ A1.out ?_ | refine wpList_store_v rfl 30 _ _ rfl (w.heap.size + 1) 0 30 (memC (zeros 101) false) (memC m s) rfl rfl hM.out.2.1 (by rw [ZL.out, C1.out]; omega) (by rw [C1.out]; exact size102) I_.out ?_)
      have hlv := loadVar_v PB.out.1 _ Tryz.underlying30 rfl (by rw [C1.out]; exact size102)
      refine bodyPost_ret (v := .tuple #[.agg (memC m s).toArray, _]) ?_ rfl FF.out
      simp [results, Tryz.results27, asAddr, Act.put, hlv]
set_option maxRecDepth 100000 in
theorem codErase_no (l : List Int) (s : Bool) (hl : l.length = 101) (hg : goodM l = false) (w : World) : Calls Tryz.prog 18 #[memV l s] w (MemE w (ersM l) (ersS l s) (ersL l) (ersE l)) := by
  have M0 := hide (MmS.new w l s)
  have GD := hide (fun wr => conGood_any l s hl wr)
  rw [hg] at GD
  have F := hide (show ∀ w', w.grownBy w' none → MemE w (ersM l) (ersS l s) (ersL l) (ersE l) (.returned (.tuple #[memV (zeros 101) false, .slice none 0 0, .int .i64 2])) w' from fun w' q => ⟨_, by rw [(ers_no (s := s) hg).1, (ers_no (s := s) hg).2.1, (ers_no (s := s) hg).2.2.2], by rw [(ers_no (s := s) hg).2.2.1]; exact Own_nil _ _, q⟩)
  have CL := hide (memC_len hl s)
  have AL := hide (BlkM.all s hl)
  have ZL := hide (memC_len (zeros_len 101) false)
  have ZO := hide (memC_one (zeros 101) false)
  have hz := zero_mem
  have ZB := hide (fun wr (h : MmS w l s wr) => h.fin (zeros 101) false (zeros_len 101))
  clear hg
  generalize MemE w (ersM l) (ersS l s) (ersL l) (ersE l) = T at *
  unfold memV at hz F GD ⊢
  go_enter Tryz.func18, Tryz.ntmps18
  go_upto_region 1 with fail
  generalize (w.alloc (.cells (memC l s).toArray 30)).alloc (.cells (memC (zeros 101) false).toArray 30) = W0 at *
  go_wp2_with (refine wpList_load_v rfl 30 _ rfl w.heap.size 0 102 rfl 30 (memC l s) M0.out.1 _ Tryz.underlying30 rfl size102 (by rw [CL.out]; omega) _ AL.out ?_)
  refine (GD.out W0).mono ?_
  rintro e W1 ⟨rfl, g1⟩
  have M1 := hide (M0.out.keep g1)
  have PB := hide (ZB.out W1 M1.out)
  have FF := hide (F.out _ PB.out.2)
  clear M0 g1 GD ZB F
  go_wp2_with (first | refine wpList_store_v rfl 30 _ _ rfl (w.heap.size + 1) 0 30 (memC (zeros 101) false) (memC (zeros 101) false) rfl rfl M1.out.2.1 (by rw [ZL.out]; omega) (by rw [ZL.out]; exact size102) ZO.out ?_)
  have hlv := loadVar_v PB.out.1 _ Tryz.underlying30 rfl (by rw [ZL.out]; exact size102)
  refine bodyPost_ret (v := .tuple #[.agg (memC (zeros 101) false).toArray, .slice none 0 0, .int .i64 2]) ?_ rfl FF.out
  simp [results, Tryz.results18, asAddr, Act.put, hlv]
set_option maxRecDepth 100000 in
theorem codErase_yes (l : List Int) (s : Bool) (hl : l.length = 101) (hg : goodM l = true) (w : World) : Calls Tryz.prog 18 #[memV l s] w (MemE w (ersM l) (ersS l s) (ersL l) (ersE l)) := by
  have M0 := hide (MmS.new w l s)
  have GD := hide (fun wr => conGood_any l s hl wr)
  rw [hg] at GD
  have MU := hide (fun wr => codMadeUp_any l s hl hg wr)
  have ML := hide (eaM_len (eaA l) l hl 2)
  have F := hide (show ∀ v' w', Own w.heap.size w' v' (eaO (eaA l) l 2) → w.grownBy w' none → MemE w (ersM l) (ersS l s) (ersL l) (ersE l) (.returned (.tuple #[memV (eaM (eaA l) l 2) s, v', .int .i64 0])) w' from fun v' w' o q =>
    ⟨v', by rw [(ers_yes (s := s) hg).1, (ers_yes (s := s) hg).2.1, (ers_yes (s := s) hg).2.2.2], by rw [(ers_yes (s := s) hg).2.2.1]; exact o, q⟩)
  have HL := hide hl
  have CL := hide (memC_len hl s)
  have AL := hide (BlkM.all s hl)
  have ZL := hide (memC_len (zeros_len 101) false)
  have hz := zero_mem
  clear hg hl
  generalize MemE w (ersM l) (ersS l s) (ersL l) (ersE l) = T at *
  generalize eaM (eaA l) l 2 = m at *
  generalize eaO (eaA l) l 2 = L at *
  unfold MmL at MU
  unfold memV at hz F GD MU ⊢
  go_enter Tryz.func18, Tryz.ntmps18
  go_upto_region 1 with fail
  generalize (w.alloc (.cells (memC l s).toArray 30)).alloc (.cells (memC (zeros 101) false).toArray 30) = W0 at *
  clear hz
  go_wp2_with (refine wpList_load_v rfl 30 _ rfl w.heap.size 0 102 rfl 30 (memC l s) M0.out.1 _ Tryz.underlying30 rfl size102 (by rw [CL.out]; omega) _ AL.out ?_)
  refine (GD.out W0).mono ?_
  rintro e W1 ⟨rfl, g1⟩
  have M1 := hide (M0.out.keep g1)
  clear M0 g1 GD
  go_wp2_with (refine wpList_load_v rfl 30 _ rfl w.heap.size 0 102 rfl 30 (memC l s) M1.out.1 _ Tryz.underlying30 rfl size102 (by rw [CL.out]; omega) _ AL.out ?_)
  refine (MU.out W1).mono ?_
  rintro e W2 ⟨v2, rfl, o2, g2⟩
  have M2 := hide (M1.out.keep g2)
  have O2 := hide (o2.base (b' := w.heap.size + 1 + 1) (show w.heap.size + 1 + 1 ≤ W1.heap.size from M1.out.2.1.lt))
  have MA := M2.out.allC (m := m) (t := s) HL.out ML.out
  have M3 := hide MA.1
  have O3 := hide (O2.out.keepLt MA.2 (by omega))
  have I_ := hide (memC_one m s)
  have CM := hide (memC_len ML.out s)
  clear g2 o2 M1 O2 MA MU
  go_upto_region 4 with (first | refine wpList_store_v rfl 30 _ _ rfl w.heap.size 0 30 (memC l s) (memC m s) rfl rfl M2.out.1 (by rw [CM.out, CL.out]; omega) (by rw [CM.out]; exact size102) I_.out ?_)
  (try simp only [Act.put])
  clear M2
  generalize putV W2 w.heap.size 0 (memC m s) = W3 at *
  have A3 := hide (BlkM.all s ML.out)
  have PB := hide (M3.out.fin m s ML.out)
  have O6 := hide (O3.out.keepLt (M3.out.2.1.putAll (m := m) (t := s) (zeros_len 101) ML.out).2 (by omega))
  have FF := hide (F.out _ _ (O6.out.base (b' := w.heap.size) (by omega)) PB.out.2)
  clear F O3 O6
  go_wp2_with (first | refine wpList_load_v rfl 30 _ rfl w.heap.size 0 102 rfl 30 (memC m s) M3.out.1 _ Tryz.underlying30 rfl size102 (by rw [CM.out]; omega) _ A3.out ?_ | refine wpList_store_v rfl 30 _ _ rfl (w.heap.size + 1) 0 30 (memC (zeros 101) false) (memC m s) rfl rfl M3.out.2.1 (by rw [ZL.out, CM.out]; omega) (by rw [CM.out]; exact size102) I_.out ?_)
  have hlv := loadVar_v PB.out.1 _ Tryz.underlying30 rfl (by rw [CM.out]; exact size102)
  refine bodyPost_ret (v := .tuple #[.agg (memC m s).toArray, _, .int .i64 0]) ?_ rfl FF.out
  simp [results, Tryz.results18, asAddr, Act.put, hlv]
theorem codErase_any (l : List Int) (s : Bool) (hl : l.length = 101) (w : World) : Calls Tryz.prog 18 #[memV l s] w (MemE w (ersM l) (ersS l s) (ersL l) (ersE l)) := by
  rcases hg : goodM l with _ | _
  · exact codErase_no l s hl hg w
  · exact codErase_yes l s hl hg w
end Go.Proofs.YtihphpcgjeokmaaGreatDoor

/- TopMath -/
namespace Go.Proofs.YtihphpcgjeokmaaGreatDoor
open Go.RowKit
set_option linter.unusedVariables false
set_option linter.unusedSimpArgs false
structure GoodE (e : List Int) : Prop where
  len : e.length = 225
  mem : goodM (enMm e) = true
  hp : ∀ i, i < 4 → -32768 ≤ nth e i ∧ nth e i ≤ 32767
  inp : rightB (prt e 4 120) = true
theorem goodE_beg : GoodE begL := by
  refine ⟨begL_len, by decide +kernel, fun i hi => ?_, by decide +kernel⟩
  have : ∀ i : Fin 4, -32768 ≤ nth begL i.val ∧ nth begL i.val ≤ 32767 := by decide +kernel
  exact this ⟨i, hi⟩
theorem pair_right (a b : Int) (h1 : -32768 ≤ a ∧ a ≤ 32767) (h2 : -32768 ≤ b ∧ b ≤ 32767) : rightB [a, b] = true := by
  rw [rightB_iff]
  intro i hi
  match i, hi with
  | 0, _ => exact h1
  | 1, _ => exact h2
theorem goodE_he {e l : List Int} (h : GoodE e) (hr : rightB l = true) : enHE e l = true := by
  unfold enHE okH
  rw [pair_right _ _ (h.hp 0 (by omega)) (h.hp 1 (by omega)), pair_right _ _ (h.hp 2 (by omega)) (h.hp 3 (by omega)), hr]; rfl
theorem right_app {a b : List Int} (ha : rightB a = true) (hb : rightB b = true) : rightB (a ++ b) = true := by
  unfold rightB at *
  rw [List.all_append, ha, hb]; rfl
theorem goodE_ok {e l : List Int} (h : GoodE e) (hl : l.length = 80) (hr : rightB l = true) : enOk e l := by
  refine ⟨hl, h.mem, goodE_he h hr, ?_⟩
  unfold enI
  refine right_app ((right_prt _ _ _).2 (fun i hi => ?_)) (enC_right (goodE_he h hr))
  have := (right_prt _ _ _).1 h.inp (80 + i) (by omega)
  rwa [show 4 + (80 + i) = 84 + i by omega] at this
theorem hiM_right {e l : List Int} (h : GoodE e) (hr : rightB l = true) (i : Nat) : -32768 ≤ hiM (nth e 0) (nth e 1) (nth e 2) (nth e 3) l i ∧ hiM (nth e 0) (nth e 1) (nth e 2) (nth e 3) l i ≤ 32767 := by
  have xr := xs_right (nth e 0) (nth e 1) l (pair_right _ _ (h.hp 0 (by omega)) (h.hp 1 (by omega))) hr
  have yr := hi_right (hiX (nth e 0) (nth e 1) l) (nth e 2) (nth e 3) (pair_right _ _ (h.hp 2 (by omega)) (h.hp 3 (by omega))) l.length
  unfold hiM
  split
  · split
    · exact xr _
    · exact xr _
    · exact yr _
    · exact yr _
  · omega
theorem enHp_len (e l : List Int) : (enHp e l).length = 4 := rfl
theorem encM_mm {e l : List Int} (r : Bool) (k : enOk e l) : enMm (encM e l r) = plyM (enMm e) (enP e l r) := by
  have pl : (plyM (enMm e) (enP e l r)).length = 101 := plyM_len _ (prt_len _ _ _)
  have il := enI_len k.1 k.2.2.1
  rw [(enc_yes r k).1]
  show tab 101 (fun i => nth (enHp e l ++ (enI e l ++ plyM (enMm e) (enP e l r))) (124 + i)) = _
  refine (tab_ext pl (fun i hi => ?_)).symm
  show _ = nth (enHp e l ++ (enI e l ++ plyM (enMm e) (enP e l r))) (124 + i)
  rw [nth_app_r _ _ _ (by rw [enHp_len]; omega), nth_app_r _ _ _ (by rw [enHp_len, il]; omega), enHp_len, il, show 124 + i - 4 - 120 = i by omega]
theorem goodE_next {e l : List Int} (h : GoodE e) (hl : l.length = 80) (hr : rightB l = true) (r : Bool) : GoodE (encM e l r) := by
  have k := goodE_ok h hl hr
  have il := enI_len k.1 k.2.2.1
  refine ⟨encM_len r h.len, ?_, fun i hi => ?_, ?_⟩
  · rw [encM_mm r k]; exact plyM_good (prt_len _ _ _) h.mem (enP_good r h.mem)
  · rw [(enc_yes r k).1, nth_app_l _ _ _ (by rw [enHp_len]; exact hi)]
    obtain rfl | rfl | rfl | rfl : i = 0 ∨ i = 1 ∨ i = 2 ∨ i = 3 := by omega
    · exact hiM_right h hr 0
    · exact hiM_right h hr 1
    · exact hiM_right h hr 2
    · exact hiM_right h hr 3
  · rw [right_prt]
    intro i hi
    rw [(enc_yes r k).1, nth_app_r _ _ _ (by rw [enHp_len]; omega), enHp_len, Nat.add_sub_cancel_left, nth_app_l _ _ _ (by rw [il]; exact hi)]
    exact (rightB_iff _).1 k.2.2.2 i (by rw [il]; exact hi)
theorem dec_of {m q : List Int} (hg : goodM m = true) (hl : q.length = 25) (h : gudP q = true) : decM m (pkA q) = plyM m q ∧ decS m (pkA q) = plyS q ∧ decL m (pkA q) = plyL m q ∧ decE m (pkA q) = 0 := by
  have u := un_pk q hl h
  have d := dec_yes hg u.1
  rw [u.2] at d
  exact d
theorem dec_enc {e l m : List Int} (h : GoodE e) (r : Bool) (hg : goodM m = true) : decM m (pkA (enP e l r)) = plyM m (enP e l r) ∧ decS m (pkA (enP e l r)) = plyS (enP e l r) ∧ decL m (pkA (enP e l r)) = plyL m (enP e l r) ∧ decE m (pkA (enP e l r)) = 0 :=
  dec_of hg (enP_len r h.mem) (enP_good r h.mem)
def frmN (l : List Int) (i : Nat) : Int := if i < l.length then nth l i % 65536 - 32768 else 0
def frmL (l : List Int) : List Int := tab 80 (frmN l)
theorem frmL_len (l : List Int) : (frmL l).length = 80 := tab_len _ _
theorem frmL_right (l : List Int) : rightB (frmL l) = true := by
  rw [rightB_iff, frmL_len]
  intro i hi
  unfold frmL
  rw [tab_nth _ _ _ hi]
  unfold frmN
  split <;> omega
structure Tk where
  v : Value
  l : List Int
  r : Bool
  f : Int
  a : Int
  m : Int
def syE (L : Nat → Tk) : Nat → List Int
  | 0 => begL
  | k + 1 => encM (syE L k) (frmL (L k).l) (L k).r
def syS (L : Nat → Tk) : Nat → Bool
  | 0 => false
  | k + 1 => encT (syE L k) (frmL (L k).l) (L k).r
theorem syE_good (L : Nat → Tk) : ∀ k, GoodE (syE L k)
  | 0 => goodE_beg
  | k + 1 => goodE_next (syE_good L k) (frmL_len _) (frmL_right _) _
end Go.Proofs.YtihphpcgjeokmaaGreatDoor

/- TopA -/
namespace Go.Proofs.YtihphpcgjeokmaaGreatDoor
open Go.RowKit
set_option linter.unusedVariables false
set_option linter.unusedSimpArgs false
set_option maxHeartbeats 1000000
theorem topSpot_any (v n : Int) (hn : 0 < n) (hn' : n ≤ 4611686018427387904) (w : World) :
    Calls Tryz.prog 21 #[.int .i64 v, .int .i64 n] w fun e w' => e = .returned (.int .i64 (spotN v n)) ∧ w' = w := by
  have m1 := Int.tmod_lt_of_pos v hn
  have m2 : -n < v.tmod n := by
    have := Int.tmod_lt_of_pos (-v) hn
    rw [Int.neg_tmod] at this; omega
  have e : spotN v n = if v.tmod n < 0 then v.tmod n + n else v.tmod n := by
    unfold spotN
    rw [Int.emod_eq_tmod]
    have hd : 0 ≤ v → 0 ≤ v.tmod n := fun h => Int.tmod_nonneg n h
    have hd' : v < 0 → v.tmod n ≤ 0 := fun h => by
      have := Int.tmod_nonneg n (a := -v) (by omega)
      rw [Int.neg_tmod] at this; omega
    have hdv : n ∣ v ↔ v.tmod n = 0 := Int.dvd_iff_tmod_eq_zero
    have hab : (n.natAbs : Int) = n := by omega
    split <;> split <;> omega
  by_cases h : v.tmod n < 0
  · rw [if_pos h] at e
    rw [e]; clear e
    go_enter Tryz.func21, Tryz.ntmps21
    go_wp2
    go_ret
    exact ⟨rfl, rfl⟩
  · rw [if_neg h] at e
    rw [e]; clear e
    go_enter Tryz.func21, Tryz.ntmps21
    go_wp2
    go_ret
    exact ⟨rfl, rfl⟩
theorem topSame_any (va vb : Value) (a b : List Int) (w : World) (ha : Ints w va a) (hb : Ints w vb b) (la : a.length ≤ 1000000000000000000) (lb : b.length ≤ 1000000000000000000) :
    Calls Tryz.prog 15 #[va, vb] w fun e w' => e = .returned (.bool (decide (a = b))) ∧ ∃ n, w' = w.drewN n := by
  obtain ⟨ada, ca, rfl, hca, hva⟩ := ha
  obtain ⟨adb, cb, rfl, hcb, hvb⟩ := hb
  by_cases hl : a.length = b.length
  · have FY := hide (list_sameK a b hl)
    have FN := hide (fun k (h : nth a k ≠ nth b k) => (show decide (a = b) = false from decide_eq_false (fun e => h (by rw [e]))))
    generalize decide (a = b) = d at *
    go_enter Tryz.func15, Tryz.ntmps15
    go_wp2_with fail
    go_loopw [5] (fun i wr => ∃ k n : Nat, i = .int .i64 k ∧ k ≤ b.length ∧ Hid (∀ j, j < k → nth a j = nth b j) ∧ wr = w.drewN n) (fun i _ => b.length - (intOf i).toNat)
    case atStart => exact ⟨0, 0, rfl, Nat.zero_le _, fun j hj => by omega, rfl⟩
    case round =>
      obtain ⟨k, n, rfl, hk, hE, rfl⟩ := hrel
      by_cases hkl : k < b.length
      · obtain ⟨a0, rfl, hva'⟩ := hva (by omega)
        obtain ⟨b0, rfl, hvb'⟩ := hvb (by omega)
        have ck := hva' k (by omega)
        have dk := hvb' k hkl
        have GK := hide (fun (e : nth a k = nth b k) => (show ∀ j, j < k + 1 → nth a j = nth b j from fun j hj => by
          rcases Nat.lt_or_ge j k with g | g
          · exact hE.out j g
          · obtain rfl : j = k := by omega
            exact e))
        have NK := hide (FN.out k)
        clear hva hvb hva' hvb' FY FN hE
        generalize nth a k = x at *
        generalize nth b k = y at *
        by_cases hxy : x = y
        · have hb1 : (x == y) = true := by simp [hxy]
          have G := hide (GK.out hxy)
          clear GK NK hxy
          go_wp2_with fail
          go_quiet (fail)
          go_wp2_with fail
          go_roundw
          case rel => exact ⟨k + 1, _, by go_num, by omega, G.out, rfl⟩
          case measure => simp [intOf]; omega
        · have hb1 : (x == y) = false := beq_eq_false_iff_ne.2 hxy
          have D := hide (NK.out hxy)
          clear GK NK hxy
          go_wp2_with fail
          go_quiet (fail)
          go_wp2_with fail
          rw [World.drewN_drewN]
          go_ret
          exact ⟨by rw [D.out]; rfl, _, rfl⟩
      · obtain rfl : k = b.length := by omega
        have D := hide (FY.out hE.out)
        clear hva hvb FY FN hE
        go_wp2_with fail
        go_ret
        exact ⟨by rw [D.out]; rfl, _, rfl⟩
  · have hb0 : ((a.length : Int) == (b.length : Int)) = false := beq_eq_false_iff_ne.2 (by omega)
    have hne : decide (a = b) = false := decide_eq_false (fun e => hl (by rw [e]))
    rw [hne]
    clear hva hvb hne
    go_enter Tryz.func15, Tryz.ntmps15
    go_wp2_with fail
    go_ret
    exact ⟨rfl, 0, rfl⟩
theorem frmL_at (l : List Int) (k : Nat) (h : k < l.length) : frmN l k = spotN (nth l k) 65536 - 32768 := by
  unfold frmN spotN
  rw [if_pos h]
def FrmB (l L : List Int) (k : Nat) : Prop := L.length = 80 ∧ ∀ i, nth L i = if i < k then frmN l i else 0
theorem frmB_0 (l : List Int) : FrmB l (zeros 80) 0 := ⟨zeros_len 80, fun i => by rw [zeros_nth]; simp⟩
theorem frmB_next {l L : List Int} {k : Nat} (h : FrmB l L k) (hk : k < 80) : FrmB l (L.set k (frmN l k)) (k + 1) := by
  refine ⟨by rw [List.length_set]; exact h.1, fun i => ?_⟩
  by_cases e : i = k
  · subst e
    rw [show nth (L.set i (frmN l i)) i = frmN l i by simp [nth, List.getD, h.1, hk], if_pos (by omega)]
  · rw [show nth (L.set k (frmN l k)) i = nth L i by simp [nth, List.getD, List.getElem?_set, Ne.symm e], h.2 i]
    by_cases g : i < k
    · rw [if_pos g, if_pos (by omega)]
    · rw [if_neg g, if_neg (by omega)]
theorem frmB_end {l L : List Int} {k : Nat} (h : FrmB l L k) (hk : 80 ≤ k ∨ l.length ≤ k) : L = frmL l := by
  refine tab_ext h.1 (fun i hi => ?_)
  rw [h.2 i]
  by_cases g : i < k
  · rw [if_pos g]
  · rw [if_neg g]
    unfold frmN
    rw [if_neg (by omega)]
theorem frame_any (v : Value) (l : List Int) (w : World) (h : Ints w v l) (hl : l.length ≤ 9223372036854775807) :
    Calls Tryz.prog 13 #[v] w fun e w' => ∃ b : Nat, e = .returned (.slice (some ⟨b, 0, none⟩) 80 80) ∧ Blk w' b 3 (frmL l) ∧ w.heap.size ≤ b ∧ w.grownBy w' none := by
  have hmk := make_zeros 80 (by omega)
  rw [show ((80 : Nat) : Int) = 80 from rfl] at hmk
  obtain ⟨ad, c, rfl, hc, hcell⟩ := h
  have HV := hide hcell
  clear hcell
  go_enter Tryz.func13, Tryz.ntmps13
  go_wp2_with fail
  clear hmk
  have B0 := hide (Blk.new w 3 (zeros 80))
  have G0 := hide (grown_alloc w (.cells (arrI (zeros 80)) 3) none)
  have F0 := hide (frmB_0 l)
  generalize w.alloc (.cells (arrI (zeros 80)) 3) = W0 at *
  generalize zeros 80 = Z at *
  go_loopw [4] (fun i wr => ∃ (k : Nat) (L : List Int), i = .int .i64 k ∧ k ≤ 80 ∧ Hid (Blk wr w.heap.size 3 L) ∧ Hid (FrmB l L k) ∧ Hid (w.grownBy wr none)) (fun i _ => 80 - (intOf i).toNat)
  case atStart => exact ⟨0, Z, rfl, Nat.zero_le _, B0.out, F0.out, G0.out⟩
  case round =>
    obtain ⟨k, L, rfl, hk, hB, hF, hG⟩ := hrel
    clear B0 G0 F0
    by_cases hkn : k < 80
    · by_cases hkl : k < l.length
      · obtain ⟨a, rfl, hv⟩ := HV.out (by omega)
        have ck := grown_keep hG.out (hv k hkl)
        have SI := hide (topSpot_any (nth l k) 65536 (by omega) (by omega))
        have hq1 : 0 ≤ spotN (nth l k) 65536 := by unfold spotN; omega
        have hq2 : spotN (nth l k) 65536 < 65536 := by unfold spotN; omega
        have cd := hB.out.cell k (by rw [hF.out.1]; omega)
        have fd := hB.out.free k
        have hLn := hF.out.1
        have NF := hide (frmB_next hF.out hkn)
        rw [frmL_at l k hkl] at NF
        have NB := hide (hB.out.set k (spotN (nth l k) 65536 - 32768))
        have NG := hide (grown_own hG.out (grown_setCell wr ⟨w.heap.size, k, none⟩ (.int .i64 (spotN (nth l k) 65536 - 32768))) (Nat.le_refl _))
        clear hB hF hG hv
        generalize spotN (nth l k) 65536 = q at *
        generalize nth l k = z at *
        generalize nth L k = y at *
        go_wp2_with fail
        refine (SI.out _).mono ?_
        rintro e w1 ⟨rfl, rfl⟩
        clear SI
        go_wp2_with fail
        go_roundw
        case rel => exact ⟨k + 1, _, by go_num, by omega, NB.out, NF.out, NG.out⟩
        case measure => simp [intOf]; omega
      · have E := hide (frmB_end hF.out (Or.inr (by omega)))
        go_wp2_with fail
        go_ret
        exact ⟨_, rfl, E.out ▸ hB.out, Nat.le_refl _, hG.out⟩
    · have E := hide (frmB_end hF.out (Or.inl (by omega)))
      go_wp2_with fail
      go_ret
      exact ⟨_, rfl, E.out ▸ hB.out, Nat.le_refl _, hG.out⟩
theorem talks_any (ad : Option Addr) (n c : Nat) (hc : n ≤ c) (hb : c ≤ 9223372036854775807) (hn : 0 < n → ad ≠ none) (w : World) :
    Calls Tryz.prog 11 #[.slice ad n c] w fun e w' => ∃ c' : Nat, e = .returned (.slice ad (min n 12 : Nat) c') ∧ min n 12 ≤ c' ∧ w' = w := by
  by_cases h : 12 < n
  · obtain ⟨a, rfl⟩ := Option.ne_none_iff_exists'.1 (hn (by omega))
    have hm : min n 12 = 12 := by omega
    rw [hm]
    clear hn hm
    go_enter Tryz.func11, Tryz.ntmps11
    go_wp2_with fail
    go_ret
    exact ⟨_, rfl, by omega, rfl⟩
  · have hm : min n 12 = n := by omega
    rw [hm]
    clear hn hm
    go_enter Tryz.func11, Tryz.ntmps11
    go_wp2_with fail
    go_ret
    exact ⟨_, rfl, hc, rfl⟩
end Go.Proofs.YtihphpcgjeokmaaGreatDoor

/- KeepC -/
namespace Go.Proofs.YtihphpcgjeokmaaGreatDoor
open Go.RowKit
set_option linter.unusedVariables false
set_option linter.unusedSimpArgs false
set_option maxHeartbeats 4000000
theorem ints80 {w : World} {b : Nat} {l : List Int} (h : Blk w b 3 l) (hl : l.length = 80) : Ints w (.slice (some ⟨b, 0, none⟩) 80 80) l := by
  refine ⟨some ⟨b, 0, none⟩, 80, by rw [hl], by omega, fun _ => ⟨_, rfl, fun i hi => ?_⟩⟩
  rw [Addr.add_mid, Nat.zero_add, h.cell i hi]
theorem hi_zero : hiL 0 0 0 0 (zeros 80) = zeros 80 := by decide +kernel
theorem beg_mm : enMm begL = freL := by decide +kernel
theorem beg_c : enC begL (zeros 80) = zeros 80 := by
  have h : nth begL 0 = 0 ∧ nth begL 1 = 0 ∧ nth begL 2 = 0 ∧ nth begL 3 = 0 := by decide +kernel
  unfold enC
  rw [h.1, h.2.1, h.2.2.1, h.2.2.2]
  exact hi_zero
theorem beg_he : enHE begL (zeros 80) = true := by decide +kernel
theorem beg_i : rightB (enI begL (zeros 80)) = true := by
  unfold enI
  rw [beg_c]
  decide +kernel
theorem beg_ok : enOk begL (zeros 80) := ⟨zeros_len 80, by rw [beg_mm]; exact freL_good, beg_he, beg_i⟩
theorem begL_64 : In64 begL := fun i => by
  by_cases h : i < 225
  · have : ∀ i : Fin 225, -32768 ≤ nth begL i.val ∧ nth begL i.val ≤ 65535 := by decide +kernel
    have q : -32768 ≤ nth begL i ∧ nth begL i ≤ 65535 := this ⟨i, h⟩
    omega
  · rw [getD_out _ i (by rw [begL_len]; omega)]; omega
theorem encCellS {w : World} {b : Nat} {e : List Int} {s : Bool} (h : BlkE w b e s) (he : e.length = 225) : w.cell? ⟨b, 225, none⟩ = some (.bool s) := by
  rw [BlkV.cell h]
  unfold encC mixC
  rw [List.getElem?_append_right (by rw [intsV_len, he]; omega), intsV_len, he]
  rfl
end Go.Proofs.YtihphpcgjeokmaaGreatDoor

/- TopB -/
namespace Go.Proofs.YtihphpcgjeokmaaGreatDoor
open Go.RowKit
set_option linter.unusedVariables false
set_option linter.unusedSimpArgs false
set_option maxHeartbeats 4000000
theorem plM_seed (now p : List Int) {l : List Int} (hl : l.length = 101) : ∀ n, nth (plM false now l p n) 100 = nth l 100
  | 0 => rfl
  | n + 1 => by
    have ln : (plM false now l p n).length = 101 := plM_len false now p hl n
    have lp : (plP false (plM false now l p n) (subL p n)).length = 101 := plP_len false ln _
    show nth (souM _ (plP false (plM false now l p n) (subL p n)) _) 100 = _
    rw [souM_nth _ _ _ 100 (by omega), if_neg (by omega)]
    show nth (spM (plM false now l p n) (subL p n)) 100 = _
    unfold spM
    have lo : (ovr (plM false now l p n) 16 (kpL (prt (plM false now l p n) 16 80) (spX (plM false now l p n) (subL p n)))).length = 101 := by rw [ovr_len]; exact ln
    rw [setN _ _ _ (by rw [List.length_set, List.length_set, lo]; omega), if_neg (by omega), setN _ _ _ (by rw [List.length_set, lo]; omega), if_neg (by omega), setN _ _ _ (by rw [lo]; omega), if_neg (by omega), ovr_nth _ _ _ _ (by omega), if_neg ?_, plM_seed now p hl n]
    have : (kpL (prt (plM false now l p n) 16 80) (spX (plM false now l p n) (subL p n))).length = 80 := by rw [kpL_len]
    omega
theorem ply_seed (l p : List Int) (h : nth p 0 = 1) : nth (plyM l p) 100 = 21845 := by
  have s : plyS p = false := by unfold plyS; rw [h]; decide
  have a : plF l p = freL := if_pos h
  have ln : (plM false (vlL p) freL p 2).length = 101 := plM_len _ _ _ freL_len 2
  unfold plyM
  rw [s, a, setN _ _ _ (by rw [ovr_len]; omega), if_neg (by omega), ovr_nth _ _ _ _ (by omega), if_neg (by rw [vlL_len]; omega), plM_seed _ _ freL_len]
  decide +kernel
theorem enP_refresh (e l : List Int) : nth (enP e l true) 0 = 1 := rfl
theorem beg_dec : decM freL (encB begL (zeros 80) true) = enMm (encM begL (zeros 80) true) ∧ decS freL (encB begL (zeros 80) true) = encT begL (zeros 80) true ∧ decL freL (encB begL (zeros 80) true) = encL begL (zeros 80) true ∧ decE freL (encB begL (zeros 80) true) = 0 := by
  obtain ⟨a, b, c, d⟩ := dec_enc (l := zeros 80) goodE_beg true freL_good
  have y := enc_yes true beg_ok
  rw [y.2.2.1]
  refine ⟨?_, ?_, ?_, d⟩
  · rw [a, encM_mm true beg_ok, beg_mm]
  · rw [b]; exact y.2.1.symm
  · rw [c, y.2.2.2.1, beg_mm]
theorem beg_seed : nth (enMm (encM begL (zeros 80) true)) 100 = 21845 := by
  rw [encM_mm true beg_ok]
  exact ply_seed _ _ (enP_refresh _ _)
theorem beg_lT : (encL begL (zeros 80) true).length = 80 := by
  rw [(enc_yes true beg_ok).2.2.2.1]
  exact (plyL_right (show (enMm begL).length = 101 from prt_len _ _ _) beg_ok.2.1 (enP_good true beg_ok.2.1)).1
theorem beg_bT : (encB begL (zeros 80) true).length = 15 := by rw [(enc_yes true beg_ok).2.2.1]; exact pkA_len _
theorem beg_by : byB (encB begL (zeros 80) true) := by rw [(enc_yes true beg_ok).2.2.1]; exact pkA_by _
set_option maxRecDepth 100000 in
theorem alive_any (w : World) (pc : CEn 12 w) (pd : CDe 14 w) (pb : CBg 9 w) (pf : CFr 10 w) (W0 : World) (hG0 : w.grownBy W0 none) : Calls Tryz.prog 16 #[] W0 (AnsC W0 (.bool true)) := by
  have G0 := hide hG0
  have A := hide (fun v' wr g h sh => pc begL false begL_len begL_64 v' (zeros 80) wr g h sh (fun i => by rw [zeros_nth]; omega) (by rw [zeros_len]; omega) true)
  have D := hide (fun v' wr g h sh => pd freL false freL_len freL_64 v' (encB begL (zeros 80) true) wr g h sh beg_by (by rw [beg_bT]; omega))
  have PB := hide pb
  have PF := hide pf
  have SH80 := hide (fun b => show Shp (.slice (some ⟨b, 0, none⟩) 80 80) (zeros 80) from .inr ⟨_, _, by rw [zeros_len]⟩)
  have ML := hide (encM_len (l := zeros 80) true begL_len)
  have EB := hide beg_bT
  have EL := hide beg_lT
  have SD := hide beg_seed
  have ZL := hide (encC_len (zeros_len 225) false)
  have ZM := hide (memC_len (zeros_len 101) false)
  have hz := zero_enc
  have hy := zero_mem
  have hmk := make_zeros 80 (by omega)
  rw [show ((80 : Nat) : Int) = 80 from rfl] at hmk
  rw [(enc_yes true beg_ok).2.2.2.2] at A
  rw [beg_dec.1, beg_dec.2.1, beg_dec.2.2.1, beg_dec.2.2.2] at D
  have F := hide (show ∀ w', W0.grownBy w' none → AnsC W0 (.bool true) (.returned (.bool true)) w' from fun w' q => ⟨rfl, q⟩)
  clear pc pd pb pf hG0
  generalize AnsC W0 (.bool true) = T at *
  unfold EncE encV at A
  unfold MemE memV at D
  unfold encV at hz
  unfold memV at hy
  unfold CBg AnsC encV at PB
  unfold CFr AnsC memV at PF
  generalize encM begL (zeros 80) true = m at *
  generalize encT begL (zeros 80) true = t at *
  generalize encB begL (zeros 80) true = BB at *
  generalize encL begL (zeros 80) true = L at *
  have CM := hide (encC_len ML.out t)
  have NL := hide (show (enMm m).length = 101 from prt_len _ _ _)
  have EP := hide (show ((encC m t).drop 124).take 102 = memC (enMm m) t from encC_mem t ML.out)
  generalize enMm m = NM at *
  have CN := hide (memC_len NL.out t)
  have AN := hide (BlkM.all t NL.out)
  go_enter Tryz.func16, Tryz.ntmps16
  go_upto_region 1 with fail
  go_cut [1, 2, 3, 4] from 5 (fun s7 s8 s9 s10 wx => EncR W0 m t BB L 0 s7 s8 s9 s10 wx)
  case first =>
    refine wp_region_held_drew (S := GrownW W0) (by kernel_rfl) (gw_start _) (fun hHeld => ?_)
    refine wpAnyH_ready (rs := [0, 1, 8]) (by kernel_rfl) (by simp) (AllReadyH.cons rfl (fun K hK => ?gka1) (AllReadyH.cons rfl (fun K hK => ?gka2) (AllReadyH.cons rfl (fun K hK => ?gka3) AllReadyH.nil)))
    case gka1 =>
      (try simp only [Act.put, sL])
      go_simp
      refine (PB.out _ (grown_none G0.out hHeld)).mono ?_
      rintro e wka4 ⟨rfl, gka4⟩
      have Gka4 := hide gka4
      clear gka4
      (try unfold memV)
      (try unfold encV)
      go_wp2_with fail
      refine hK.out _ _ (gw_trans hHeld Gka4.out) (fun hHeld => ?_)
      clear hK
      (try simp only [Act.put, sL])
      refine wpAnyH_ready (rs := [1, 8]) (by kernel_rfl) (by simp) (AllReadyH.cons rfl (fun K hK => ?gka5) (AllReadyH.cons rfl (fun K hK => ?gka6) AllReadyH.nil))
      case gka5 =>
        (try simp only [Act.put, sL])
        go_simp
        go_wp2_with fail
        refine hK.out _ _ (gw_alloc hHeld (.cells (arrI (zeros 80)) 3)) (fun hHeld => ?_)
        clear hK
        have OM := hide (show Blk (wka4.alloc (.cells (arrI (zeros 80)) 3)) wka4.heap.size 3 (zeros 80) from Blk.new wka4 3 (zeros 80))
        generalize wka4.alloc (.cells (arrI (zeros 80)) 3) = wzka7 at *
        (try simp only [Act.put, sL])
        refine wpAnyH_ready (rs := [2, 8]) (by kernel_rfl) (by simp) (AllReadyH.cons rfl (fun K hK => ?gka8) (AllReadyH.cons rfl (fun K hK => ?gka9) AllReadyH.nil))
        case gka8 =>
          (try simp only [Act.put, sL])
          go_simp
          refine (A.out _ _ (grown_none G0.out hHeld) (ints80 OM.out (zeros_len 80)) (SH80.out _)).mono ?_
          rintro e wka10 ⟨vb, vl, rfl, ob, ol, gka10⟩
          have Gka10 := hide gka10
          have OB := hide (ob.base (b' := W0.heap.size) (World.grownBy.size hHeld))
          have OL := hide (ol.base (b' := W0.heap.size) (World.grownBy.size hHeld))
          clear gka10 ob ol
          (try unfold memV)
          (try unfold encV)
          go_wp2_with fail
          refine hK.out _ _ (gw_trans hHeld Gka10.out) (fun hHeld => ?_)
          clear hK
          have OM := hide (OM.out.keep Gka10.out)
          (try simp only [Act.put, sL])
          refine wpAnyH_take (i := 3) (v := ?vka11) rfl (by kernel_rfl) (by kernel_rfl) (by kernel_rfl) (fun _ _ _ h => h) (Or.inl ⟨by rfl, ?yka11⟩) hHeld ?rka11
          case yka11 => (intro w' hSw; go_simp; (try with_reducible rfl))
          (try simp only [Act.put, sL])
          refine wpAnyH_take (i := 4) (v := ?vka12) rfl (by kernel_rfl) (by kernel_rfl) (by kernel_rfl) (fun _ _ _ h => h) (Or.inl ⟨by rfl, ?yka12⟩) hHeld ?rka12
          case yka12 => (intro w' hSw; go_simp; (try with_reducible rfl))
          (try simp only [Act.put, sL])
          refine wpAnyH_take (i := 5) (v := ?vka13) rfl (by kernel_rfl) (by kernel_rfl) (by kernel_rfl) (fun _ _ _ h => h) (Or.inl ⟨by rfl, ?yka13⟩) hHeld ?rka13
          case yka13 => (intro w' hSw; go_simp; (try with_reducible rfl))
          (try simp only [Act.put, sL])
          refine wpAnyH_take (i := 6) (v := ?vka14) rfl (by kernel_rfl) (by kernel_rfl) (by kernel_rfl) (fun _ _ _ h => h) (Or.inl ⟨by rfl, ?yka14⟩) hHeld ?rka14
          case yka14 => (intro w' hSw; go_simp; (try with_reducible rfl))
          (try simp only [Act.put, sL])
          refine wpAnyH_take (i := 7) (v := ?vka15) rfl (by kernel_rfl) (by kernel_rfl) (by kernel_rfl) (fun _ _ _ h => h) (Or.inl ⟨by rfl, ?yka15⟩) hHeld ?rka15
          case yka15 => (intro w' hSw; go_simp; (try with_reducible rfl))
          (try simp only [Act.put, sL])
          refine wpAnyH_ready (rs := [8]) (by kernel_rfl) (by simp) (AllReadyH.cons rfl (fun K hK => ?_) AllReadyH.nil)
          (try simp only [Act.put, sL])
          go_simp
          go_wp2_with fail
          have HB := hide (show W0.heap.size ≤ wka10.heap.size from by first | exact Nat.le_refl _ | exact World.grownBy.size hHeld)
          refine hK.out _ _ (gw_alloc hHeld (.cells (encC (zeros 225) false).toArray 32)) (fun hHeld => ?_)
          clear hK
          have HZ := hide (show BlkE (wka10.alloc (.cells (encC (zeros 225) false).toArray 32)) wka10.heap.size (zeros 225) false from BlkE.new wka10 (zeros 225) false)
          have OB := hide (OB.out.keep (grown_alloc wka10 (.cells (encC (zeros 225) false).toArray 32) none))
          have OL := hide (OL.out.keep (grown_alloc wka10 (.cells (encC (zeros 225) false).toArray 32) none))
          generalize wka10.alloc (.cells (encC (zeros 225) false).toArray 32) = wzka16 at *
          (try simp only [Act.put, sL])
          refine wpAnyH_ready (rs := [9]) (by kernel_rfl) (by simp) (AllReadyH.cons rfl (fun K hK => ?_) AllReadyH.nil)
          (try simp only [Act.put, sL])
          refine step_store_v rfl 32 _ _ rfl (wka10.heap.size) 0 32 (encC (zeros 225) false) (encC m t) rfl rfl HZ.out (by rw [ZL.out, CM.out]; omega) (by rw [CM.out]; exact size226) (encC_one _ _) ?_
          have PU := HZ.out.putAll (m := m) (t := t) (zeros_len 225) ML.out
          have OB := hide (OB.out.keepBut PU.2 HZ.out (by decide))
          have OL := hide (OL.out.keepBut PU.2 HZ.out (by decide))
          refine hK.out _ _ (gw_own hHeld PU.2 HB.out) (fun hHeld => ?_)
          clear hK
          (try simp only [Act.put, sL])
          refine wpAnyH_take (i := 10) (v := ?vka18) rfl (by kernel_rfl) (by kernel_rfl) (by kernel_rfl) (fun _ _ _ h => h) (Or.inl ⟨by rfl, ?yka18⟩) hHeld ?rka18
          case yka18 => (intro w' hSw; go_simp; (try with_reducible rfl))
          (try simp only [Act.put, sL])
          refine wpAnyH_take (i := 11) (v := ?vka19) rfl (by kernel_rfl) (by kernel_rfl) (by kernel_rfl) (fun _ _ _ h => h) (Or.inl ⟨by rfl, ?yka19⟩) hHeld ?rka19
          case yka19 => (intro w' hSw; go_simp; (try with_reducible rfl))
          (try simp only [Act.put, sL])
          refine wpAnyH_take (i := 12) (v := ?vka20) rfl (by kernel_rfl) (by kernel_rfl) (by kernel_rfl) (fun _ _ _ h => h) (Or.inl ⟨by rfl, ?yka20⟩) hHeld ?rka20
          case yka20 => (intro w' hSw; go_simp; (try with_reducible rfl))
          (try simp only [Act.put, sL])
          refine wpAnyH_done (by kernel_rfl) ?_ _
          go_wp2_with fail
          go_meet
          exact ⟨wka10.heap.size, rfl, rfl, PU.1, OB.out, OL.out, HB.out, hHeld⟩
        case gka9 =>
          (try simp only [Act.put, sL])
          go_simp
          go_wp2_with fail
          have HB := hide (show W0.heap.size ≤ wzka7.heap.size from by first | exact Nat.le_refl _ | exact World.grownBy.size hHeld)
          refine hK.out _ _ (gw_alloc hHeld (.cells (encC (zeros 225) false).toArray 32)) (fun hHeld => ?_)
          clear hK
          have HZ := hide (show BlkE (wzka7.alloc (.cells (encC (zeros 225) false).toArray 32)) wzka7.heap.size (zeros 225) false from BlkE.new wzka7 (zeros 225) false)
          have OM := hide (OM.out.keep (grown_alloc wzka7 (.cells (encC (zeros 225) false).toArray 32) none))
          generalize wzka7.alloc (.cells (encC (zeros 225) false).toArray 32) = wzka21 at *
          (try simp only [Act.put, sL])
          refine wpAnyH_ready (rs := [2]) (by kernel_rfl) (by simp) (AllReadyH.cons rfl (fun K hK => ?_) AllReadyH.nil)
          (try simp only [Act.put, sL])
          go_simp
          refine (A.out _ _ (grown_none G0.out hHeld) (ints80 OM.out (zeros_len 80)) (SH80.out _)).mono ?_
          rintro e wka22 ⟨vb, vl, rfl, ob, ol, gka22⟩
          have Gka22 := hide gka22
          have OB := hide (ob.base (b' := W0.heap.size) (World.grownBy.size hHeld))
          have OL := hide (ol.base (b' := W0.heap.size) (World.grownBy.size hHeld))
          clear gka22 ob ol
          (try unfold memV)
          (try unfold encV)
          go_wp2_with fail
          refine hK.out _ _ (gw_trans hHeld Gka22.out) (fun hHeld => ?_)
          clear hK
          have OM := hide (OM.out.keep Gka22.out)
          have HZ := hide (HZ.out.keep Gka22.out)
          (try simp only [Act.put, sL])
          refine wpAnyH_take (i := 3) (v := ?vka23) rfl (by kernel_rfl) (by kernel_rfl) (by kernel_rfl) (fun _ _ _ h => h) (Or.inl ⟨by rfl, ?yka23⟩) hHeld ?rka23
          case yka23 => (intro w' hSw; go_simp; (try with_reducible rfl))
          (try simp only [Act.put, sL])
          refine wpAnyH_take (i := 4) (v := ?vka24) rfl (by kernel_rfl) (by kernel_rfl) (by kernel_rfl) (fun _ _ _ h => h) (Or.inl ⟨by rfl, ?yka24⟩) hHeld ?rka24
          case yka24 => (intro w' hSw; go_simp; (try with_reducible rfl))
          (try simp only [Act.put, sL])
          refine wpAnyH_take (i := 5) (v := ?vka25) rfl (by kernel_rfl) (by kernel_rfl) (by kernel_rfl) (fun _ _ _ h => h) (Or.inl ⟨by rfl, ?yka25⟩) hHeld ?rka25
          case yka25 => (intro w' hSw; go_simp; (try with_reducible rfl))
          (try simp only [Act.put, sL])
          refine wpAnyH_take (i := 6) (v := ?vka26) rfl (by kernel_rfl) (by kernel_rfl) (by kernel_rfl) (fun _ _ _ h => h) (Or.inl ⟨by rfl, ?yka26⟩) hHeld ?rka26
          case yka26 => (intro w' hSw; go_simp; (try with_reducible rfl))
          (try simp only [Act.put, sL])
          refine wpAnyH_take (i := 7) (v := ?vka27) rfl (by kernel_rfl) (by kernel_rfl) (by kernel_rfl) (fun _ _ _ h => h) (Or.inl ⟨by rfl, ?yka27⟩) hHeld ?rka27
          case yka27 => (intro w' hSw; go_simp; (try with_reducible rfl))
          (try simp only [Act.put, sL])
          refine wpAnyH_ready (rs := [9]) (by kernel_rfl) (by simp) (AllReadyH.cons rfl (fun K hK => ?_) AllReadyH.nil)
          (try simp only [Act.put, sL])
          refine step_store_v rfl 32 _ _ rfl (wzka7.heap.size) 0 32 (encC (zeros 225) false) (encC m t) rfl rfl HZ.out (by rw [ZL.out, CM.out]; omega) (by rw [CM.out]; exact size226) (encC_one _ _) ?_
          have PU := HZ.out.putAll (m := m) (t := t) (zeros_len 225) ML.out
          have OB := hide (OB.out.keepBut PU.2 HZ.out (by decide))
          have OL := hide (OL.out.keepBut PU.2 HZ.out (by decide))
          refine hK.out _ _ (gw_own hHeld PU.2 HB.out) (fun hHeld => ?_)
          clear hK
          (try simp only [Act.put, sL])
          refine wpAnyH_take (i := 10) (v := ?vka29) rfl (by kernel_rfl) (by kernel_rfl) (by kernel_rfl) (fun _ _ _ h => h) (Or.inl ⟨by rfl, ?yka29⟩) hHeld ?rka29
          case yka29 => (intro w' hSw; go_simp; (try with_reducible rfl))
          (try simp only [Act.put, sL])
          refine wpAnyH_take (i := 11) (v := ?vka30) rfl (by kernel_rfl) (by kernel_rfl) (by kernel_rfl) (fun _ _ _ h => h) (Or.inl ⟨by rfl, ?yka30⟩) hHeld ?rka30
          case yka30 => (intro w' hSw; go_simp; (try with_reducible rfl))
          (try simp only [Act.put, sL])
          refine wpAnyH_take (i := 12) (v := ?vka31) rfl (by kernel_rfl) (by kernel_rfl) (by kernel_rfl) (fun _ _ _ h => h) (Or.inl ⟨by rfl, ?yka31⟩) hHeld ?rka31
          case yka31 => (intro w' hSw; go_simp; (try with_reducible rfl))
          (try simp only [Act.put, sL])
          refine wpAnyH_done (by kernel_rfl) ?_ _
          go_wp2_with fail
          go_meet
          exact ⟨wzka7.heap.size, rfl, rfl, PU.1, OB.out, OL.out, HB.out, hHeld⟩
      case gka6 =>
        (try simp only [Act.put, sL])
        go_simp
        go_wp2_with fail
        have HB := hide (show W0.heap.size ≤ wka4.heap.size from by first | exact Nat.le_refl _ | exact World.grownBy.size hHeld)
        refine hK.out _ _ (gw_alloc hHeld (.cells (encC (zeros 225) false).toArray 32)) (fun hHeld => ?_)
        clear hK
        have HZ := hide (show BlkE (wka4.alloc (.cells (encC (zeros 225) false).toArray 32)) wka4.heap.size (zeros 225) false from BlkE.new wka4 (zeros 225) false)
        generalize wka4.alloc (.cells (encC (zeros 225) false).toArray 32) = wzka32 at *
        (try simp only [Act.put, sL])
        refine wpAnyH_ready (rs := [1]) (by kernel_rfl) (by simp) (AllReadyH.cons rfl (fun K hK => ?_) AllReadyH.nil)
        (try simp only [Act.put, sL])
        go_simp
        go_wp2_with fail
        refine hK.out _ _ (gw_alloc hHeld (.cells (arrI (zeros 80)) 3)) (fun hHeld => ?_)
        clear hK
        have OM := hide (show Blk (wzka32.alloc (.cells (arrI (zeros 80)) 3)) wzka32.heap.size 3 (zeros 80) from Blk.new wzka32 3 (zeros 80))
        have HZ := hide (HZ.out.keep (grown_alloc wzka32 (.cells (arrI (zeros 80)) 3) none))
        generalize wzka32.alloc (.cells (arrI (zeros 80)) 3) = wzka33 at *
        (try simp only [Act.put, sL])
        refine wpAnyH_ready (rs := [2]) (by kernel_rfl) (by simp) (AllReadyH.cons rfl (fun K hK => ?_) AllReadyH.nil)
        (try simp only [Act.put, sL])
        go_simp
        refine (A.out _ _ (grown_none G0.out hHeld) (ints80 OM.out (zeros_len 80)) (SH80.out _)).mono ?_
        rintro e wka34 ⟨vb, vl, rfl, ob, ol, gka34⟩
        have Gka34 := hide gka34
        have OB := hide (ob.base (b' := W0.heap.size) (World.grownBy.size hHeld))
        have OL := hide (ol.base (b' := W0.heap.size) (World.grownBy.size hHeld))
        clear gka34 ob ol
        (try unfold memV)
        (try unfold encV)
        go_wp2_with fail
        refine hK.out _ _ (gw_trans hHeld Gka34.out) (fun hHeld => ?_)
        clear hK
        have HZ := hide (HZ.out.keep Gka34.out)
        have OM := hide (OM.out.keep Gka34.out)
        (try simp only [Act.put, sL])
        refine wpAnyH_take (i := 3) (v := ?vka35) rfl (by kernel_rfl) (by kernel_rfl) (by kernel_rfl) (fun _ _ _ h => h) (Or.inl ⟨by rfl, ?yka35⟩) hHeld ?rka35
        case yka35 => (intro w' hSw; go_simp; (try with_reducible rfl))
        (try simp only [Act.put, sL])
        refine wpAnyH_take (i := 4) (v := ?vka36) rfl (by kernel_rfl) (by kernel_rfl) (by kernel_rfl) (fun _ _ _ h => h) (Or.inl ⟨by rfl, ?yka36⟩) hHeld ?rka36
        case yka36 => (intro w' hSw; go_simp; (try with_reducible rfl))
        (try simp only [Act.put, sL])
        refine wpAnyH_take (i := 5) (v := ?vka37) rfl (by kernel_rfl) (by kernel_rfl) (by kernel_rfl) (fun _ _ _ h => h) (Or.inl ⟨by rfl, ?yka37⟩) hHeld ?rka37
        case yka37 => (intro w' hSw; go_simp; (try with_reducible rfl))
        (try simp only [Act.put, sL])
        refine wpAnyH_take (i := 6) (v := ?vka38) rfl (by kernel_rfl) (by kernel_rfl) (by kernel_rfl) (fun _ _ _ h => h) (Or.inl ⟨by rfl, ?yka38⟩) hHeld ?rka38
        case yka38 => (intro w' hSw; go_simp; (try with_reducible rfl))
        (try simp only [Act.put, sL])
        refine wpAnyH_take (i := 7) (v := ?vka39) rfl (by kernel_rfl) (by kernel_rfl) (by kernel_rfl) (fun _ _ _ h => h) (Or.inl ⟨by rfl, ?yka39⟩) hHeld ?rka39
        case yka39 => (intro w' hSw; go_simp; (try with_reducible rfl))
        (try simp only [Act.put, sL])
        refine wpAnyH_ready (rs := [9]) (by kernel_rfl) (by simp) (AllReadyH.cons rfl (fun K hK => ?_) AllReadyH.nil)
        (try simp only [Act.put, sL])
        refine step_store_v rfl 32 _ _ rfl (wka4.heap.size) 0 32 (encC (zeros 225) false) (encC m t) rfl rfl HZ.out (by rw [ZL.out, CM.out]; omega) (by rw [CM.out]; exact size226) (encC_one _ _) ?_
        have PU := HZ.out.putAll (m := m) (t := t) (zeros_len 225) ML.out
        have OB := hide (OB.out.keepBut PU.2 HZ.out (by decide))
        have OL := hide (OL.out.keepBut PU.2 HZ.out (by decide))
        refine hK.out _ _ (gw_own hHeld PU.2 HB.out) (fun hHeld => ?_)
        clear hK
        (try simp only [Act.put, sL])
        refine wpAnyH_take (i := 10) (v := ?vka41) rfl (by kernel_rfl) (by kernel_rfl) (by kernel_rfl) (fun _ _ _ h => h) (Or.inl ⟨by rfl, ?yka41⟩) hHeld ?rka41
        case yka41 => (intro w' hSw; go_simp; (try with_reducible rfl))
        (try simp only [Act.put, sL])
        refine wpAnyH_take (i := 11) (v := ?vka42) rfl (by kernel_rfl) (by kernel_rfl) (by kernel_rfl) (fun _ _ _ h => h) (Or.inl ⟨by rfl, ?yka42⟩) hHeld ?rka42
        case yka42 => (intro w' hSw; go_simp; (try with_reducible rfl))
        (try simp only [Act.put, sL])
        refine wpAnyH_take (i := 12) (v := ?vka43) rfl (by kernel_rfl) (by kernel_rfl) (by kernel_rfl) (fun _ _ _ h => h) (Or.inl ⟨by rfl, ?yka43⟩) hHeld ?rka43
        case yka43 => (intro w' hSw; go_simp; (try with_reducible rfl))
        (try simp only [Act.put, sL])
        refine wpAnyH_done (by kernel_rfl) ?_ _
        go_wp2_with fail
        go_meet
        exact ⟨wka4.heap.size, rfl, rfl, PU.1, OB.out, OL.out, HB.out, hHeld⟩
    case gka2 =>
      (try simp only [Act.put, sL])
      go_simp
      go_wp2_with fail
      refine hK.out _ _ (gw_alloc hHeld (.cells (arrI (zeros 80)) 3)) (fun hHeld => ?_)
      clear hK
      have OM := hide (show Blk ((W0.alloc (.cells (arrI (zeros 80)) 3)).drew) W0.heap.size 3 (zeros 80) from Blk.new W0.drew 3 (zeros 80))
      generalize (W0.alloc (.cells (arrI (zeros 80)) 3)).drew = wzka44 at *
      (try simp only [Act.put, sL])
      refine wpAnyH_ready (rs := [0, 8]) (by kernel_rfl) (by simp) (AllReadyH.cons rfl (fun K hK => ?gka45) (AllReadyH.cons rfl (fun K hK => ?gka46) AllReadyH.nil))
      case gka45 =>
        (try simp only [Act.put, sL])
        go_simp
        refine (PB.out _ (grown_none G0.out hHeld)).mono ?_
        rintro e wka47 ⟨rfl, gka47⟩
        have Gka47 := hide gka47
        clear gka47
        (try unfold memV)
        (try unfold encV)
        go_wp2_with fail
        refine hK.out _ _ (gw_trans hHeld Gka47.out) (fun hHeld => ?_)
        clear hK
        have OM := hide (OM.out.keep Gka47.out)
        (try simp only [Act.put, sL])
        refine wpAnyH_ready (rs := [2, 8]) (by kernel_rfl) (by simp) (AllReadyH.cons rfl (fun K hK => ?gka48) (AllReadyH.cons rfl (fun K hK => ?gka49) AllReadyH.nil))
        case gka48 =>
          (try simp only [Act.put, sL])
          go_simp
          refine (A.out _ _ (grown_none G0.out hHeld) (ints80 OM.out (zeros_len 80)) (SH80.out _)).mono ?_
          rintro e wka50 ⟨vb, vl, rfl, ob, ol, gka50⟩
          have Gka50 := hide gka50
          have OB := hide (ob.base (b' := W0.heap.size) (World.grownBy.size hHeld))
          have OL := hide (ol.base (b' := W0.heap.size) (World.grownBy.size hHeld))
          clear gka50 ob ol
          (try unfold memV)
          (try unfold encV)
          go_wp2_with fail
          refine hK.out _ _ (gw_trans hHeld Gka50.out) (fun hHeld => ?_)
          clear hK
          have OM := hide (OM.out.keep Gka50.out)
          (try simp only [Act.put, sL])
          refine wpAnyH_take (i := 3) (v := ?vka51) rfl (by kernel_rfl) (by kernel_rfl) (by kernel_rfl) (fun _ _ _ h => h) (Or.inl ⟨by rfl, ?yka51⟩) hHeld ?rka51
          case yka51 => (intro w' hSw; go_simp; (try with_reducible rfl))
          (try simp only [Act.put, sL])
          refine wpAnyH_take (i := 4) (v := ?vka52) rfl (by kernel_rfl) (by kernel_rfl) (by kernel_rfl) (fun _ _ _ h => h) (Or.inl ⟨by rfl, ?yka52⟩) hHeld ?rka52
          case yka52 => (intro w' hSw; go_simp; (try with_reducible rfl))
          (try simp only [Act.put, sL])
          refine wpAnyH_take (i := 5) (v := ?vka53) rfl (by kernel_rfl) (by kernel_rfl) (by kernel_rfl) (fun _ _ _ h => h) (Or.inl ⟨by rfl, ?yka53⟩) hHeld ?rka53
          case yka53 => (intro w' hSw; go_simp; (try with_reducible rfl))
          (try simp only [Act.put, sL])
          refine wpAnyH_take (i := 6) (v := ?vka54) rfl (by kernel_rfl) (by kernel_rfl) (by kernel_rfl) (fun _ _ _ h => h) (Or.inl ⟨by rfl, ?yka54⟩) hHeld ?rka54
          case yka54 => (intro w' hSw; go_simp; (try with_reducible rfl))
          (try simp only [Act.put, sL])
          refine wpAnyH_take (i := 7) (v := ?vka55) rfl (by kernel_rfl) (by kernel_rfl) (by kernel_rfl) (fun _ _ _ h => h) (Or.inl ⟨by rfl, ?yka55⟩) hHeld ?rka55
          case yka55 => (intro w' hSw; go_simp; (try with_reducible rfl))
          (try simp only [Act.put, sL])
          refine wpAnyH_ready (rs := [8]) (by kernel_rfl) (by simp) (AllReadyH.cons rfl (fun K hK => ?_) AllReadyH.nil)
          (try simp only [Act.put, sL])
          go_simp
          go_wp2_with fail
          have HB := hide (show W0.heap.size ≤ wka50.heap.size from by first | exact Nat.le_refl _ | exact World.grownBy.size hHeld)
          refine hK.out _ _ (gw_alloc hHeld (.cells (encC (zeros 225) false).toArray 32)) (fun hHeld => ?_)
          clear hK
          have HZ := hide (show BlkE (wka50.alloc (.cells (encC (zeros 225) false).toArray 32)) wka50.heap.size (zeros 225) false from BlkE.new wka50 (zeros 225) false)
          have OB := hide (OB.out.keep (grown_alloc wka50 (.cells (encC (zeros 225) false).toArray 32) none))
          have OL := hide (OL.out.keep (grown_alloc wka50 (.cells (encC (zeros 225) false).toArray 32) none))
          generalize wka50.alloc (.cells (encC (zeros 225) false).toArray 32) = wzka56 at *
          (try simp only [Act.put, sL])
          refine wpAnyH_ready (rs := [9]) (by kernel_rfl) (by simp) (AllReadyH.cons rfl (fun K hK => ?_) AllReadyH.nil)
          (try simp only [Act.put, sL])
          refine step_store_v rfl 32 _ _ rfl (wka50.heap.size) 0 32 (encC (zeros 225) false) (encC m t) rfl rfl HZ.out (by rw [ZL.out, CM.out]; omega) (by rw [CM.out]; exact size226) (encC_one _ _) ?_
          have PU := HZ.out.putAll (m := m) (t := t) (zeros_len 225) ML.out
          have OB := hide (OB.out.keepBut PU.2 HZ.out (by decide))
          have OL := hide (OL.out.keepBut PU.2 HZ.out (by decide))
          refine hK.out _ _ (gw_own hHeld PU.2 HB.out) (fun hHeld => ?_)
          clear hK
          (try simp only [Act.put, sL])
          refine wpAnyH_take (i := 10) (v := ?vka58) rfl (by kernel_rfl) (by kernel_rfl) (by kernel_rfl) (fun _ _ _ h => h) (Or.inl ⟨by rfl, ?yka58⟩) hHeld ?rka58
          case yka58 => (intro w' hSw; go_simp; (try with_reducible rfl))
          (try simp only [Act.put, sL])
          refine wpAnyH_take (i := 11) (v := ?vka59) rfl (by kernel_rfl) (by kernel_rfl) (by kernel_rfl) (fun _ _ _ h => h) (Or.inl ⟨by rfl, ?yka59⟩) hHeld ?rka59
          case yka59 => (intro w' hSw; go_simp; (try with_reducible rfl))
          (try simp only [Act.put, sL])
          refine wpAnyH_take (i := 12) (v := ?vka60) rfl (by kernel_rfl) (by kernel_rfl) (by kernel_rfl) (fun _ _ _ h => h) (Or.inl ⟨by rfl, ?yka60⟩) hHeld ?rka60
          case yka60 => (intro w' hSw; go_simp; (try with_reducible rfl))
          (try simp only [Act.put, sL])
          refine wpAnyH_done (by kernel_rfl) ?_ _
          go_wp2_with fail
          go_meet
          exact ⟨wka50.heap.size, rfl, rfl, PU.1, OB.out, OL.out, HB.out, hHeld⟩
        case gka49 =>
          (try simp only [Act.put, sL])
          go_simp
          go_wp2_with fail
          have HB := hide (show W0.heap.size ≤ wka47.heap.size from by first | exact Nat.le_refl _ | exact World.grownBy.size hHeld)
          refine hK.out _ _ (gw_alloc hHeld (.cells (encC (zeros 225) false).toArray 32)) (fun hHeld => ?_)
          clear hK
          have HZ := hide (show BlkE (wka47.alloc (.cells (encC (zeros 225) false).toArray 32)) wka47.heap.size (zeros 225) false from BlkE.new wka47 (zeros 225) false)
          have OM := hide (OM.out.keep (grown_alloc wka47 (.cells (encC (zeros 225) false).toArray 32) none))
          generalize wka47.alloc (.cells (encC (zeros 225) false).toArray 32) = wzka61 at *
          (try simp only [Act.put, sL])
          refine wpAnyH_ready (rs := [2]) (by kernel_rfl) (by simp) (AllReadyH.cons rfl (fun K hK => ?_) AllReadyH.nil)
          (try simp only [Act.put, sL])
          go_simp
          refine (A.out _ _ (grown_none G0.out hHeld) (ints80 OM.out (zeros_len 80)) (SH80.out _)).mono ?_
          rintro e wka62 ⟨vb, vl, rfl, ob, ol, gka62⟩
          have Gka62 := hide gka62
          have OB := hide (ob.base (b' := W0.heap.size) (World.grownBy.size hHeld))
          have OL := hide (ol.base (b' := W0.heap.size) (World.grownBy.size hHeld))
          clear gka62 ob ol
          (try unfold memV)
          (try unfold encV)
          go_wp2_with fail
          refine hK.out _ _ (gw_trans hHeld Gka62.out) (fun hHeld => ?_)
          clear hK
          have OM := hide (OM.out.keep Gka62.out)
          have HZ := hide (HZ.out.keep Gka62.out)
          (try simp only [Act.put, sL])
          refine wpAnyH_take (i := 3) (v := ?vka63) rfl (by kernel_rfl) (by kernel_rfl) (by kernel_rfl) (fun _ _ _ h => h) (Or.inl ⟨by rfl, ?yka63⟩) hHeld ?rka63
          case yka63 => (intro w' hSw; go_simp; (try with_reducible rfl))
          (try simp only [Act.put, sL])
          refine wpAnyH_take (i := 4) (v := ?vka64) rfl (by kernel_rfl) (by kernel_rfl) (by kernel_rfl) (fun _ _ _ h => h) (Or.inl ⟨by rfl, ?yka64⟩) hHeld ?rka64
          case yka64 => (intro w' hSw; go_simp; (try with_reducible rfl))
          (try simp only [Act.put, sL])
          refine wpAnyH_take (i := 5) (v := ?vka65) rfl (by kernel_rfl) (by kernel_rfl) (by kernel_rfl) (fun _ _ _ h => h) (Or.inl ⟨by rfl, ?yka65⟩) hHeld ?rka65
          case yka65 => (intro w' hSw; go_simp; (try with_reducible rfl))
          (try simp only [Act.put, sL])
          refine wpAnyH_take (i := 6) (v := ?vka66) rfl (by kernel_rfl) (by kernel_rfl) (by kernel_rfl) (fun _ _ _ h => h) (Or.inl ⟨by rfl, ?yka66⟩) hHeld ?rka66
          case yka66 => (intro w' hSw; go_simp; (try with_reducible rfl))
          (try simp only [Act.put, sL])
          refine wpAnyH_take (i := 7) (v := ?vka67) rfl (by kernel_rfl) (by kernel_rfl) (by kernel_rfl) (fun _ _ _ h => h) (Or.inl ⟨by rfl, ?yka67⟩) hHeld ?rka67
          case yka67 => (intro w' hSw; go_simp; (try with_reducible rfl))
          (try simp only [Act.put, sL])
          refine wpAnyH_ready (rs := [9]) (by kernel_rfl) (by simp) (AllReadyH.cons rfl (fun K hK => ?_) AllReadyH.nil)
          (try simp only [Act.put, sL])
          refine step_store_v rfl 32 _ _ rfl (wka47.heap.size) 0 32 (encC (zeros 225) false) (encC m t) rfl rfl HZ.out (by rw [ZL.out, CM.out]; omega) (by rw [CM.out]; exact size226) (encC_one _ _) ?_
          have PU := HZ.out.putAll (m := m) (t := t) (zeros_len 225) ML.out
          have OB := hide (OB.out.keepBut PU.2 HZ.out (by decide))
          have OL := hide (OL.out.keepBut PU.2 HZ.out (by decide))
          refine hK.out _ _ (gw_own hHeld PU.2 HB.out) (fun hHeld => ?_)
          clear hK
          (try simp only [Act.put, sL])
          refine wpAnyH_take (i := 10) (v := ?vka69) rfl (by kernel_rfl) (by kernel_rfl) (by kernel_rfl) (fun _ _ _ h => h) (Or.inl ⟨by rfl, ?yka69⟩) hHeld ?rka69
          case yka69 => (intro w' hSw; go_simp; (try with_reducible rfl))
          (try simp only [Act.put, sL])
          refine wpAnyH_take (i := 11) (v := ?vka70) rfl (by kernel_rfl) (by kernel_rfl) (by kernel_rfl) (fun _ _ _ h => h) (Or.inl ⟨by rfl, ?yka70⟩) hHeld ?rka70
          case yka70 => (intro w' hSw; go_simp; (try with_reducible rfl))
          (try simp only [Act.put, sL])
          refine wpAnyH_take (i := 12) (v := ?vka71) rfl (by kernel_rfl) (by kernel_rfl) (by kernel_rfl) (fun _ _ _ h => h) (Or.inl ⟨by rfl, ?yka71⟩) hHeld ?rka71
          case yka71 => (intro w' hSw; go_simp; (try with_reducible rfl))
          (try simp only [Act.put, sL])
          refine wpAnyH_done (by kernel_rfl) ?_ _
          go_wp2_with fail
          go_meet
          exact ⟨wka47.heap.size, rfl, rfl, PU.1, OB.out, OL.out, HB.out, hHeld⟩
      case gka46 =>
        (try simp only [Act.put, sL])
        go_simp
        go_wp2_with fail
        have HB := hide (show W0.heap.size ≤ wzka44.heap.size from by first | exact Nat.le_refl _ | exact World.grownBy.size hHeld)
        refine hK.out _ _ (gw_alloc hHeld (.cells (encC (zeros 225) false).toArray 32)) (fun hHeld => ?_)
        clear hK
        have HZ := hide (show BlkE (wzka44.alloc (.cells (encC (zeros 225) false).toArray 32)) wzka44.heap.size (zeros 225) false from BlkE.new wzka44 (zeros 225) false)
        have OM := hide (OM.out.keep (grown_alloc wzka44 (.cells (encC (zeros 225) false).toArray 32) none))
        generalize wzka44.alloc (.cells (encC (zeros 225) false).toArray 32) = wzka72 at *
        (try simp only [Act.put, sL])
        refine wpAnyH_ready (rs := [0]) (by kernel_rfl) (by simp) (AllReadyH.cons rfl (fun K hK => ?_) AllReadyH.nil)
        (try simp only [Act.put, sL])
        go_simp
        refine (PB.out _ (grown_none G0.out hHeld)).mono ?_
        rintro e wka73 ⟨rfl, gka73⟩
        have Gka73 := hide gka73
        clear gka73
        (try unfold memV)
        (try unfold encV)
        go_wp2_with fail
        refine hK.out _ _ (gw_trans hHeld Gka73.out) (fun hHeld => ?_)
        clear hK
        have OM := hide (OM.out.keep Gka73.out)
        have HZ := hide (HZ.out.keep Gka73.out)
        (try simp only [Act.put, sL])
        refine wpAnyH_ready (rs := [2]) (by kernel_rfl) (by simp) (AllReadyH.cons rfl (fun K hK => ?_) AllReadyH.nil)
        (try simp only [Act.put, sL])
        go_simp
        refine (A.out _ _ (grown_none G0.out hHeld) (ints80 OM.out (zeros_len 80)) (SH80.out _)).mono ?_
        rintro e wka74 ⟨vb, vl, rfl, ob, ol, gka74⟩
        have Gka74 := hide gka74
        have OB := hide (ob.base (b' := W0.heap.size) (World.grownBy.size hHeld))
        have OL := hide (ol.base (b' := W0.heap.size) (World.grownBy.size hHeld))
        clear gka74 ob ol
        (try unfold memV)
        (try unfold encV)
        go_wp2_with fail
        refine hK.out _ _ (gw_trans hHeld Gka74.out) (fun hHeld => ?_)
        clear hK
        have OM := hide (OM.out.keep Gka74.out)
        have HZ := hide (HZ.out.keep Gka74.out)
        (try simp only [Act.put, sL])
        refine wpAnyH_take (i := 3) (v := ?vka75) rfl (by kernel_rfl) (by kernel_rfl) (by kernel_rfl) (fun _ _ _ h => h) (Or.inl ⟨by rfl, ?yka75⟩) hHeld ?rka75
        case yka75 => (intro w' hSw; go_simp; (try with_reducible rfl))
        (try simp only [Act.put, sL])
        refine wpAnyH_take (i := 4) (v := ?vka76) rfl (by kernel_rfl) (by kernel_rfl) (by kernel_rfl) (fun _ _ _ h => h) (Or.inl ⟨by rfl, ?yka76⟩) hHeld ?rka76
        case yka76 => (intro w' hSw; go_simp; (try with_reducible rfl))
        (try simp only [Act.put, sL])
        refine wpAnyH_take (i := 5) (v := ?vka77) rfl (by kernel_rfl) (by kernel_rfl) (by kernel_rfl) (fun _ _ _ h => h) (Or.inl ⟨by rfl, ?yka77⟩) hHeld ?rka77
        case yka77 => (intro w' hSw; go_simp; (try with_reducible rfl))
        (try simp only [Act.put, sL])
        refine wpAnyH_take (i := 6) (v := ?vka78) rfl (by kernel_rfl) (by kernel_rfl) (by kernel_rfl) (fun _ _ _ h => h) (Or.inl ⟨by rfl, ?yka78⟩) hHeld ?rka78
        case yka78 => (intro w' hSw; go_simp; (try with_reducible rfl))
        (try simp only [Act.put, sL])
        refine wpAnyH_take (i := 7) (v := ?vka79) rfl (by kernel_rfl) (by kernel_rfl) (by kernel_rfl) (fun _ _ _ h => h) (Or.inl ⟨by rfl, ?yka79⟩) hHeld ?rka79
        case yka79 => (intro w' hSw; go_simp; (try with_reducible rfl))
        (try simp only [Act.put, sL])
        refine wpAnyH_ready (rs := [9]) (by kernel_rfl) (by simp) (AllReadyH.cons rfl (fun K hK => ?_) AllReadyH.nil)
        (try simp only [Act.put, sL])
        refine step_store_v rfl 32 _ _ rfl (wzka44.heap.size) 0 32 (encC (zeros 225) false) (encC m t) rfl rfl HZ.out (by rw [ZL.out, CM.out]; omega) (by rw [CM.out]; exact size226) (encC_one _ _) ?_
        have PU := HZ.out.putAll (m := m) (t := t) (zeros_len 225) ML.out
        have OB := hide (OB.out.keepBut PU.2 HZ.out (by decide))
        have OL := hide (OL.out.keepBut PU.2 HZ.out (by decide))
        refine hK.out _ _ (gw_own hHeld PU.2 HB.out) (fun hHeld => ?_)
        clear hK
        (try simp only [Act.put, sL])
        refine wpAnyH_take (i := 10) (v := ?vka81) rfl (by kernel_rfl) (by kernel_rfl) (by kernel_rfl) (fun _ _ _ h => h) (Or.inl ⟨by rfl, ?yka81⟩) hHeld ?rka81
        case yka81 => (intro w' hSw; go_simp; (try with_reducible rfl))
        (try simp only [Act.put, sL])
        refine wpAnyH_take (i := 11) (v := ?vka82) rfl (by kernel_rfl) (by kernel_rfl) (by kernel_rfl) (fun _ _ _ h => h) (Or.inl ⟨by rfl, ?yka82⟩) hHeld ?rka82
        case yka82 => (intro w' hSw; go_simp; (try with_reducible rfl))
        (try simp only [Act.put, sL])
        refine wpAnyH_take (i := 12) (v := ?vka83) rfl (by kernel_rfl) (by kernel_rfl) (by kernel_rfl) (fun _ _ _ h => h) (Or.inl ⟨by rfl, ?yka83⟩) hHeld ?rka83
        case yka83 => (intro w' hSw; go_simp; (try with_reducible rfl))
        (try simp only [Act.put, sL])
        refine wpAnyH_done (by kernel_rfl) ?_ _
        go_wp2_with fail
        go_meet
        exact ⟨wzka44.heap.size, rfl, rfl, PU.1, OB.out, OL.out, HB.out, hHeld⟩
    case gka3 =>
      (try simp only [Act.put, sL])
      go_simp
      go_wp2_with fail
      have HB := hide (show W0.heap.size ≤ W0.heap.size from by first | exact Nat.le_refl _ | exact World.grownBy.size hHeld)
      refine hK.out _ _ (gw_alloc hHeld (.cells (encC (zeros 225) false).toArray 32)) (fun hHeld => ?_)
      clear hK
      have HZ := hide (show BlkE ((W0.alloc (.cells (encC (zeros 225) false).toArray 32)).drew) W0.heap.size (zeros 225) false from BlkE.new W0.drew (zeros 225) false)
      generalize (W0.alloc (.cells (encC (zeros 225) false).toArray 32)).drew = wzka84 at *
      (try simp only [Act.put, sL])
      refine wpAnyH_ready (rs := [0, 1]) (by kernel_rfl) (by simp) (AllReadyH.cons rfl (fun K hK => ?gka85) (AllReadyH.cons rfl (fun K hK => ?gka86) AllReadyH.nil))
      case gka85 =>
        (try simp only [Act.put, sL])
        go_simp
        refine (PB.out _ (grown_none G0.out hHeld)).mono ?_
        rintro e wka87 ⟨rfl, gka87⟩
        have Gka87 := hide gka87
        clear gka87
        (try unfold memV)
        (try unfold encV)
        go_wp2_with fail
        refine hK.out _ _ (gw_trans hHeld Gka87.out) (fun hHeld => ?_)
        clear hK
        have HZ := hide (HZ.out.keep Gka87.out)
        (try simp only [Act.put, sL])
        refine wpAnyH_ready (rs := [1]) (by kernel_rfl) (by simp) (AllReadyH.cons rfl (fun K hK => ?_) AllReadyH.nil)
        (try simp only [Act.put, sL])
        go_simp
        go_wp2_with fail
        refine hK.out _ _ (gw_alloc hHeld (.cells (arrI (zeros 80)) 3)) (fun hHeld => ?_)
        clear hK
        have OM := hide (show Blk (wka87.alloc (.cells (arrI (zeros 80)) 3)) wka87.heap.size 3 (zeros 80) from Blk.new wka87 3 (zeros 80))
        have HZ := hide (HZ.out.keep (grown_alloc wka87 (.cells (arrI (zeros 80)) 3) none))
        generalize wka87.alloc (.cells (arrI (zeros 80)) 3) = wzka88 at *
        (try simp only [Act.put, sL])
        refine wpAnyH_ready (rs := [2]) (by kernel_rfl) (by simp) (AllReadyH.cons rfl (fun K hK => ?_) AllReadyH.nil)
        (try simp only [Act.put, sL])
        go_simp
        refine (A.out _ _ (grown_none G0.out hHeld) (ints80 OM.out (zeros_len 80)) (SH80.out _)).mono ?_
        rintro e wka89 ⟨vb, vl, rfl, ob, ol, gka89⟩
        have Gka89 := hide gka89
        have OB := hide (ob.base (b' := W0.heap.size) (World.grownBy.size hHeld))
        have OL := hide (ol.base (b' := W0.heap.size) (World.grownBy.size hHeld))
        clear gka89 ob ol
        (try unfold memV)
        (try unfold encV)
        go_wp2_with fail
        refine hK.out _ _ (gw_trans hHeld Gka89.out) (fun hHeld => ?_)
        clear hK
        have HZ := hide (HZ.out.keep Gka89.out)
        have OM := hide (OM.out.keep Gka89.out)
        (try simp only [Act.put, sL])
        refine wpAnyH_take (i := 3) (v := ?vka90) rfl (by kernel_rfl) (by kernel_rfl) (by kernel_rfl) (fun _ _ _ h => h) (Or.inl ⟨by rfl, ?yka90⟩) hHeld ?rka90
        case yka90 => (intro w' hSw; go_simp; (try with_reducible rfl))
        (try simp only [Act.put, sL])
        refine wpAnyH_take (i := 4) (v := ?vka91) rfl (by kernel_rfl) (by kernel_rfl) (by kernel_rfl) (fun _ _ _ h => h) (Or.inl ⟨by rfl, ?yka91⟩) hHeld ?rka91
        case yka91 => (intro w' hSw; go_simp; (try with_reducible rfl))
        (try simp only [Act.put, sL])
        refine wpAnyH_take (i := 5) (v := ?vka92) rfl (by kernel_rfl) (by kernel_rfl) (by kernel_rfl) (fun _ _ _ h => h) (Or.inl ⟨by rfl, ?yka92⟩) hHeld ?rka92
        case yka92 => (intro w' hSw; go_simp; (try with_reducible rfl))
        (try simp only [Act.put, sL])
        refine wpAnyH_take (i := 6) (v := ?vka93) rfl (by kernel_rfl) (by kernel_rfl) (by kernel_rfl) (fun _ _ _ h => h) (Or.inl ⟨by rfl, ?yka93⟩) hHeld ?rka93
        case yka93 => (intro w' hSw; go_simp; (try with_reducible rfl))
        (try simp only [Act.put, sL])
        refine wpAnyH_take (i := 7) (v := ?vka94) rfl (by kernel_rfl) (by kernel_rfl) (by kernel_rfl) (fun _ _ _ h => h) (Or.inl ⟨by rfl, ?yka94⟩) hHeld ?rka94
        case yka94 => (intro w' hSw; go_simp; (try with_reducible rfl))
        (try simp only [Act.put, sL])
        refine wpAnyH_ready (rs := [9]) (by kernel_rfl) (by simp) (AllReadyH.cons rfl (fun K hK => ?_) AllReadyH.nil)
        (try simp only [Act.put, sL])
        refine step_store_v rfl 32 _ _ rfl (W0.heap.size) 0 32 (encC (zeros 225) false) (encC m t) rfl rfl HZ.out (by rw [ZL.out, CM.out]; omega) (by rw [CM.out]; exact size226) (encC_one _ _) ?_
        have PU := HZ.out.putAll (m := m) (t := t) (zeros_len 225) ML.out
        have OB := hide (OB.out.keepBut PU.2 HZ.out (by decide))
        have OL := hide (OL.out.keepBut PU.2 HZ.out (by decide))
        refine hK.out _ _ (gw_own hHeld PU.2 HB.out) (fun hHeld => ?_)
        clear hK
        (try simp only [Act.put, sL])
        refine wpAnyH_take (i := 10) (v := ?vka96) rfl (by kernel_rfl) (by kernel_rfl) (by kernel_rfl) (fun _ _ _ h => h) (Or.inl ⟨by rfl, ?yka96⟩) hHeld ?rka96
        case yka96 => (intro w' hSw; go_simp; (try with_reducible rfl))
        (try simp only [Act.put, sL])
        refine wpAnyH_take (i := 11) (v := ?vka97) rfl (by kernel_rfl) (by kernel_rfl) (by kernel_rfl) (fun _ _ _ h => h) (Or.inl ⟨by rfl, ?yka97⟩) hHeld ?rka97
        case yka97 => (intro w' hSw; go_simp; (try with_reducible rfl))
        (try simp only [Act.put, sL])
        refine wpAnyH_take (i := 12) (v := ?vka98) rfl (by kernel_rfl) (by kernel_rfl) (by kernel_rfl) (fun _ _ _ h => h) (Or.inl ⟨by rfl, ?yka98⟩) hHeld ?rka98
        case yka98 => (intro w' hSw; go_simp; (try with_reducible rfl))
        (try simp only [Act.put, sL])
        refine wpAnyH_done (by kernel_rfl) ?_ _
        go_wp2_with fail
        go_meet
        exact ⟨W0.heap.size, rfl, rfl, PU.1, OB.out, OL.out, HB.out, hHeld⟩
      case gka86 =>
        (try simp only [Act.put, sL])
        go_simp
        go_wp2_with fail
        refine hK.out _ _ (gw_alloc hHeld (.cells (arrI (zeros 80)) 3)) (fun hHeld => ?_)
        clear hK
        have OM := hide (show Blk (wzka84.alloc (.cells (arrI (zeros 80)) 3)) wzka84.heap.size 3 (zeros 80) from Blk.new wzka84 3 (zeros 80))
        have HZ := hide (HZ.out.keep (grown_alloc wzka84 (.cells (arrI (zeros 80)) 3) none))
        generalize wzka84.alloc (.cells (arrI (zeros 80)) 3) = wzka99 at *
        (try simp only [Act.put, sL])
        refine wpAnyH_ready (rs := [0]) (by kernel_rfl) (by simp) (AllReadyH.cons rfl (fun K hK => ?_) AllReadyH.nil)
        (try simp only [Act.put, sL])
        go_simp
        refine (PB.out _ (grown_none G0.out hHeld)).mono ?_
        rintro e wka100 ⟨rfl, gka100⟩
        have Gka100 := hide gka100
        clear gka100
        (try unfold memV)
        (try unfold encV)
        go_wp2_with fail
        refine hK.out _ _ (gw_trans hHeld Gka100.out) (fun hHeld => ?_)
        clear hK
        have HZ := hide (HZ.out.keep Gka100.out)
        have OM := hide (OM.out.keep Gka100.out)
        (try simp only [Act.put, sL])
        refine wpAnyH_ready (rs := [2]) (by kernel_rfl) (by simp) (AllReadyH.cons rfl (fun K hK => ?_) AllReadyH.nil)
        (try simp only [Act.put, sL])
        go_simp
        refine (A.out _ _ (grown_none G0.out hHeld) (ints80 OM.out (zeros_len 80)) (SH80.out _)).mono ?_
        rintro e wka101 ⟨vb, vl, rfl, ob, ol, gka101⟩
        have Gka101 := hide gka101
        have OB := hide (ob.base (b' := W0.heap.size) (World.grownBy.size hHeld))
        have OL := hide (ol.base (b' := W0.heap.size) (World.grownBy.size hHeld))
        clear gka101 ob ol
        (try unfold memV)
        (try unfold encV)
        go_wp2_with fail
        refine hK.out _ _ (gw_trans hHeld Gka101.out) (fun hHeld => ?_)
        clear hK
        have HZ := hide (HZ.out.keep Gka101.out)
        have OM := hide (OM.out.keep Gka101.out)
        (try simp only [Act.put, sL])
        refine wpAnyH_take (i := 3) (v := ?vka102) rfl (by kernel_rfl) (by kernel_rfl) (by kernel_rfl) (fun _ _ _ h => h) (Or.inl ⟨by rfl, ?yka102⟩) hHeld ?rka102
        case yka102 => (intro w' hSw; go_simp; (try with_reducible rfl))
        (try simp only [Act.put, sL])
        refine wpAnyH_take (i := 4) (v := ?vka103) rfl (by kernel_rfl) (by kernel_rfl) (by kernel_rfl) (fun _ _ _ h => h) (Or.inl ⟨by rfl, ?yka103⟩) hHeld ?rka103
        case yka103 => (intro w' hSw; go_simp; (try with_reducible rfl))
        (try simp only [Act.put, sL])
        refine wpAnyH_take (i := 5) (v := ?vka104) rfl (by kernel_rfl) (by kernel_rfl) (by kernel_rfl) (fun _ _ _ h => h) (Or.inl ⟨by rfl, ?yka104⟩) hHeld ?rka104
        case yka104 => (intro w' hSw; go_simp; (try with_reducible rfl))
        (try simp only [Act.put, sL])
        refine wpAnyH_take (i := 6) (v := ?vka105) rfl (by kernel_rfl) (by kernel_rfl) (by kernel_rfl) (fun _ _ _ h => h) (Or.inl ⟨by rfl, ?yka105⟩) hHeld ?rka105
        case yka105 => (intro w' hSw; go_simp; (try with_reducible rfl))
        (try simp only [Act.put, sL])
        refine wpAnyH_take (i := 7) (v := ?vka106) rfl (by kernel_rfl) (by kernel_rfl) (by kernel_rfl) (fun _ _ _ h => h) (Or.inl ⟨by rfl, ?yka106⟩) hHeld ?rka106
        case yka106 => (intro w' hSw; go_simp; (try with_reducible rfl))
        (try simp only [Act.put, sL])
        refine wpAnyH_ready (rs := [9]) (by kernel_rfl) (by simp) (AllReadyH.cons rfl (fun K hK => ?_) AllReadyH.nil)
        (try simp only [Act.put, sL])
        refine step_store_v rfl 32 _ _ rfl (W0.heap.size) 0 32 (encC (zeros 225) false) (encC m t) rfl rfl HZ.out (by rw [ZL.out, CM.out]; omega) (by rw [CM.out]; exact size226) (encC_one _ _) ?_
        have PU := HZ.out.putAll (m := m) (t := t) (zeros_len 225) ML.out
        have OB := hide (OB.out.keepBut PU.2 HZ.out (by decide))
        have OL := hide (OL.out.keepBut PU.2 HZ.out (by decide))
        refine hK.out _ _ (gw_own hHeld PU.2 HB.out) (fun hHeld => ?_)
        clear hK
        (try simp only [Act.put, sL])
        refine wpAnyH_take (i := 10) (v := ?vka108) rfl (by kernel_rfl) (by kernel_rfl) (by kernel_rfl) (fun _ _ _ h => h) (Or.inl ⟨by rfl, ?yka108⟩) hHeld ?rka108
        case yka108 => (intro w' hSw; go_simp; (try with_reducible rfl))
        (try simp only [Act.put, sL])
        refine wpAnyH_take (i := 11) (v := ?vka109) rfl (by kernel_rfl) (by kernel_rfl) (by kernel_rfl) (fun _ _ _ h => h) (Or.inl ⟨by rfl, ?yka109⟩) hHeld ?rka109
        case yka109 => (intro w' hSw; go_simp; (try with_reducible rfl))
        (try simp only [Act.put, sL])
        refine wpAnyH_take (i := 12) (v := ?vka110) rfl (by kernel_rfl) (by kernel_rfl) (by kernel_rfl) (fun _ _ _ h => h) (Or.inl ⟨by rfl, ?yka110⟩) hHeld ?rka110
        case yka110 => (intro w' hSw; go_simp; (try with_reducible rfl))
        (try simp only [Act.put, sL])
        refine wpAnyH_done (by kernel_rfl) ?_ _
        go_wp2_with fail
        go_meet
        exact ⟨W0.heap.size, rfl, rfl, PU.1, OB.out, OL.out, HB.out, hHeld⟩
  case rest =>
  obtain ⟨b1, rfl, rfl, v1b, ob1, ol1, hb1, g1⟩ := hcut
  have V1 := hide v1b
  have O1 := hide ol1
  have B1 := hide ob1
  have G1 := hide g1
  clear v1b ob1 ol1 hb1 g1 A PB SH80 hz hmk
  go_wp2_with fail
  refine (PF.out _ (grown_none G0.out G1.out)).mono ?_
  rintro x W2 ⟨rfl, g2⟩
  have V2 := hide (V1.out.keep g2)
  have O2 := hide (O1.out.keep g2)
  have B2 := hide (B1.out.keep g2)
  have G2 := hide (grown_none G1.out g2)
  clear V1 O1 B1 G1 g2 PF
  (try unfold memV)
  go_wp2_with fail
  refine (D.out _ W2 (grown_none G0.out G2.out) B2.out.byts B2.out.shp).mono ?_
  rintro x W3 ⟨v3, rfl, o3, g3⟩
  (try unfold memV)
  have FB := hide (fresh_mem W3 NM t NL.out)
  have GA := hide (grown_none g3 FB.out.2.2)
  have V4 := hide (V2.out.keep GA.out)
  have O4 := hide (O2.out.keep GA.out)
  have K4 := hide (o3.keep FB.out.2.2)
  have G4 := hide (grown_none G2.out GA.out)
  clear V2 O2 B2 G2 GA g3 o3 D
  go_upto_region 3 with (first | refine wpList_store_v rfl 30 _ _ rfl W3.heap.size 0 30 (memC (zeros 101) false) (memC NM t) rfl rfl FB.out.1 (by rw [ZM.out, CN.out]; omega) (by rw [CN.out]; exact size102) (memC_one _ _) ?_)
  (try simp only [Act.put])
  have M4 := hide FB.out.2.1
  clear FB hy
  generalize putV (W3.alloc (.cells (memC (zeros 101) false).toArray 30)) W3.heap.size 0 (memC NM t) = W4 at *
  generalize W3.heap.size = bm at *
  have SM := hide (topSame_any _ _ L L W4 O4.out.ints K4.out.ints (by rw [EL.out]; omega) (by rw [EL.out]; omega))
  rw [show decide (L = L) = true from decide_eq_true rfl] at SM
  have EM := hide (fun ops rest o a w Q hgd x y ho hx hy k => @wpList_eq_mem ops rest o a w Q hgd x y ho NM t NL.out hx hy k)
  unfold memV at EM
  obtain ⟨gl, cl, rfl, _, _, _⟩ := O4.out.form (by rw [EL.out]; omega)
  have hl80 := EL.out
  rw [hl80] at SM ⊢
  clear O4 K4 hl80
  go_wp2_with fail
  refine SM.out.mono ?_
  rintro x W5 ⟨rfl, n, rfl⟩
  have GF := hide (grown_none G4.out (grown_drewN' W4 n none))
  have V5 := hide (V4.out.keep (grown_drewN' W4 n none))
  have M5 := hide (M4.out.keep (grown_drewN' W4 n none))
  have FF := hide (F.out _ GF.out)
  have c100 := M5.out.cell 100 (by rw [NL.out]; omega)
  rw [SD.out] at c100
  clear SM V4 M4 G4 GF F
  generalize W4.drewN n = W6 at *
  go_wp2_with (first | refine EM.out _ _ _ _ _ _ (by first | rfl | (simp [Region.wanted, yielded]; done) | (simp [Region.wanted, yielded]; omega)) _ _ rfl rfl rfl ?_ | refine wpList_load_vG (by first | rfl | (simp [Region.wanted, yielded]; done) | (simp [Region.wanted, yielded]; omega)) 30 _ rfl bm 0 102 rfl 30 (memC NM t) M5.out _ Tryz.underlying30 rfl size102 (by rw [CN.out]; omega) _ AN.out ?_ | refine wpList_load_vG (by first | rfl | (simp [Region.wanted, yielded]; done) | (simp [Region.wanted, yielded]; omega)) 30 _ rfl b1 124 102 rfl 32 (encC m t) V5.out _ Tryz.underlying30 rfl size102 (by rw [CM.out]; omega) _ EP.out ?_)
  exact FF.out
end Go.Proofs.YtihphpcgjeokmaaGreatDoor
