/- Texts put together: CodL, CodH, LConM, LEnc, LCdS, TopMath, TopA, KeepC, TopB, OpensT, TopS, TopSil, TopZ, LTpA. -/
import Derived.Test.YtihphpcgjeokmaaGreatDoorBun7
import Derived.Test.YtihphpcgjeokmaaGreatDoorBun5
import Derived.Deep.Cut
import Derived.Test.YtihphpcgjeokmaaGreatDoorBun6
import Derived.Test.YtihphpcgjeokmaaGreatDoorBun1
import Derived.BigQuiet
import Derived.Deep.QuietTactic
import Derived.OwnWalk
import Derived.Deep.Slices
import Derived.Deep.CutRange
/- CodL -/
namespace Go.Proofs.YtihphpcgjeokmaaGreatDoor
open Go.RowKit
set_option linter.unusedVariables false
set_option linter.unusedSimpArgs false
set_option maxHeartbeats 4000000
theorem zero_pktK (w : World) : Sem.run Tryz.prog (zeroValue 59) w = .ok (.agg (arrI (zeros 25))) w := by
  have hz := zPkt
  cases hq : Tryz.prog.info? 59 with
  | none => simp [hq] at hz
  | some i =>
    have hi : i.zero = some (.agg (arrI (zeros 25))) := by simpa [hq] using hz
    simp [zeroValue, typeInfo, hq, hi]
theorem gud_64C {q : List Int} (hl : q.length = 25) (h : gudP q = true) : In64 q := fun i => by
  by_cases hi : i < 25
  · have := (gudP_iff q).1 h i hi
    have := moN_lt i hi
    omega
  · rw [getD_out _ i (by omega)]; omega
set_option maxRecDepth 100000 in
theorem run_build_pkt (kd : Int) (q : List Int) (hq : q.length = 8) (w : World) : Sem.run Tryz.prog (Instr.build 59 #[(0, .int .i64 kd), (1, .agg (arrI q))]) w = .ok (.agg (intsV (kd :: (q ++ zeros 16))).toArray) w := by
  obtain ⟨a, b, c, d, e, f, g, h, rfl⟩ : ∃ a b c d e f g h, q = [a, b, c, d, e, f, g, h] := by
    match q, hq with
    | [a, b, c, d, e, f, g, h], _ => exact ⟨a, b, c, d, e, f, g, h, rfl⟩
  kernel_rfl
theorem yields_build_pkt {w : World} {a : Act} {op : Oper} {x y : Operand} (kd : Int) (q P : List Int) (hq : ∀ u, Sem.run Tryz.prog (Instr.build 59 #[(0, .int .i64 kd), (1, .agg (arrI q))]) u = .ok (.agg (intsV P).toArray) u) (ho : op.op = .build 59 #[(0, x), (1, y)]) (hx : a.eval x = .int .i64 kd) (hy : a.eval y = .agg (arrI q)) :
    (execOp a.eval op).run Tryz.prog w = .ok (.value (.agg (intsV P).toArray)) w := by
  have e : (#[(0, x), (1, y)] : Array (Nat × Operand)).map (fun (i, x) => (i, a.eval x)) = #[(0, .int .i64 kd), (1, .agg (arrI q))] := by simp [hx, hy]
  unfold execOp
  simp only [ho, e, Sem.run_bind, hq, Result.andThen_ok, Sem.run_pure]
theorem pkt_put (kd : Int) (q S : List Int) (hq : q.length = 8) (hS : S.length = 16) : ovr (kd :: (q ++ zeros 16)) 9 S = kd :: (q ++ S) := by
  refine list_nth (by rw [ovr_len]; simp [hq, hS, zeros_len]) (fun i hi => ?_)
  rw [ovr_len] at hi
  have h25 : i < 25 := by simp [hq, zeros_len] at hi; omega
  rw [ovr_nth _ _ _ _ hi]
  by_cases h0 : i = 0
  · subst h0; rw [if_neg (by omega)]; rfl
  · obtain ⟨j, rfl⟩ : ∃ j, i = j + 1 := ⟨i - 1, by omega⟩
    show (if 9 ≤ j + 1 ∧ j + 1 < 9 + S.length then nth S (j + 1 - 9) else nth (q ++ zeros 16) j) = nth (q ++ S) j
    by_cases h8 : j < 8
    · rw [if_neg (by omega), nth_app_l _ _ _ (by omega), nth_app_l _ _ _ (by omega)]
    · rw [if_pos (by omega), nth_app_r q S j (by omega), hq, show j + 1 - 9 = j - 8 by omega]
theorem enc_putM (A I M0 M : List Int) (s t : Bool) (hA : A.length = 4) (hI : I.length = 120) (h0 : M0.length = 101) (hM : M.length = 101) : splV (encC (A ++ (I ++ M0)) s) 124 (memC M t) = encC (A ++ (I ++ M)) t := by
  have e0 : encC (A ++ (I ++ M0)) s = (intsV A ++ intsV I) ++ ((intsV M0 ++ [.bool s]) ++ []) := by unfold encC mixC intsV; simp
  rw [e0, splV_mid _ _ _ _ 124 (by rw [List.length_append, intsV_len, intsV_len, hA, hI]) (by unfold memC; rw [mixC_len, hM, List.length_append, intsV_len, h0]; rfl)]
  unfold encC memC mixC intsV
  simp
def PktR (W : World) (P : List Int) (v : Value) (wx : World) : Prop := ∃ b, v = .pointer (some ⟨b, 0, none⟩) ∧ BlkV wx b 59 (intsV P) ∧ W.heap.size ≤ b ∧ W.grownBy wx none
set_option maxRecDepth 100000 in
theorem codEncode_err (w : World) (e : List Int) (s : Bool) (he : e.length = 225) (v : Value) (l : List Int) (hi : Ints w v l) (hsz : l.length * 8 ≤ 140737488351232) (r : Bool) (hk : ¬ enOk e l) : Calls Tryz.prog 12 #[encV e s, v, .bool r] w (EncE w (encM e l r) (encT e l r) (encB e l r) (encL e l r) (encE e l)) := by
  have Q0 := hide (EnQ.new w e s)
  have HE := hide he
  have CE := hide (encC_len he s)
  have AE := hide (BlkE.all s he)
  have ZC := hide (encC_len (zeros_len 225) false)
  have ZO := hide (encC_one (zeros 225) false)
  have hz := zero_enc
  have LI := hide (fun wr (g : w.grownBy wr none) => codListened_err wr e s he v l (Ints_keep hi g) hsz hk)
  have hne : encE e l ≠ 0 := by unfold encE; (repeat' split) <;> first | exact absurd ‹_› hk | decide
  have F := hide (show ∀ w', w.grownBy w' none → EncE w (encM e l r) (encT e l r) (encB e l r) (encL e l r) (encE e l) (.returned (.tuple #[encV (zeros 225) false, .slice none 0 0, .slice none 0 0, .int .i64 (encE e l)])) w' from fun w' q => ⟨_, _, by rw [(enc_no r hk).1, (enc_no r hk).2.1], by rw [(enc_no r hk).2.2.1]; exact OwnB_nil _ _, by rw [(enc_no r hk).2.2.2]; exact Own_nil _ _, q⟩)
  clear hk hi
  generalize EncE w (encM e l r) (encT e l r) (encB e l r) (encL e l r) (encE e l) = T at *
  generalize encE e l = en at *
  have hnb : (en == 0) = false := beq_eq_false_iff_ne.2 hne
  clear hne
  unfold LisE at LI
  obtain ⟨Z8, hZ8⟩ : ∃ Z8, zeros 8 = Z8 := ⟨_, rfl⟩
  have LQ := hide (show Z8.length = 8 by rw [← hZ8]; exact zeros_len 8)
  rw [hZ8] at LI
  clear hZ8
  unfold encV at LI hz F ⊢
  go_enter Tryz.func12, Tryz.ntmps12
  go_upto_region 1 with fail
  generalize (w.alloc (.cells (encC e s).toArray 32)).alloc (.cells (encC (zeros 225) false).toArray 32) = W0 at *
  go_wp2_with (first | refine wpList_load_v rfl 32 _ rfl w.heap.size 0 226 rfl 32 (encC e s) Q0.out.1 _ Tryz.underlying32 rfl size226 (by rw [CE.out]; omega) _ AE.out ?_)
  refine (LI.out W0 Q0.out.2.2).mono ?_
  rintro x W1 ⟨m, t, lm, rfl, g1⟩
  have LMM := hide lm
  clear lm LI
  obtain ⟨b1, b2, b3⟩ := fresh_arr W1 27 8 Z8 LQ.out
  have B1 := hide b1
  have NB := hide (show w.heap.size + 1 + 1 ≤ W1.heap.size from (Q0.out.keep g1).2.1.lt)
  have GA := grown_alloc W1 (.cells (arrI (zeros 8)) 27) none
  have QA := hide ((Q0.out.keep g1).keep GA)
  have PU := QA.out.1.putAll (m := m) (t := t) HE.out LMM.out
  have E2 := hide PU.1
  have R2 := hide (QA.out.2.1.keepBut PU.2 (by omega))
  have G2 := hide (grown_own QA.out.2.2 PU.2 (Nat.le_refl _))
  have B2 := hide (b1.keepBut PU.2 (by have := NB.out; omega))
  have PV := put_arr (rs' := Z8) B2.out (LQ.out.trans (zeros_len 8).symm)
  have B3 := hide PV.1
  have E3 := hide (E2.out.keepBut PV.2 (by have := NB.out; omega))
  have R3 := hide (R2.out.keepBut PV.2 (by have := NB.out; omega))
  have G3 := hide (grown_own G2.out PV.2 (by have := NB.out; omega))
  have CM := hide (encC_len LMM.out t)
  have OM := hide (encC_one m t)
  rw [z8'] at B1 QA E2 R2 G2 B2 B3 E3 R3 G3
  clear b1 b2 b3 GA PU PV g1 Q0 AE
  go_upto_region 2 with (first | refine wpList_store_v rfl 32 _ _ rfl w.heap.size 0 32 (encC e s) (encC m t) rfl rfl QA.out.1 (by rw [CE.out, CM.out]; omega) (by rw [CM.out]; exact size226) OM.out ?_ | refine wpList_store_arr rfl 27 _ _ rfl _ (zeros 8) Z8 rfl rfl B2.out (LQ.out.trans (zeros_len 8).symm) (by rw [zeros_len]; exact size8) ?_)
  (try simp only [Act.put])
  clear QA E2 R2 G2 B1 B2 OM
  generalize putArr _ W1.heap.size Z8 = W3 at *
  generalize W1.heap.size = bq at *
  have PB := hide (R3.out.putAll (m := zeros 225) (t := false) (zeros_len 225) (zeros_len 225))
  have FF := hide (F.out _ (grown_own G3.out PB.out.2 (by omega)))
  clear F
  go_wp2_with (first | refine wpList_store_v rfl 32 _ _ rfl (w.heap.size + 1) 0 32 (encC (zeros 225) false) (encC (zeros 225) false) rfl rfl R3.out (by rw [ZC.out]; omega) (by rw [ZC.out]; exact size226) ZO.out ?_)
  have hlv := loadVar_v PB.out.1 _ Tryz.underlying32 rfl (by rw [ZC.out]; exact size226)
  refine bodyPost_ret (v := .tuple #[.agg (encC (zeros 225) false).toArray, .slice none 0 0, .slice none 0 0, .int .i64 en]) ?_ rfl FF.out
  simp [results, Tryz.results12, asAddr, Act.put, hlv]
set_option maxRecDepth 100000 in
theorem codEncode_s (w : World) (e : List Int) (s : Bool) (he : e.length = 225) (v : Value) (l : List Int) (hi : Ints w v l) (hsz : l.length * 8 ≤ 140737488351232) (r : Bool) (hW : Wide w) (hX : TabA w 0 widq 8) (hT : TabA w 1 gains 8) (hG : Grows w) (hk : enOk e l) (hs : enKd e l r = 2) : Calls Tryz.prog 12 #[encV e s, v, .bool r] w (EncE w (encM e l r) (encT e l r) (encB e l r) (encL e l r) (encE e l)) := by
  have Q0 := hide (EnQ.new w e s)
  have HE := hide he
  have CE := hide (encC_len he s)
  have AE := hide (BlkE.all s he)
  have ZC := hide (encC_len (zeros_len 225) false)
  have ZO := hide (encC_one (zeros 225) false)
  have hz := zero_enc
  have LI := hide (fun wr (g : w.grownBy wr none) => codListened_yes wr e s he v l (Ints_keep hi g) hsz (Wide_keep hW g) hk)
  obtain ⟨hl, hg, hh, hc⟩ := id hk
  have cr := enC_right hh
  have cl : (enC e l).length = 80 := (enC_len hh).trans hl
  have il := enI_len hl hh
  have mm : (enMm e).length = 101 := prt_len _ _ _
  have ql : (enQ e l).length = 8 := quL_len _
  have lE : (enHp e l ++ (enI e l ++ enMm e)).length = 225 := by rw [List.length_append, List.length_append, il, mm]; rfl
  obtain ⟨E1, hE1⟩ : ∃ E1, enHp e l ++ (enI e l ++ enMm e) = E1 := ⟨_, rfl⟩
  have LE1 := hide (show E1.length = 225 by rw [← hE1]; exact lE)
  have pc : prt E1 44 80 = enC e l := by
    refine (tab_ext cl (fun i hi => ?_)).symm
    rw [← hE1, nth_app_r _ _ _ (by show 4 ≤ 44 + i; omega), show (enHp e l).length = 4 from rfl, nth_app_l _ _ _ (by rw [il]; omega)]
    unfold enI
    rw [nth_app_r _ _ _ (by rw [prt_len]; omega), prt_len, show 44 + i - 4 - 40 = i by omega]
  have pm : prt E1 124 101 = enMm e := by
    refine (tab_ext mm (fun i hi => ?_)).symm
    rw [← hE1, nth_app_r _ _ _ (by show 4 ≤ 124 + i; omega), show (enHp e l).length = 4 from rfl, nth_app_r _ _ _ (by rw [il]; omega), il, show 124 + i - 4 - 120 = i by omega]
  rw [hE1] at LI
  have IF := hide (fun wr (h : BlkE wr w.heap.size E1 s) => h.input 44 80 80 (by rw [LE1.out]; omega) (by omega))
  rw [pc] at IF
  obtain ⟨kd, hkd⟩ : ∃ kd, enKd e l r = kd := ⟨_, rfl⟩
  obtain ⟨q, hq⟩ : ∃ q, enQ e l = q := ⟨_, rfl⟩
  rw [hq] at ql LI
  have LQ := hide ql
  have KI := hide (fun wr (g : w.grownBy wr none) (h : Ints wr (.slice (some ⟨w.heap.size, 44, none⟩) 80 80) (enC e l)) => codKind_any (.slice (some ⟨w.heap.size, 44, none⟩) 80 80) (enC e l) r wr h cl cr)
  rw [show (if r = true then (1 : Int) else if dotS (enC e l) (enC e l) 80 < 1280 then 2 else 0) = kd from hkd] at KI
  obtain ⟨P0, hP0⟩ : ∃ P0, kd :: (q ++ zeros 16) = P0 := ⟨_, rfl⟩
  have LP0 := hide (show P0.length = 25 by rw [← hP0]; simp [ql, zeros_len])
  have RB := hide (fun u => run_build_pkt kd q ql u)
  rw [hP0] at RB
  have PG : gudP (enP e l r) = true := enP_good r hg
  have PL : (enP e l r).length = 25 := enP_len r hg
  have PK := hide (fun wr (g : w.grownBy wr none) => pkPack_any (enP e l r) PL (gud_64C PL PG) wr (TabA_keep hX g))
  unfold PkP at PK
  rw [show pkR (enP e l r) = pkA (enP e l r) from if_pos PG] at PK
  have PY := hide (fun wr (g : w.grownBy wr none) => codPlayed_any wr (Wide_keep hW g) (TabA_keep hT g) (growsC_keep hG g) (enMm e) s mm hg (enP e l r) PL PG)
  have ML := hide (plyM_len (enP e l r) mm)
  have F := hide (show ∀ vb vl w', OwnB w.heap.size w' vb (pkA (enP e l r)) → Own w.heap.size w' vl (plyL (enMm e) (enP e l r)) → w.grownBy w' none → EncE w (encM e l r) (encT e l r) (encB e l r) (encL e l r) (encE e l) (.returned (.tuple #[encV (enHp e l ++ (enI e l ++ plyM (enMm e) (enP e l r))) (plyS (enP e l r)), vb, vl, .int .i64 0])) w' from fun vb vl w' o1 o2 qq => ⟨vb, vl, by rw [(enc_yes r hk).1, (enc_yes r hk).2.1, (enc_yes r hk).2.2.2.2], by rw [(enc_yes r hk).2.2.1]; exact o1, by rw [(enc_yes r hk).2.2.2.1]; exact o2, qq⟩)
  have FL := hide (show (enHp e l ++ (enI e l ++ plyM (enMm e) (enP e l r))).length = 225 by rw [List.length_append, List.length_append, il, ML.out]; rfl)
  have SM := hide (show splV (encC E1 s) 124 (memC (plyM (enMm e) (enP e l r)) (plyS (enP e l r))) = encC (enHp e l ++ (enI e l ++ plyM (enMm e) (enP e l r))) (plyS (enP e l r)) from by
    rw [← hE1]
    exact enc_putM (enHp e l) (enI e l) (enMm e) _ s _ rfl il mm ML.out)
  have PM := hide (encC_mem s LE1.out)
  rw [pm] at PM
  have CE1 := hide (encC_len LE1.out s)
  have AE1 := hide (BlkE.all s LE1.out)
  have CMM := hide (memC_len mm s)
  have c0 := hide (show nth P0 0 = kd by rw [← hP0]; rfl)
  have kd2 : kd = 2 := by rw [← hkd]; exact hs
  have hne : (kd == 2) = true := beq_iff_eq.2 kd2
  have EP := hide (show P0 = enP e l r from by
    rw [← hP0, ← hq, ← hkd]
    unfold enP enS
    rw [if_pos hs])
  have AP := hide (BlkI.all (enP e l r) 25 PL)
  have LPP := hide PL
  clear hk hl hg hh hc cr cl il mm ql lE hE1 pc pm hkd hq hP0 PG PL hs hi hW hX hT hG kd2
  generalize EncE w (encM e l r) (encT e l r) (encB e l r) (encL e l r) (encE e l) = T at *
  generalize enHp e l ++ (enI e l ++ plyM (enMm e) (enP e l r)) = EF at *
  generalize plyM (enMm e) (enP e l r) = MF at *
  generalize plyS (enP e l r) = tf at *
  generalize plyL (enMm e) (enP e l r) = LF at *
  generalize pkA (enP e l r) = BF at *
  generalize pakE (enP e l r) = pe at *
  generalize enP e l r = PP at *
  generalize enMm e = MM at *
  generalize enC e l = CC at *
  unfold MmL at PY
  unfold encV at LI hz F ⊢
  unfold memV at PY
  go_enter Tryz.func12, Tryz.ntmps12
  go_upto_region 1 with fail
  generalize (w.alloc (.cells (encC e s).toArray 32)).alloc (.cells (encC (zeros 225) false).toArray 32) = W0 at *
  go_wp2_with (first | refine wpList_load_v rfl 32 _ rfl w.heap.size 0 226 rfl 32 (encC e s) Q0.out.1 _ Tryz.underlying32 rfl size226 (by rw [CE.out]; omega) _ AE.out ?_)
  refine (LI.out W0 Q0.out.2.2).mono ?_
  rintro x W1 ⟨rfl, g1⟩
  clear LI
  obtain ⟨b1, b2, b3⟩ := fresh_arr W1 27 8 q LQ.out
  have B1 := hide b1
  have NB := hide (show w.heap.size + 1 + 1 ≤ W1.heap.size from (Q0.out.keep g1).2.1.lt)
  have GA := grown_alloc W1 (.cells (arrI (zeros 8)) 27) none
  have QA := hide ((Q0.out.keep g1).keep GA)
  have PU := QA.out.1.putAll (m := E1) (t := s) HE.out LE1.out
  have E2 := hide PU.1
  have R2 := hide (QA.out.2.1.keepBut PU.2 (by omega))
  have G2 := hide (grown_own QA.out.2.2 PU.2 (Nat.le_refl _))
  have B2 := hide (b1.keepBut PU.2 (by have := NB.out; omega))
  have PV := put_arr (rs' := q) B2.out (LQ.out.trans (zeros_len 8).symm)
  have B3 := hide PV.1
  have E3 := hide (E2.out.keepBut PV.2 (by have := NB.out; omega))
  have R3 := hide (R2.out.keepBut PV.2 (by have := NB.out; omega))
  have G3 := hide (grown_own G2.out PV.2 (by have := NB.out; omega))
  have CM := hide (encC_len LE1.out s)
  have OM := hide (encC_one E1 s)
  rw [z8'] at B1 QA E2 R2 G2 B2 B3 E3 R3 G3
  clear b1 b2 b3 GA PU PV g1 Q0 AE
  go_upto_region 2 with (first | refine wpList_store_v rfl 32 _ _ rfl w.heap.size 0 32 (encC e s) (encC E1 s) rfl rfl QA.out.1 (by rw [CE.out, CM.out]; omega) (by rw [CM.out]; exact size226) OM.out ?_ | refine wpList_store_arr rfl 27 _ _ rfl _ (zeros 8) q rfl rfl B2.out (LQ.out.trans (zeros_len 8).symm) (by rw [zeros_len]; exact size8) ?_)
  (try simp only [Act.put])
  clear QA E2 R2 G2 B1 B2 OM
  generalize putArr _ W1.heap.size q = W3 at *
  generalize W1.heap.size = bq at *
  go_upto_region 4 with fail
  go_upto_region 5 with fail
  replace IF := hide (fun wr (g : W3.grownBy wr none) => IF.out wr (E3.out.keep g))
  clear hz
  have hzp := zero_pktK
  go_cut [13] from 18 (fun s13 wx => PktR W3 P0 s13 wx)
  case first =>
    refine wp_region_held_drew (S := GrownW W3) (by kernel_rfl) (gw_start _) (fun hHeld => ?_)
    refine wpAnyH_take (i := 0) (v := ?ve0) rfl (by kernel_rfl) (by kernel_rfl) (by kernel_rfl) (fun _ _ _ h => h) (Or.inl ⟨by rfl, ?ye0⟩) hHeld ?re0
    case ye0 => (intro w' hSw; go_simp; (try with_reducible rfl))
    (try simp only [Act.put, sL])
    refine wpAnyH_take (i := 1) (v := ?ve1) rfl (by kernel_rfl) (by kernel_rfl) (by kernel_rfl) (fun _ _ _ h => h) (Or.inl ⟨by rfl, ?ye1⟩) hHeld ?re1
    case ye1 => (intro w' hSw; go_simp; (try with_reducible rfl))
    (try simp only [Act.put, sL])
    refine wpAnyH_take (i := 3) (v := .agg (arrI q)) rfl (by kernel_rfl) (by kernel_rfl) (by kernel_rfl) (fun _ _ _ h => h) (Or.inl ⟨by rfl, ?ye3⟩) hHeld ?re3
    case ye3 => (intro w' hSw; exact yields_load_arr rfl rfl (B3.out.keep hSw) _ Tryz.underlying27 rfl (by rw [LQ.out]; exact size8))
    (try simp only [Act.put, sL])
    refine wpAnyH_ready (rs := [2, 5]) (by kernel_rfl) (by simp) (AllReadyH.cons rfl (fun K hK => ?gea) (AllReadyH.cons rfl (fun K hK => ?geb) AllReadyH.nil))
    case gea =>
      (try simp only [Act.put, sL])
      go_simp
      refine (KI.out _ (grown_none G3.out hHeld) (IF.out _ hHeld)).mono ?_
      rintro x wk ⟨rfl, rfl⟩
      go_wp2_with fail
      refine hK.out _ _ hHeld (fun hHeld => ?_)
      clear hK
      (try simp only [Act.put, sL])
      refine wpAnyH_take (i := 4) (v := .agg (intsV P0).toArray) rfl (by kernel_rfl) (by kernel_rfl) (by kernel_rfl) (fun _ _ _ h => h) (Or.inl ⟨by rfl, ?ye4⟩) hHeld ?re4
      case ye4 => (intro w' hSw; exact yields_build_pkt kd q P0 RB.out rfl rfl rfl)
      (try simp only [Act.put, sL])
      refine wpAnyH_ready (rs := [5]) (by kernel_rfl) (by simp) (AllReadyH.cons rfl (fun K hK => ?_) AllReadyH.nil)
      (try simp only [Act.put, sL])
      go_simp
      go_wp2_with fail
      have HB := hide (show W3.heap.size ≤ W3.heap.size from by first | exact Nat.le_refl _ | exact World.grownBy.size hHeld)
      refine hK.out _ _ (gw_alloc hHeld (.cells (arrI (zeros 25)) 59)) (fun hHeld => ?_)
      clear hK
      have HZ := hide (show BlkV ((W3.alloc (.cells (arrI (zeros 25)) 59)).drew) (W3.heap.size) 59 (intsV (zeros 25)) from BlkV.new W3.drew 59 (intsV (zeros 25)))
      generalize (W3.alloc (.cells (arrI (zeros 25)) 59)).drew = wz at *
      (try simp only [Act.put, sL])
      refine wpAnyH_ready (rs := [6]) (by kernel_rfl) (by simp) (AllReadyH.cons rfl (fun K hK => ?_) AllReadyH.nil)
      (try simp only [Act.put, sL])
      refine step_store_v rfl 59 _ _ rfl (W3.heap.size) 0 59 (intsV (zeros 25)) (intsV P0) rfl rfl HZ.out (by rw [intsV_len, intsV_len, LP0.out, zeros_len]; omega) (by rw [intsV_len, LP0.out]; exact size25) (intsV_one _) ?_
      have PU := put_v HZ.out 0 (intsV P0) (by rw [intsV_len, intsV_len, LP0.out, zeros_len]; omega)
      rw [splV_all _ _ (by rw [intsV_len, intsV_len, LP0.out, zeros_len])] at PU
      refine hK.out _ _ (gw_own hHeld PU.2 HB.out) (fun hHeld => ?_)
      clear hK
      (try simp only [Act.put, sL])
      refine wpAnyH_done (by kernel_rfl) ?_ _
      go_wp2_with fail
      go_meet
      exact ⟨W3.heap.size, rfl, PU.1, HB.out, hHeld⟩
    case geb =>
      (try simp only [Act.put, sL])
      go_simp
      go_wp2_with fail
      have HB := hide (show W3.heap.size ≤ W3.heap.size from by first | exact Nat.le_refl _ | exact World.grownBy.size hHeld)
      refine hK.out _ _ (gw_alloc hHeld (.cells (arrI (zeros 25)) 59)) (fun hHeld => ?_)
      clear hK
      have HZ := hide (show BlkV ((W3.alloc (.cells (arrI (zeros 25)) 59)).drew) (W3.heap.size) 59 (intsV (zeros 25)) from BlkV.new W3.drew 59 (intsV (zeros 25)))
      generalize (W3.alloc (.cells (arrI (zeros 25)) 59)).drew = wz at *
      (try simp only [Act.put, sL])
      refine wpAnyH_ready (rs := [2]) (by kernel_rfl) (by simp) (AllReadyH.cons rfl (fun K hK => ?_) AllReadyH.nil)
      (try simp only [Act.put, sL])
      go_simp
      refine (KI.out _ (grown_none G3.out hHeld) (IF.out _ hHeld)).mono ?_
      rintro x wk ⟨rfl, rfl⟩
      go_wp2_with fail
      refine hK.out _ _ hHeld (fun hHeld => ?_)
      clear hK
      (try simp only [Act.put, sL])
      refine wpAnyH_take (i := 4) (v := .agg (intsV P0).toArray) rfl (by kernel_rfl) (by kernel_rfl) (by kernel_rfl) (fun _ _ _ h => h) (Or.inl ⟨by rfl, ?ye5⟩) hHeld ?re5
      case ye5 => (intro w' hSw; exact yields_build_pkt kd q P0 RB.out rfl rfl rfl)
      (try simp only [Act.put, sL])
      refine wpAnyH_ready (rs := [6]) (by kernel_rfl) (by simp) (AllReadyH.cons rfl (fun K hK => ?_) AllReadyH.nil)
      (try simp only [Act.put, sL])
      refine step_store_v rfl 59 _ _ rfl (W3.heap.size) 0 59 (intsV (zeros 25)) (intsV P0) rfl rfl HZ.out (by rw [intsV_len, intsV_len, LP0.out, zeros_len]; omega) (by rw [intsV_len, LP0.out]; exact size25) (intsV_one _) ?_
      have PU := put_v HZ.out 0 (intsV P0) (by rw [intsV_len, intsV_len, LP0.out, zeros_len]; omega)
      rw [splV_all _ _ (by rw [intsV_len, intsV_len, LP0.out, zeros_len])] at PU
      refine hK.out _ _ (gw_own hHeld PU.2 HB.out) (fun hHeld => ?_)
      clear hK
      (try simp only [Act.put, sL])
      refine wpAnyH_done (by kernel_rfl) ?_ _
      go_wp2_with fail
      go_meet
      exact ⟨W3.heap.size, rfl, PU.1, HB.out, hHeld⟩
  case rest =>
  obtain ⟨bp, rfl, HP, hb, gc⟩ := hcut
  have P4 := hide HP
  have HBP := hide hb
  have G4 := hide (grown_none G3.out gc)
  have E4 := hide (E3.out.keep gc)
  have R4 := hide (R3.out.keep gc)
  have NBP := hide (show w.heap.size + 1 + 1 ≤ bp from Nat.le_trans (show w.heap.size + 1 + 1 ≤ W3.heap.size from R3.out.lt) hb)
  have IF4 := hide (IF.out wc gc)
  clear HP hb gc E3 R3 G3 B3 KI IF RB hzp
  have cp := (P4.out.cell 0).trans (ints_getC P0 0 (by rw [LP0.out]; omega))
  rw [c0.out] at cp
  go_upto_region 8 with fail
  clear cp
  have P5 := hide (show BlkV wc bp 59 (intsV PP) from by rw [← EP.out]; exact P4.out)
  have E5 := E4
  have R5 := R4
  have G5 := G4
  clear P4 E4 R4 G4 IF4
  generalize hwc : wc = W5 at *
  clear hwc
  have N5 := hide (show bp + 1 ≤ W5.heap.size from P5.out.lt)
  go_wp2_with (first | refine wpList_load_v rfl 59 _ rfl bp 0 25 rfl 59 (intsV PP) P5.out _ Tryz.underlying59 rfl size25 (by rw [intsV_len, LPP.out]; omega) _ AP.out ?_)
  refine (PK.out W5 G5.out).mono ?_
  rintro x W6 ⟨vb, rfl, ob, g6⟩
  have P6 := hide (P5.out.keep g6)
  have E6 := hide (E5.out.keep g6)
  have R6 := hide (R5.out.keep g6)
  have G6 := hide (grown_none G5.out g6)
  have OB6 := hide (ob.base N5.out)
  have N6 := hide (Nat.le_trans N5.out g6.size)
  clear PK P5 E5 R5 G5 g6 ob N5
  go_upto_region 9 with fail
  have PY1 := hide (PY.out W6 G6.out)
  clear PY
  go_wp2_with (first | refine wpList_load_v rfl 30 _ rfl w.heap.size 124 102 rfl 32 (encC E1 s) E6.out _ Tryz.underlying30 rfl size102 (by rw [CE1.out]; omega) _ PM.out ?_ | refine wpList_load_v rfl 59 _ rfl bp 0 25 rfl 59 (intsV PP) P6.out _ Tryz.underlying59 rfl size25 (by rw [intsV_len, LPP.out]; omega) _ AP.out ?_)
  refine PY1.out.mono ?_
  rintro x W7 ⟨vl, rfl, ol, g7⟩
  have FB := hide (fresh_memC W7 MF tf ML.out)
  have E8 := hide ((E6.out.keep g7).keep FB.out.2.2)
  have R8 := hide ((R6.out.keep g7).keep FB.out.2.2)
  have G8 := hide (grown_none (grown_none G6.out g7) FB.out.2.2)
  have OB8 := hide ((OB6.out.keep g7).keep FB.out.2.2)
  have OL8 := hide ((ol.base N6.out).keep FB.out.2.2)
  have CF := hide (memC_len ML.out tf)
  have OF := hide (memC_one MF tf)
  have ZM := hide (memC_len (zeros_len 101) false)
  have hzm := zero_mem
  unfold memV at hzm
  clear PY1 P6 E6 R6 G6 OB6 g7 ol N6
  go_upto_region 10 with (first | refine wpList_store_v rfl 30 _ _ rfl W7.heap.size 0 30 (memC (zeros 101) false) (memC MF tf) rfl rfl FB.out.1 (by rw [ZM.out, CF.out]; omega) (by rw [CF.out]; exact size102) OF.out ?_)
  (try simp only [Act.put])
  have V8 := hide FB.out.2.1
  clear FB hzm
  generalize putV (W7.alloc (.cells (memC (zeros 101) false).toArray 30)) W7.heap.size 0 (memC MF tf) = W8 at *
  generalize W7.heap.size = bm at *
  have AF := hide (BlkM.all tf ML.out)
  have PU := put_v E8.out 124 (memC MF tf) (by rw [CF.out, CE1.out]; omega)
  rw [SM.out] at PU
  have E9 := hide (show BlkE _ w.heap.size EF tf from PU.1)
  have R9 := hide (R8.out.keepBut PU.2 (by omega))
  have G9 := hide (grown_own G8.out PU.2 (Nat.le_refl _))
  have OB9 := hide (OB8.out.keepLt PU.2 (by have := NBP.out; omega))
  have OL9 := hide (OL8.out.keepLt PU.2 (by have := NBP.out; omega))
  clear PU R8 G8 OB8 OL8
  go_upto_region 11 with (first | refine wpList_load_v rfl 30 _ rfl bm 0 102 rfl 30 (memC MF tf) V8.out _ Tryz.underlying30 rfl size102 (by rw [CF.out]; omega) _ AF.out ?_ | refine wpList_store_v rfl 30 _ _ rfl w.heap.size 124 32 (encC E1 s) (memC MF tf) rfl rfl E8.out (by rw [CF.out, CE1.out]; omega) (by rw [CF.out]; exact size102) OF.out ?_)
  (try simp only [Act.put])
  clear E8 V8 AF
  generalize putV W8 w.heap.size 124 (memC MF tf) = W9 at *
  have AEF := hide (BlkE.all tf FL.out)
  have CEF := hide (encC_len FL.out tf)
  have OEF := hide (encC_one EF tf)
  have PB := hide (R9.out.putAll (m := EF) (t := tf) (zeros_len 225) FL.out)
  have OBX := hide (OB9.out.keepLt PB.out.2 (by have := NBP.out; omega))
  have OLX := hide (OL9.out.keepLt PB.out.2 (by have := NBP.out; omega))
  have FF := hide (F.out _ _ _ (OBX.out.base (b' := w.heap.size) (by have := NBP.out; omega)) (OLX.out.base (b' := w.heap.size) (by have := NBP.out; omega)) (grown_own G9.out PB.out.2 (by omega)))
  clear F OB9 OL9 OBX OLX
  go_wp2_with (first | refine wpList_load_v rfl 32 _ rfl w.heap.size 0 226 rfl 32 (encC EF tf) E9.out _ Tryz.underlying32 rfl size226 (by rw [CEF.out]; omega) _ AEF.out ?_ | refine wpList_store_v rfl 32 _ _ rfl (w.heap.size + 1) 0 32 (encC (zeros 225) false) (encC EF tf) rfl rfl R9.out (by rw [ZC.out, CEF.out]; omega) (by rw [CEF.out]; exact size226) OEF.out ?_)
  have hlv := loadVar_v PB.out.1 _ Tryz.underlying32 rfl (by rw [CEF.out]; exact size226)
  refine bodyPost_ret (v := .tuple #[.agg (encC EF tf).toArray, _, _, .int .i64 0]) ?_ rfl FF.out
  simp [results, Tryz.results12, asAddr, Act.put, hlv]
set_option maxRecDepth 100000 in
theorem codEncode_v (w : World) (e : List Int) (s : Bool) (he : e.length = 225) (v : Value) (l : List Int) (hi : Ints w v l) (hsz : l.length * 8 ≤ 140737488351232) (r : Bool) (hW : Wide w) (hX : TabA w 0 widq 8) (hT : TabA w 1 gains 8) (hG : Grows w) (hk : enOk e l) (hs : ¬ enKd e l r = 2) : Calls Tryz.prog 12 #[encV e s, v, .bool r] w (EncE w (encM e l r) (encT e l r) (encB e l r) (encL e l r) (encE e l)) := by
  have Q0 := hide (EnQ.new w e s)
  have HE := hide he
  have CE := hide (encC_len he s)
  have AE := hide (BlkE.all s he)
  have ZC := hide (encC_len (zeros_len 225) false)
  have ZO := hide (encC_one (zeros 225) false)
  have hz := zero_enc
  have LI := hide (fun wr (g : w.grownBy wr none) => codListened_yes wr e s he v l (Ints_keep hi g) hsz (Wide_keep hW g) hk)
  obtain ⟨hl, hg, hh, hc⟩ := id hk
  have cr := enC_right hh
  have cl : (enC e l).length = 80 := (enC_len hh).trans hl
  have il := enI_len hl hh
  have mm : (enMm e).length = 101 := prt_len _ _ _
  have ql : (enQ e l).length = 8 := quL_len _
  have lE : (enHp e l ++ (enI e l ++ enMm e)).length = 225 := by rw [List.length_append, List.length_append, il, mm]; rfl
  obtain ⟨E1, hE1⟩ : ∃ E1, enHp e l ++ (enI e l ++ enMm e) = E1 := ⟨_, rfl⟩
  have LE1 := hide (show E1.length = 225 by rw [← hE1]; exact lE)
  have pc : prt E1 44 80 = enC e l := by
    refine (tab_ext cl (fun i hi => ?_)).symm
    rw [← hE1, nth_app_r _ _ _ (by show 4 ≤ 44 + i; omega), show (enHp e l).length = 4 from rfl, nth_app_l _ _ _ (by rw [il]; omega)]
    unfold enI
    rw [nth_app_r _ _ _ (by rw [prt_len]; omega), prt_len, show 44 + i - 4 - 40 = i by omega]
  have pm : prt E1 124 101 = enMm e := by
    refine (tab_ext mm (fun i hi => ?_)).symm
    rw [← hE1, nth_app_r _ _ _ (by show 4 ≤ 124 + i; omega), show (enHp e l).length = 4 from rfl, nth_app_r _ _ _ (by rw [il]; omega), il, show 124 + i - 4 - 120 = i by omega]
  rw [hE1] at LI
  have IF := hide (fun wr (h : BlkE wr w.heap.size E1 s) => h.input 44 80 80 (by rw [LE1.out]; omega) (by omega))
  rw [pc] at IF
  obtain ⟨kd, hkd⟩ : ∃ kd, enKd e l r = kd := ⟨_, rfl⟩
  obtain ⟨q, hq⟩ : ∃ q, enQ e l = q := ⟨_, rfl⟩
  rw [hq] at ql LI
  have LQ := hide ql
  have KI := hide (fun wr (g : w.grownBy wr none) (h : Ints wr (.slice (some ⟨w.heap.size, 44, none⟩) 80 80) (enC e l)) => codKind_any (.slice (some ⟨w.heap.size, 44, none⟩) 80 80) (enC e l) r wr h cl cr)
  rw [show (if r = true then (1 : Int) else if dotS (enC e l) (enC e l) 80 < 1280 then 2 else 0) = kd from hkd] at KI
  obtain ⟨P0, hP0⟩ : ∃ P0, kd :: (q ++ zeros 16) = P0 := ⟨_, rfl⟩
  have LP0 := hide (show P0.length = 25 by rw [← hP0]; simp [ql, zeros_len])
  have RB := hide (fun u => run_build_pkt kd q ql u)
  rw [hP0] at RB
  have PG : gudP (enP e l r) = true := enP_good r hg
  have PL : (enP e l r).length = 25 := enP_len r hg
  have PK := hide (fun wr (g : w.grownBy wr none) => pkPack_any (enP e l r) PL (gud_64C PL PG) wr (TabA_keep hX g))
  unfold PkP at PK
  rw [show pkR (enP e l r) = pkA (enP e l r) from if_pos PG] at PK
  have PY := hide (fun wr (g : w.grownBy wr none) => codPlayed_any wr (Wide_keep hW g) (TabA_keep hT g) (growsC_keep hG g) (enMm e) s mm hg (enP e l r) PL PG)
  have ML := hide (plyM_len (enP e l r) mm)
  have F := hide (show ∀ vb vl w', OwnB w.heap.size w' vb (pkA (enP e l r)) → Own w.heap.size w' vl (plyL (enMm e) (enP e l r)) → w.grownBy w' none → EncE w (encM e l r) (encT e l r) (encB e l r) (encL e l r) (encE e l) (.returned (.tuple #[encV (enHp e l ++ (enI e l ++ plyM (enMm e) (enP e l r))) (plyS (enP e l r)), vb, vl, .int .i64 0])) w' from fun vb vl w' o1 o2 qq => ⟨vb, vl, by rw [(enc_yes r hk).1, (enc_yes r hk).2.1, (enc_yes r hk).2.2.2.2], by rw [(enc_yes r hk).2.2.1]; exact o1, by rw [(enc_yes r hk).2.2.2.1]; exact o2, qq⟩)
  have FL := hide (show (enHp e l ++ (enI e l ++ plyM (enMm e) (enP e l r))).length = 225 by rw [List.length_append, List.length_append, il, ML.out]; rfl)
  have SM := hide (show splV (encC E1 s) 124 (memC (plyM (enMm e) (enP e l r)) (plyS (enP e l r))) = encC (enHp e l ++ (enI e l ++ plyM (enMm e) (enP e l r))) (plyS (enP e l r)) from by
    rw [← hE1]
    exact enc_putM (enHp e l) (enI e l) (enMm e) _ s _ rfl il mm ML.out)
  have PM := hide (encC_mem s LE1.out)
  rw [pm] at PM
  have CE1 := hide (encC_len LE1.out s)
  have AE1 := hide (BlkE.all s LE1.out)
  have CMM := hide (memC_len mm s)
  have c0 := hide (show nth P0 0 = kd by rw [← hP0]; rfl)
  have kd2 : ¬ kd = 2 := by rw [← hkd]; exact hs
  have hne : (kd == 2) = false := beq_eq_false_iff_ne.2 kd2
  have p1 : prt P0 1 8 = q := by
    refine (tab_ext ql (fun i hi => ?_)).symm
    rw [← hP0, Nat.add_comm 1 i]
    exact (nth_app_l q (zeros 16) i (by omega)).symm
  have m0 : (if nth P0 0 = 1 then freL else enMm e) = enF e r := by
    rw [c0.out, ← hkd]
    unfold enKd enF
    cases r with
    | true => rfl
    | false =>
      by_cases hd : dotS (enC e l) (enC e l) 80 < 1280 <;> simp [hd]
  have CH := hide (fun wr (g : w.grownBy wr none) (h : Ints wr (.slice (some ⟨w.heap.size, 44, none⟩) 80 80) (enC e l)) => codChosen_any wr (Wide_keep hW g) (TabA_keep hT g) (growsC_keep hG g) (enMm e) s mm hg P0 LP0.out (by rw [p1, ← hq]; exact quL_good _) (by rw [c0.out]; exact kd2) (.slice (some ⟨w.heap.size, 44, none⟩) 80 80) (enC e l) h cl cr (enF e r) m0)
  rw [p1] at CH
  obtain ⟨SS, hSS⟩ : ∃ SS, enU (nowL q) (enF e r) (enC e l) 0 ++ enU (nowL q) (enF e r) (enC e l) 1 = SS := ⟨_, rfl⟩
  rw [hSS] at CH
  have SE : enS e l r = SS := by
    unfold enS
    rw [if_neg hs, hq, hSS]
  have SL := hide (show SS.length = 16 by rw [← SE]; exact enS_len r hg)
  have EP := hide (show ovr P0 9 SS = enP e l r from by
    unfold enP
    rw [SE, hq, hkd, ← hP0]
    exact pkt_put kd q SS ql SL.out)
  have AP := hide (BlkI.all (enP e l r) 25 PL)
  have LPP := hide PL
  clear hk hl hg hh hc cr cl il mm ql lE hE1 pc pm hkd hq hP0 PG PL hs hi hW hX hT hG kd2 p1 m0 hSS SE
  generalize EncE w (encM e l r) (encT e l r) (encB e l r) (encL e l r) (encE e l) = T at *
  generalize enHp e l ++ (enI e l ++ plyM (enMm e) (enP e l r)) = EF at *
  generalize plyM (enMm e) (enP e l r) = MF at *
  generalize plyS (enP e l r) = tf at *
  generalize plyL (enMm e) (enP e l r) = LF at *
  generalize pkA (enP e l r) = BF at *
  generalize pakE (enP e l r) = pe at *
  generalize enP e l r = PP at *
  generalize enMm e = MM at *
  generalize enC e l = CC at *
  unfold AnsC at CH
  unfold MmL at PY
  unfold encV at LI hz F ⊢
  unfold memV at PY CH
  go_enter Tryz.func12, Tryz.ntmps12
  go_upto_region 1 with fail
  generalize (w.alloc (.cells (encC e s).toArray 32)).alloc (.cells (encC (zeros 225) false).toArray 32) = W0 at *
  go_wp2_with (first | refine wpList_load_v rfl 32 _ rfl w.heap.size 0 226 rfl 32 (encC e s) Q0.out.1 _ Tryz.underlying32 rfl size226 (by rw [CE.out]; omega) _ AE.out ?_)
  refine (LI.out W0 Q0.out.2.2).mono ?_
  rintro x W1 ⟨rfl, g1⟩
  clear LI
  obtain ⟨b1, b2, b3⟩ := fresh_arr W1 27 8 q LQ.out
  have B1 := hide b1
  have NB := hide (show w.heap.size + 1 + 1 ≤ W1.heap.size from (Q0.out.keep g1).2.1.lt)
  have GA := grown_alloc W1 (.cells (arrI (zeros 8)) 27) none
  have QA := hide ((Q0.out.keep g1).keep GA)
  have PU := QA.out.1.putAll (m := E1) (t := s) HE.out LE1.out
  have E2 := hide PU.1
  have R2 := hide (QA.out.2.1.keepBut PU.2 (by omega))
  have G2 := hide (grown_own QA.out.2.2 PU.2 (Nat.le_refl _))
  have B2 := hide (b1.keepBut PU.2 (by have := NB.out; omega))
  have PV := put_arr (rs' := q) B2.out (LQ.out.trans (zeros_len 8).symm)
  have B3 := hide PV.1
  have E3 := hide (E2.out.keepBut PV.2 (by have := NB.out; omega))
  have R3 := hide (R2.out.keepBut PV.2 (by have := NB.out; omega))
  have G3 := hide (grown_own G2.out PV.2 (by have := NB.out; omega))
  have CM := hide (encC_len LE1.out s)
  have OM := hide (encC_one E1 s)
  rw [z8'] at B1 QA E2 R2 G2 B2 B3 E3 R3 G3
  clear b1 b2 b3 GA PU PV g1 Q0 AE
  go_upto_region 2 with (first | refine wpList_store_v rfl 32 _ _ rfl w.heap.size 0 32 (encC e s) (encC E1 s) rfl rfl QA.out.1 (by rw [CE.out, CM.out]; omega) (by rw [CM.out]; exact size226) OM.out ?_ | refine wpList_store_arr rfl 27 _ _ rfl _ (zeros 8) q rfl rfl B2.out (LQ.out.trans (zeros_len 8).symm) (by rw [zeros_len]; exact size8) ?_)
  (try simp only [Act.put])
  clear QA E2 R2 G2 B1 B2 OM
  generalize putArr _ W1.heap.size q = W3 at *
  generalize W1.heap.size = bq at *
  go_upto_region 4 with fail
  go_upto_region 5 with fail
  replace IF := hide (fun wr (g : W3.grownBy wr none) => IF.out wr (E3.out.keep g))
  clear hz
  have hzp := zero_pktK
  go_cut [13] from 18 (fun s13 wx => PktR W3 P0 s13 wx)
  case first =>
    refine wp_region_held_drew (S := GrownW W3) (by kernel_rfl) (gw_start _) (fun hHeld => ?_)
    refine wpAnyH_take (i := 0) (v := ?ve0) rfl (by kernel_rfl) (by kernel_rfl) (by kernel_rfl) (fun _ _ _ h => h) (Or.inl ⟨by rfl, ?ye0⟩) hHeld ?re0
    case ye0 => (intro w' hSw; go_simp; (try with_reducible rfl))
    (try simp only [Act.put, sL])
    refine wpAnyH_take (i := 1) (v := ?ve1) rfl (by kernel_rfl) (by kernel_rfl) (by kernel_rfl) (fun _ _ _ h => h) (Or.inl ⟨by rfl, ?ye1⟩) hHeld ?re1
    case ye1 => (intro w' hSw; go_simp; (try with_reducible rfl))
    (try simp only [Act.put, sL])
    refine wpAnyH_take (i := 3) (v := .agg (arrI q)) rfl (by kernel_rfl) (by kernel_rfl) (by kernel_rfl) (fun _ _ _ h => h) (Or.inl ⟨by rfl, ?ye3⟩) hHeld ?re3
    case ye3 => (intro w' hSw; exact yields_load_arr rfl rfl (B3.out.keep hSw) _ Tryz.underlying27 rfl (by rw [LQ.out]; exact size8))
    (try simp only [Act.put, sL])
    refine wpAnyH_ready (rs := [2, 5]) (by kernel_rfl) (by simp) (AllReadyH.cons rfl (fun K hK => ?gea) (AllReadyH.cons rfl (fun K hK => ?geb) AllReadyH.nil))
    case gea =>
      (try simp only [Act.put, sL])
      go_simp
      refine (KI.out _ (grown_none G3.out hHeld) (IF.out _ hHeld)).mono ?_
      rintro x wk ⟨rfl, rfl⟩
      go_wp2_with fail
      refine hK.out _ _ hHeld (fun hHeld => ?_)
      clear hK
      (try simp only [Act.put, sL])
      refine wpAnyH_take (i := 4) (v := .agg (intsV P0).toArray) rfl (by kernel_rfl) (by kernel_rfl) (by kernel_rfl) (fun _ _ _ h => h) (Or.inl ⟨by rfl, ?ye4⟩) hHeld ?re4
      case ye4 => (intro w' hSw; exact yields_build_pkt kd q P0 RB.out rfl rfl rfl)
      (try simp only [Act.put, sL])
      refine wpAnyH_ready (rs := [5]) (by kernel_rfl) (by simp) (AllReadyH.cons rfl (fun K hK => ?_) AllReadyH.nil)
      (try simp only [Act.put, sL])
      go_simp
      go_wp2_with fail
      have HB := hide (show W3.heap.size ≤ W3.heap.size from by first | exact Nat.le_refl _ | exact World.grownBy.size hHeld)
      refine hK.out _ _ (gw_alloc hHeld (.cells (arrI (zeros 25)) 59)) (fun hHeld => ?_)
      clear hK
      have HZ := hide (show BlkV ((W3.alloc (.cells (arrI (zeros 25)) 59)).drew) (W3.heap.size) 59 (intsV (zeros 25)) from BlkV.new W3.drew 59 (intsV (zeros 25)))
      generalize (W3.alloc (.cells (arrI (zeros 25)) 59)).drew = wz at *
      (try simp only [Act.put, sL])
      refine wpAnyH_ready (rs := [6]) (by kernel_rfl) (by simp) (AllReadyH.cons rfl (fun K hK => ?_) AllReadyH.nil)
      (try simp only [Act.put, sL])
      refine step_store_v rfl 59 _ _ rfl (W3.heap.size) 0 59 (intsV (zeros 25)) (intsV P0) rfl rfl HZ.out (by rw [intsV_len, intsV_len, LP0.out, zeros_len]; omega) (by rw [intsV_len, LP0.out]; exact size25) (intsV_one _) ?_
      have PU := put_v HZ.out 0 (intsV P0) (by rw [intsV_len, intsV_len, LP0.out, zeros_len]; omega)
      rw [splV_all _ _ (by rw [intsV_len, intsV_len, LP0.out, zeros_len])] at PU
      refine hK.out _ _ (gw_own hHeld PU.2 HB.out) (fun hHeld => ?_)
      clear hK
      (try simp only [Act.put, sL])
      refine wpAnyH_done (by kernel_rfl) ?_ _
      go_wp2_with fail
      go_meet
      exact ⟨W3.heap.size, rfl, PU.1, HB.out, hHeld⟩
    case geb =>
      (try simp only [Act.put, sL])
      go_simp
      go_wp2_with fail
      have HB := hide (show W3.heap.size ≤ W3.heap.size from by first | exact Nat.le_refl _ | exact World.grownBy.size hHeld)
      refine hK.out _ _ (gw_alloc hHeld (.cells (arrI (zeros 25)) 59)) (fun hHeld => ?_)
      clear hK
      have HZ := hide (show BlkV ((W3.alloc (.cells (arrI (zeros 25)) 59)).drew) (W3.heap.size) 59 (intsV (zeros 25)) from BlkV.new W3.drew 59 (intsV (zeros 25)))
      generalize (W3.alloc (.cells (arrI (zeros 25)) 59)).drew = wz at *
      (try simp only [Act.put, sL])
      refine wpAnyH_ready (rs := [2]) (by kernel_rfl) (by simp) (AllReadyH.cons rfl (fun K hK => ?_) AllReadyH.nil)
      (try simp only [Act.put, sL])
      go_simp
      refine (KI.out _ (grown_none G3.out hHeld) (IF.out _ hHeld)).mono ?_
      rintro x wk ⟨rfl, rfl⟩
      go_wp2_with fail
      refine hK.out _ _ hHeld (fun hHeld => ?_)
      clear hK
      (try simp only [Act.put, sL])
      refine wpAnyH_take (i := 4) (v := .agg (intsV P0).toArray) rfl (by kernel_rfl) (by kernel_rfl) (by kernel_rfl) (fun _ _ _ h => h) (Or.inl ⟨by rfl, ?ye5⟩) hHeld ?re5
      case ye5 => (intro w' hSw; exact yields_build_pkt kd q P0 RB.out rfl rfl rfl)
      (try simp only [Act.put, sL])
      refine wpAnyH_ready (rs := [6]) (by kernel_rfl) (by simp) (AllReadyH.cons rfl (fun K hK => ?_) AllReadyH.nil)
      (try simp only [Act.put, sL])
      refine step_store_v rfl 59 _ _ rfl (W3.heap.size) 0 59 (intsV (zeros 25)) (intsV P0) rfl rfl HZ.out (by rw [intsV_len, intsV_len, LP0.out, zeros_len]; omega) (by rw [intsV_len, LP0.out]; exact size25) (intsV_one _) ?_
      have PU := put_v HZ.out 0 (intsV P0) (by rw [intsV_len, intsV_len, LP0.out, zeros_len]; omega)
      rw [splV_all _ _ (by rw [intsV_len, intsV_len, LP0.out, zeros_len])] at PU
      refine hK.out _ _ (gw_own hHeld PU.2 HB.out) (fun hHeld => ?_)
      clear hK
      (try simp only [Act.put, sL])
      refine wpAnyH_done (by kernel_rfl) ?_ _
      go_wp2_with fail
      go_meet
      exact ⟨W3.heap.size, rfl, PU.1, HB.out, hHeld⟩
  case rest =>
  obtain ⟨bp, rfl, HP, hb, gc⟩ := hcut
  have P4 := hide HP
  have HBP := hide hb
  have G4 := hide (grown_none G3.out gc)
  have E4 := hide (E3.out.keep gc)
  have R4 := hide (R3.out.keep gc)
  have NBP := hide (show w.heap.size + 1 + 1 ≤ bp from Nat.le_trans (show w.heap.size + 1 + 1 ≤ W3.heap.size from R3.out.lt) hb)
  have IF4 := hide (IF.out wc gc)
  clear HP hb gc E3 R3 G3 B3 KI IF RB hzp
  have cp := (P4.out.cell 0).trans (ints_getC P0 0 (by rw [LP0.out]; omega))
  rw [c0.out] at cp
  have AP0 := hide (BlkI.all P0 25 LP0.out)
  have CH1 := hide (CH.out wc G4.out IF4.out)
  clear CH IF4
  go_upto_region 7 with fail
  clear cp
  go_wp2_with (first | refine wpList_load_v rfl 30 _ rfl w.heap.size 124 102 rfl 32 (encC E1 s) E4.out _ Tryz.underlying30 rfl size102 (by rw [CE1.out]; omega) _ PM.out ?_ | refine wpList_load_v rfl 59 _ rfl bp 0 25 rfl 59 (intsV P0) P4.out _ Tryz.underlying59 rfl size25 (by rw [intsV_len, LP0.out]; omega) _ AP0.out ?_)
  refine CH1.out.mono ?_
  rintro x wd ⟨rfl, gd⟩
  have P4d := hide (P4.out.keep gd)
  have PU := putI P4d.out 9 SS (by rw [SL.out, LP0.out]; omega)
  have P5 := hide PU.1
  rw [EP.out] at P5
  have E5 := hide ((E4.out.keep gd).keepBut PU.2 (by have := NBP.out; omega))
  have R5 := hide ((R4.out.keep gd).keepBut PU.2 (by have := NBP.out; omega))
  have G5 := hide (grown_own (grown_none G4.out gd) PU.2 (by have := NBP.out; omega))
  have IS := hide (intsV_one SS)
  have LS := hide (show (intsV SS).length = 16 by rw [intsV_len]; exact SL.out)
  clear PU P4 E4 R4 G4 gd CH1 AP0
  go_upto_region 8 with (first | refine wpList_store_v rfl 57 _ _ rfl bp 9 59 (intsV P0) (intsV SS) rfl rfl P4d.out (by rw [LS.out, intsV_len, LP0.out]; omega) (by rw [LS.out]; exact size16s) IS.out ?_)
  (try simp only [Act.put])
  clear P4d IS LS
  generalize putV wd bp 9 (intsV SS) = W5 at *
  have N5 := hide (show bp + 1 ≤ W5.heap.size from P5.out.lt)
  go_wp2_with (first | refine wpList_load_v rfl 59 _ rfl bp 0 25 rfl 59 (intsV PP) P5.out _ Tryz.underlying59 rfl size25 (by rw [intsV_len, LPP.out]; omega) _ AP.out ?_)
  refine (PK.out W5 G5.out).mono ?_
  rintro x W6 ⟨vb, rfl, ob, g6⟩
  have P6 := hide (P5.out.keep g6)
  have E6 := hide (E5.out.keep g6)
  have R6 := hide (R5.out.keep g6)
  have G6 := hide (grown_none G5.out g6)
  have OB6 := hide (ob.base N5.out)
  have N6 := hide (Nat.le_trans N5.out g6.size)
  clear PK P5 E5 R5 G5 g6 ob N5
  go_upto_region 9 with fail
  have PY1 := hide (PY.out W6 G6.out)
  clear PY
  go_wp2_with (first | refine wpList_load_v rfl 30 _ rfl w.heap.size 124 102 rfl 32 (encC E1 s) E6.out _ Tryz.underlying30 rfl size102 (by rw [CE1.out]; omega) _ PM.out ?_ | refine wpList_load_v rfl 59 _ rfl bp 0 25 rfl 59 (intsV PP) P6.out _ Tryz.underlying59 rfl size25 (by rw [intsV_len, LPP.out]; omega) _ AP.out ?_)
  refine PY1.out.mono ?_
  rintro x W7 ⟨vl, rfl, ol, g7⟩
  have FB := hide (fresh_memC W7 MF tf ML.out)
  have E8 := hide ((E6.out.keep g7).keep FB.out.2.2)
  have R8 := hide ((R6.out.keep g7).keep FB.out.2.2)
  have G8 := hide (grown_none (grown_none G6.out g7) FB.out.2.2)
  have OB8 := hide ((OB6.out.keep g7).keep FB.out.2.2)
  have OL8 := hide ((ol.base N6.out).keep FB.out.2.2)
  have CF := hide (memC_len ML.out tf)
  have OF := hide (memC_one MF tf)
  have ZM := hide (memC_len (zeros_len 101) false)
  have hzm := zero_mem
  unfold memV at hzm
  clear PY1 P6 E6 R6 G6 OB6 g7 ol N6
  go_upto_region 10 with (first | refine wpList_store_v rfl 30 _ _ rfl W7.heap.size 0 30 (memC (zeros 101) false) (memC MF tf) rfl rfl FB.out.1 (by rw [ZM.out, CF.out]; omega) (by rw [CF.out]; exact size102) OF.out ?_)
  (try simp only [Act.put])
  have V8 := hide FB.out.2.1
  clear FB hzm
  generalize putV (W7.alloc (.cells (memC (zeros 101) false).toArray 30)) W7.heap.size 0 (memC MF tf) = W8 at *
  generalize W7.heap.size = bm at *
  have AF := hide (BlkM.all tf ML.out)
  have PU := put_v E8.out 124 (memC MF tf) (by rw [CF.out, CE1.out]; omega)
  rw [SM.out] at PU
  have E9 := hide (show BlkE _ w.heap.size EF tf from PU.1)
  have R9 := hide (R8.out.keepBut PU.2 (by omega))
  have G9 := hide (grown_own G8.out PU.2 (Nat.le_refl _))
  have OB9 := hide (OB8.out.keepLt PU.2 (by have := NBP.out; omega))
  have OL9 := hide (OL8.out.keepLt PU.2 (by have := NBP.out; omega))
  clear PU R8 G8 OB8 OL8
  go_upto_region 11 with (first | refine wpList_load_v rfl 30 _ rfl bm 0 102 rfl 30 (memC MF tf) V8.out _ Tryz.underlying30 rfl size102 (by rw [CF.out]; omega) _ AF.out ?_ | refine wpList_store_v rfl 30 _ _ rfl w.heap.size 124 32 (encC E1 s) (memC MF tf) rfl rfl E8.out (by rw [CF.out, CE1.out]; omega) (by rw [CF.out]; exact size102) OF.out ?_)
  (try simp only [Act.put])
  clear E8 V8 AF
  generalize putV W8 w.heap.size 124 (memC MF tf) = W9 at *
  have AEF := hide (BlkE.all tf FL.out)
  have CEF := hide (encC_len FL.out tf)
  have OEF := hide (encC_one EF tf)
  have PB := hide (R9.out.putAll (m := EF) (t := tf) (zeros_len 225) FL.out)
  have OBX := hide (OB9.out.keepLt PB.out.2 (by have := NBP.out; omega))
  have OLX := hide (OL9.out.keepLt PB.out.2 (by have := NBP.out; omega))
  have FF := hide (F.out _ _ _ (OBX.out.base (b' := w.heap.size) (by have := NBP.out; omega)) (OLX.out.base (b' := w.heap.size) (by have := NBP.out; omega)) (grown_own G9.out PB.out.2 (by omega)))
  clear F OB9 OL9 OBX OLX
  go_wp2_with (first | refine wpList_load_v rfl 32 _ rfl w.heap.size 0 226 rfl 32 (encC EF tf) E9.out _ Tryz.underlying32 rfl size226 (by rw [CEF.out]; omega) _ AEF.out ?_ | refine wpList_store_v rfl 32 _ _ rfl (w.heap.size + 1) 0 32 (encC (zeros 225) false) (encC EF tf) rfl rfl R9.out (by rw [ZC.out, CEF.out]; omega) (by rw [CEF.out]; exact size226) OEF.out ?_)
  have hlv := loadVar_v PB.out.1 _ Tryz.underlying32 rfl (by rw [CEF.out]; exact size226)
  refine bodyPost_ret (v := .tuple #[.agg (encC EF tf).toArray, _, _, .int .i64 0]) ?_ rfl FF.out
  simp [results, Tryz.results12, asAddr, Act.put, hlv]
theorem codEncode_any (w : World) (e : List Int) (s : Bool) (he : e.length = 225) (v : Value) (l : List Int) (hi : Ints w v l) (hsz : l.length * 8 ≤ 140737488351232) (r : Bool) (hW : Wide w) (hX : TabA w 0 widq 8) (hT : TabA w 1 gains 8) (hG : Grows w) : Calls Tryz.prog 12 #[encV e s, v, .bool r] w (EncE w (encM e l r) (encT e l r) (encB e l r) (encL e l r) (encE e l)) := by
  by_cases hk : enOk e l
  · by_cases hs : enKd e l r = 2
    · exact codEncode_s w e s he v l hi hsz r hW hX hT hG hk hs
    · exact codEncode_v w e s he v l hi hsz r hW hX hT hG hk hs
  · exact codEncode_err w e s he v l hi hsz r hk
end Go.Proofs.YtihphpcgjeokmaaGreatDoor

/- CodH -/
namespace Go.Proofs.YtihphpcgjeokmaaGreatDoor
open Go.RowKit
set_option linter.unusedVariables false
set_option linter.unusedSimpArgs false
set_option maxHeartbeats 2000000
set_option maxRecDepth 100000 in
theorem codBegin_any (w : World) : Calls Tryz.prog 9 #[] w (AnsC w (encV begL false)) := by
  have B0 := hide (BlkE.new w (zeros 225) false)
  have G0 := hide (grown_alloc w (.cells (encC (zeros 225) false).toArray 32) none)
  have FR := hide (fun u => conFresh_any u)
  have S1 := hide (encC_len begL_len false)
  have S0 := hide (encC_len (zeros_len 225) false)
  have O1 := hide (encC_one begL false)
  have hz := zero_enc
  have F := hide (show ∀ w', w.grownBy w' none → AnsC w (encV begL false) (.returned (encV begL false)) w' from fun w' q => ⟨rfl, q⟩)
  generalize AnsC w (encV begL false) = T at *
  have BF := hide (fun ops rest op a w Q => @wpList_build_beg ops rest op a w Q)
  unfold AnsC at FR
  unfold memV at BF FR
  unfold encV at hz F BF
  go_enter Tryz.func9, Tryz.ntmps9
  go_upto_region 1 with fail
  generalize w.alloc (.cells (encC (zeros 225) false).toArray 32) = W0 at *
  go_wp2_with fail
  refine (FR.out _).mono ?_
  rintro x W1 ⟨rfl, g1⟩
  have B1 := hide (B0.out.keep g1)
  have PU := B1.out.putAll (m := begL) (t := false) (zeros_len 225) begL_len
  have PB := hide PU.1
  have FF := hide (F.out _ (grown_own (grown_none G0.out g1) PU.2 (Nat.le_refl _)))
  clear PU F B0 G0 g1 FR
  unfold BlkE at B1 PB
  generalize memC freL false = FC at *
  generalize encC begL false = M at *
  go_wp2_with (first | refine BF.out _ _ _ _ _ _ rfl _ rfl rfl ?_ | refine wpList_store_v rfl 32 _ _ rfl w.heap.size 0 32 (encC (zeros 225) false) M rfl rfl B1.out (by rw [S0.out, S1.out]; omega) (by rw [S1.out]; exact size226) O1.out ?_)
  have hlv := loadVar_v PB.out _ Tryz.underlying32 rfl (by rw [S1.out]; exact size226)
  refine bodyPost_ret (v := .agg M.toArray) ?_ rfl FF.out
  simp [results, Tryz.results9, asAddr, Act.put, hlv]
end Go.Proofs.YtihphpcgjeokmaaGreatDoor

/- LConM -/
namespace Go.Proofs.YtihphpcgjeokmaaGreatDoor

end Go.Proofs.YtihphpcgjeokmaaGreatDoor

/- LEnc -/
namespace Go.Proofs.YtihphpcgjeokmaaGreatDoor
open Go.RowKit
set_option linter.unusedVariables false
set_option linter.unusedSimpArgs false
set_option maxHeartbeats 4000000
def CEn (f : Nat) (w : World) : Prop := ∀ (e : List Int) (s : Bool), e.length = 225 → In64 e → ∀ (v : Value) (l : List Int) (wr : World), w.grownBy wr none → Ints wr v l → Shp v l → In64 l → l.length * 8 ≤ 140737488351232 → ∀ r : Bool, Calls Tryz.prog f #[encV e s, v, .bool r] wr (EncE wr (encM e l r) (encT e l r) (encB e l r) (encL e l r) (encE e l))
def EncR (W0 : World) (m : List Int) (s2 : Bool) (B L : List Int) (E : Int) (s7 s8 s9 s10 : Value) (wx : World) : Prop := ∃ b, s7 = .pointer (some ⟨b, 0, none⟩) ∧ s10 = .int .i64 E ∧ BlkE wx b m s2 ∧ OwnB W0.heap.size wx s8 B ∧ Own W0.heap.size wx s9 L ∧ W0.heap.size ≤ b ∧ W0.grownBy wx none
end Go.Proofs.YtihphpcgjeokmaaGreatDoor

/- LCdS -/
namespace Go.Proofs.YtihphpcgjeokmaaGreatDoor
open Go.RowKit
set_option linter.unusedVariables false
theorem cen_of {W : World} (t0 : TabA W 2 gro 15) (t1 : TabA W 0 widq 8) (t2 : TabA W 1 gains 8) : CEn 12 W :=
  fun e s he h64 v l wr g hi sh hl64 hsz r => codEncode_any wr e s he v l hi (by omega) r (wide_tab (TabA_keep t1 g)) (TabA_keep t1 g) (TabA_keep t2 g) (grows_tab (TabA_keep t0 g))
theorem cbg_of (W : World) : CBg 9 W := fun wr g => codBegin_any wr
end Go.Proofs.YtihphpcgjeokmaaGreatDoor

/- TopMath -/
namespace Go.Proofs.YtihphpcgjeokmaaGreatDoor
open Go.RowKit
set_option linter.unusedVariables false
set_option linter.unusedSimpArgs false
structure GoodE (e : List Int) : Prop where
  len : e.length = 225
  mem : goodM (enMm e) = true
  hp : ∀ i, i < 4 → -32768 ≤ nth e i ∧ nth e i ≤ 32767
  inp : rightB (prt e 4 120) = true
theorem goodE_beg : GoodE begL := by
  refine ⟨begL_len, by decide +kernel, fun i hi => ?_, by decide +kernel⟩
  have : ∀ i : Fin 4, -32768 ≤ nth begL i.val ∧ nth begL i.val ≤ 32767 := by decide +kernel
  exact this ⟨i, hi⟩
theorem pair_right (a b : Int) (h1 : -32768 ≤ a ∧ a ≤ 32767) (h2 : -32768 ≤ b ∧ b ≤ 32767) : rightB [a, b] = true := by
  rw [rightB_iff]
  intro i hi
  match i, hi with
  | 0, _ => exact h1
  | 1, _ => exact h2
theorem goodE_he {e l : List Int} (h : GoodE e) (hr : rightB l = true) : enHE e l = true := by
  unfold enHE okH
  rw [pair_right _ _ (h.hp 0 (by omega)) (h.hp 1 (by omega)), pair_right _ _ (h.hp 2 (by omega)) (h.hp 3 (by omega)), hr]; rfl
theorem right_app {a b : List Int} (ha : rightB a = true) (hb : rightB b = true) : rightB (a ++ b) = true := by
  unfold rightB at *
  rw [List.all_append, ha, hb]; rfl
theorem goodE_ok {e l : List Int} (h : GoodE e) (hl : l.length = 80) (hr : rightB l = true) : enOk e l := by
  refine ⟨hl, h.mem, goodE_he h hr, ?_⟩
  unfold enI
  refine right_app ((right_prt _ _ _).2 (fun i hi => ?_)) (enC_right (goodE_he h hr))
  have := (right_prt _ _ _).1 h.inp (80 + i) (by omega)
  rwa [show 4 + (80 + i) = 84 + i by omega] at this
theorem hiM_right {e l : List Int} (h : GoodE e) (hr : rightB l = true) (i : Nat) : -32768 ≤ hiM (nth e 0) (nth e 1) (nth e 2) (nth e 3) l i ∧ hiM (nth e 0) (nth e 1) (nth e 2) (nth e 3) l i ≤ 32767 := by
  have xr := xs_right (nth e 0) (nth e 1) l (pair_right _ _ (h.hp 0 (by omega)) (h.hp 1 (by omega))) hr
  have yr := hi_right (hiX (nth e 0) (nth e 1) l) (nth e 2) (nth e 3) (pair_right _ _ (h.hp 2 (by omega)) (h.hp 3 (by omega))) l.length
  unfold hiM
  split
  · split
    · exact xr _
    · exact xr _
    · exact yr _
    · exact yr _
  · omega
theorem enHp_len (e l : List Int) : (enHp e l).length = 4 := rfl
theorem encM_mm {e l : List Int} (r : Bool) (k : enOk e l) : enMm (encM e l r) = plyM (enMm e) (enP e l r) := by
  have pl : (plyM (enMm e) (enP e l r)).length = 101 := plyM_len _ (prt_len _ _ _)
  have il := enI_len k.1 k.2.2.1
  rw [(enc_yes r k).1]
  show tab 101 (fun i => nth (enHp e l ++ (enI e l ++ plyM (enMm e) (enP e l r))) (124 + i)) = _
  refine (tab_ext pl (fun i hi => ?_)).symm
  show _ = nth (enHp e l ++ (enI e l ++ plyM (enMm e) (enP e l r))) (124 + i)
  rw [nth_app_r _ _ _ (by rw [enHp_len]; omega), nth_app_r _ _ _ (by rw [enHp_len, il]; omega), enHp_len, il, show 124 + i - 4 - 120 = i by omega]
theorem goodE_next {e l : List Int} (h : GoodE e) (hl : l.length = 80) (hr : rightB l = true) (r : Bool) : GoodE (encM e l r) := by
  have k := goodE_ok h hl hr
  have il := enI_len k.1 k.2.2.1
  refine ⟨encM_len r h.len, ?_, fun i hi => ?_, ?_⟩
  · rw [encM_mm r k]; exact plyM_good (prt_len _ _ _) h.mem (enP_good r h.mem)
  · rw [(enc_yes r k).1, nth_app_l _ _ _ (by rw [enHp_len]; exact hi)]
    obtain rfl | rfl | rfl | rfl : i = 0 ∨ i = 1 ∨ i = 2 ∨ i = 3 := by omega
    · exact hiM_right h hr 0
    · exact hiM_right h hr 1
    · exact hiM_right h hr 2
    · exact hiM_right h hr 3
  · rw [right_prt]
    intro i hi
    rw [(enc_yes r k).1, nth_app_r _ _ _ (by rw [enHp_len]; omega), enHp_len, Nat.add_sub_cancel_left, nth_app_l _ _ _ (by rw [il]; exact hi)]
    exact (rightB_iff _).1 k.2.2.2 i (by rw [il]; exact hi)
theorem dec_of {m q : List Int} (hg : goodM m = true) (hl : q.length = 25) (h : gudP q = true) : decM m (pkA q) = plyM m q ∧ decS m (pkA q) = plyS q ∧ decL m (pkA q) = plyL m q ∧ decE m (pkA q) = 0 := by
  have u := un_pk q hl h
  have d := dec_yes hg u.1
  rw [u.2] at d
  exact d
theorem dec_enc {e l m : List Int} (h : GoodE e) (r : Bool) (hg : goodM m = true) : decM m (pkA (enP e l r)) = plyM m (enP e l r) ∧ decS m (pkA (enP e l r)) = plyS (enP e l r) ∧ decL m (pkA (enP e l r)) = plyL m (enP e l r) ∧ decE m (pkA (enP e l r)) = 0 :=
  dec_of hg (enP_len r h.mem) (enP_good r h.mem)
def frmN (l : List Int) (i : Nat) : Int := if i < l.length then nth l i % 65536 - 32768 else 0
def frmL (l : List Int) : List Int := tab 80 (frmN l)
theorem frmL_len (l : List Int) : (frmL l).length = 80 := tab_len _ _
theorem frmL_right (l : List Int) : rightB (frmL l) = true := by
  rw [rightB_iff, frmL_len]
  intro i hi
  unfold frmL
  rw [tab_nth _ _ _ hi]
  unfold frmN
  split <;> omega
structure Tk where
  v : Value
  l : List Int
  r : Bool
  f : Int
  a : Int
  m : Int
def syE (L : Nat → Tk) : Nat → List Int
  | 0 => begL
  | k + 1 => encM (syE L k) (frmL (L k).l) (L k).r
def syS (L : Nat → Tk) : Nat → Bool
  | 0 => false
  | k + 1 => encT (syE L k) (frmL (L k).l) (L k).r
theorem syE_good (L : Nat → Tk) : ∀ k, GoodE (syE L k)
  | 0 => goodE_beg
  | k + 1 => goodE_next (syE_good L k) (frmL_len _) (frmL_right _) _
end Go.Proofs.YtihphpcgjeokmaaGreatDoor

/- TopA -/
namespace Go.Proofs.YtihphpcgjeokmaaGreatDoor
open Go.RowKit
set_option linter.unusedVariables false
set_option linter.unusedSimpArgs false
set_option maxHeartbeats 1000000
theorem topSpot_any (v n : Int) (hn : 0 < n) (hn' : n ≤ 4611686018427387904) (w : World) :
    Calls Tryz.prog 21 #[.int .i64 v, .int .i64 n] w fun e w' => e = .returned (.int .i64 (spotN v n)) ∧ w' = w := by
  have m1 := Int.tmod_lt_of_pos v hn
  have m2 : -n < v.tmod n := by
    have := Int.tmod_lt_of_pos (-v) hn
    rw [Int.neg_tmod] at this; omega
  have e : spotN v n = if v.tmod n < 0 then v.tmod n + n else v.tmod n := by
    unfold spotN
    rw [Int.emod_eq_tmod]
    have hd : 0 ≤ v → 0 ≤ v.tmod n := fun h => Int.tmod_nonneg n h
    have hd' : v < 0 → v.tmod n ≤ 0 := fun h => by
      have := Int.tmod_nonneg n (a := -v) (by omega)
      rw [Int.neg_tmod] at this; omega
    have hdv : n ∣ v ↔ v.tmod n = 0 := Int.dvd_iff_tmod_eq_zero
    have hab : (n.natAbs : Int) = n := by omega
    split <;> split <;> omega
  by_cases h : v.tmod n < 0
  · rw [if_pos h] at e
    rw [e]; clear e
    go_enter Tryz.func21, Tryz.ntmps21
    go_wp2
    go_ret
    exact ⟨rfl, rfl⟩
  · rw [if_neg h] at e
    rw [e]; clear e
    go_enter Tryz.func21, Tryz.ntmps21
    go_wp2
    go_ret
    exact ⟨rfl, rfl⟩
theorem topSame_any (va vb : Value) (a b : List Int) (w : World) (ha : Ints w va a) (hb : Ints w vb b) (la : a.length ≤ 1000000000000000000) (lb : b.length ≤ 1000000000000000000) :
    Calls Tryz.prog 15 #[va, vb] w fun e w' => e = .returned (.bool (decide (a = b))) ∧ ∃ n, w' = w.drewN n := by
  obtain ⟨ada, ca, rfl, hca, hva⟩ := ha
  obtain ⟨adb, cb, rfl, hcb, hvb⟩ := hb
  by_cases hl : a.length = b.length
  · have FY := hide (list_sameK a b hl)
    have FN := hide (fun k (h : nth a k ≠ nth b k) => (show decide (a = b) = false from decide_eq_false (fun e => h (by rw [e]))))
    generalize decide (a = b) = d at *
    go_enter Tryz.func15, Tryz.ntmps15
    go_wp2_with fail
    go_loopw [5] (fun i wr => ∃ k n : Nat, i = .int .i64 k ∧ k ≤ b.length ∧ Hid (∀ j, j < k → nth a j = nth b j) ∧ wr = w.drewN n) (fun i _ => b.length - (intOf i).toNat)
    case atStart => exact ⟨0, 0, rfl, Nat.zero_le _, fun j hj => by omega, rfl⟩
    case round =>
      obtain ⟨k, n, rfl, hk, hE, rfl⟩ := hrel
      by_cases hkl : k < b.length
      · obtain ⟨a0, rfl, hva'⟩ := hva (by omega)
        obtain ⟨b0, rfl, hvb'⟩ := hvb (by omega)
        have ck := hva' k (by omega)
        have dk := hvb' k hkl
        have GK := hide (fun (e : nth a k = nth b k) => (show ∀ j, j < k + 1 → nth a j = nth b j from fun j hj => by
          rcases Nat.lt_or_ge j k with g | g
          · exact hE.out j g
          · obtain rfl : j = k := by omega
            exact e))
        have NK := hide (FN.out k)
        clear hva hvb hva' hvb' FY FN hE
        generalize nth a k = x at *
        generalize nth b k = y at *
        by_cases hxy : x = y
        · have hb1 : (x == y) = true := by simp [hxy]
          have G := hide (GK.out hxy)
          clear GK NK hxy
          go_wp2_with fail
          go_quiet (fail)
          go_wp2_with fail
          go_roundw
          case rel => exact ⟨k + 1, _, by go_num, by omega, G.out, rfl⟩
          case measure => simp [intOf]; omega
        · have hb1 : (x == y) = false := beq_eq_false_iff_ne.2 hxy
          have D := hide (NK.out hxy)
          clear GK NK hxy
          go_wp2_with fail
          go_quiet (fail)
          go_wp2_with fail
          rw [World.drewN_drewN]
          go_ret
          exact ⟨by rw [D.out]; rfl, _, rfl⟩
      · obtain rfl : k = b.length := by omega
        have D := hide (FY.out hE.out)
        clear hva hvb FY FN hE
        go_wp2_with fail
        go_ret
        exact ⟨by rw [D.out]; rfl, _, rfl⟩
  · have hb0 : ((a.length : Int) == (b.length : Int)) = false := beq_eq_false_iff_ne.2 (by omega)
    have hne : decide (a = b) = false := decide_eq_false (fun e => hl (by rw [e]))
    rw [hne]
    clear hva hvb hne
    go_enter Tryz.func15, Tryz.ntmps15
    go_wp2_with fail
    go_ret
    exact ⟨rfl, 0, rfl⟩
theorem frmL_at (l : List Int) (k : Nat) (h : k < l.length) : frmN l k = spotN (nth l k) 65536 - 32768 := by
  unfold frmN spotN
  rw [if_pos h]
def FrmB (l L : List Int) (k : Nat) : Prop := L.length = 80 ∧ ∀ i, nth L i = if i < k then frmN l i else 0
theorem frmB_0 (l : List Int) : FrmB l (zeros 80) 0 := ⟨zeros_len 80, fun i => by rw [zeros_nth]; simp⟩
theorem frmB_next {l L : List Int} {k : Nat} (h : FrmB l L k) (hk : k < 80) : FrmB l (L.set k (frmN l k)) (k + 1) := by
  refine ⟨by rw [List.length_set]; exact h.1, fun i => ?_⟩
  by_cases e : i = k
  · subst e
    rw [show nth (L.set i (frmN l i)) i = frmN l i by simp [nth, List.getD, h.1, hk], if_pos (by omega)]
  · rw [show nth (L.set k (frmN l k)) i = nth L i by simp [nth, List.getD, List.getElem?_set, Ne.symm e], h.2 i]
    by_cases g : i < k
    · rw [if_pos g, if_pos (by omega)]
    · rw [if_neg g, if_neg (by omega)]
theorem frmB_end {l L : List Int} {k : Nat} (h : FrmB l L k) (hk : 80 ≤ k ∨ l.length ≤ k) : L = frmL l := by
  refine tab_ext h.1 (fun i hi => ?_)
  rw [h.2 i]
  by_cases g : i < k
  · rw [if_pos g]
  · rw [if_neg g]
    unfold frmN
    rw [if_neg (by omega)]
theorem frame_any (v : Value) (l : List Int) (w : World) (h : Ints w v l) (hl : l.length ≤ 9223372036854775807) :
    Calls Tryz.prog 13 #[v] w fun e w' => ∃ b : Nat, e = .returned (.slice (some ⟨b, 0, none⟩) 80 80) ∧ Blk w' b 3 (frmL l) ∧ w.heap.size ≤ b ∧ w.grownBy w' none := by
  have hmk := make_zeros 80 (by omega)
  rw [show ((80 : Nat) : Int) = 80 from rfl] at hmk
  obtain ⟨ad, c, rfl, hc, hcell⟩ := h
  have HV := hide hcell
  clear hcell
  go_enter Tryz.func13, Tryz.ntmps13
  go_wp2_with fail
  clear hmk
  have B0 := hide (Blk.new w 3 (zeros 80))
  have G0 := hide (grown_alloc w (.cells (arrI (zeros 80)) 3) none)
  have F0 := hide (frmB_0 l)
  generalize w.alloc (.cells (arrI (zeros 80)) 3) = W0 at *
  generalize zeros 80 = Z at *
  go_loopw [4] (fun i wr => ∃ (k : Nat) (L : List Int), i = .int .i64 k ∧ k ≤ 80 ∧ Hid (Blk wr w.heap.size 3 L) ∧ Hid (FrmB l L k) ∧ Hid (w.grownBy wr none)) (fun i _ => 80 - (intOf i).toNat)
  case atStart => exact ⟨0, Z, rfl, Nat.zero_le _, B0.out, F0.out, G0.out⟩
  case round =>
    obtain ⟨k, L, rfl, hk, hB, hF, hG⟩ := hrel
    clear B0 G0 F0
    by_cases hkn : k < 80
    · by_cases hkl : k < l.length
      · obtain ⟨a, rfl, hv⟩ := HV.out (by omega)
        have ck := grown_keep hG.out (hv k hkl)
        have SI := hide (topSpot_any (nth l k) 65536 (by omega) (by omega))
        have hq1 : 0 ≤ spotN (nth l k) 65536 := by unfold spotN; omega
        have hq2 : spotN (nth l k) 65536 < 65536 := by unfold spotN; omega
        have cd := hB.out.cell k (by rw [hF.out.1]; omega)
        have fd := hB.out.free k
        have hLn := hF.out.1
        have NF := hide (frmB_next hF.out hkn)
        rw [frmL_at l k hkl] at NF
        have NB := hide (hB.out.set k (spotN (nth l k) 65536 - 32768))
        have NG := hide (grown_own hG.out (grown_setCell wr ⟨w.heap.size, k, none⟩ (.int .i64 (spotN (nth l k) 65536 - 32768))) (Nat.le_refl _))
        clear hB hF hG hv
        generalize spotN (nth l k) 65536 = q at *
        generalize nth l k = z at *
        generalize nth L k = y at *
        go_wp2_with fail
        refine (SI.out _).mono ?_
        rintro e w1 ⟨rfl, rfl⟩
        clear SI
        go_wp2_with fail
        go_roundw
        case rel => exact ⟨k + 1, _, by go_num, by omega, NB.out, NF.out, NG.out⟩
        case measure => simp [intOf]; omega
      · have E := hide (frmB_end hF.out (Or.inr (by omega)))
        go_wp2_with fail
        go_ret
        exact ⟨_, rfl, E.out ▸ hB.out, Nat.le_refl _, hG.out⟩
    · have E := hide (frmB_end hF.out (Or.inl (by omega)))
      go_wp2_with fail
      go_ret
      exact ⟨_, rfl, E.out ▸ hB.out, Nat.le_refl _, hG.out⟩
theorem talks_any (ad : Option Addr) (n c : Nat) (hc : n ≤ c) (hb : c ≤ 9223372036854775807) (hn : 0 < n → ad ≠ none) (w : World) :
    Calls Tryz.prog 11 #[.slice ad n c] w fun e w' => ∃ c' : Nat, e = .returned (.slice ad (min n 12 : Nat) c') ∧ min n 12 ≤ c' ∧ w' = w := by
  by_cases h : 12 < n
  · obtain ⟨a, rfl⟩ := Option.ne_none_iff_exists'.1 (hn (by omega))
    have hm : min n 12 = 12 := by omega
    rw [hm]
    clear hn hm
    go_enter Tryz.func11, Tryz.ntmps11
    go_wp2_with fail
    go_ret
    exact ⟨_, rfl, by omega, rfl⟩
  · have hm : min n 12 = n := by omega
    rw [hm]
    clear hn hm
    go_enter Tryz.func11, Tryz.ntmps11
    go_wp2_with fail
    go_ret
    exact ⟨_, rfl, hc, rfl⟩
end Go.Proofs.YtihphpcgjeokmaaGreatDoor

/- KeepC -/
namespace Go.Proofs.YtihphpcgjeokmaaGreatDoor
open Go.RowKit
set_option linter.unusedVariables false
set_option linter.unusedSimpArgs false
set_option maxHeartbeats 4000000
theorem ints80 {w : World} {b : Nat} {l : List Int} (h : Blk w b 3 l) (hl : l.length = 80) : Ints w (.slice (some ⟨b, 0, none⟩) 80 80) l := by
  refine ⟨some ⟨b, 0, none⟩, 80, by rw [hl], by omega, fun _ => ⟨_, rfl, fun i hi => ?_⟩⟩
  rw [Addr.add_mid, Nat.zero_add, h.cell i hi]
theorem hi_zero : hiL 0 0 0 0 (zeros 80) = zeros 80 := by decide +kernel
theorem beg_mm : enMm begL = freL := by decide +kernel
theorem beg_c : enC begL (zeros 80) = zeros 80 := by
  have h : nth begL 0 = 0 ∧ nth begL 1 = 0 ∧ nth begL 2 = 0 ∧ nth begL 3 = 0 := by decide +kernel
  unfold enC
  rw [h.1, h.2.1, h.2.2.1, h.2.2.2]
  exact hi_zero
theorem beg_he : enHE begL (zeros 80) = true := by decide +kernel
theorem beg_i : rightB (enI begL (zeros 80)) = true := by
  unfold enI
  rw [beg_c]
  decide +kernel
theorem beg_ok : enOk begL (zeros 80) := ⟨zeros_len 80, by rw [beg_mm]; exact freL_good, beg_he, beg_i⟩
theorem begL_64 : In64 begL := fun i => by
  by_cases h : i < 225
  · have : ∀ i : Fin 225, -32768 ≤ nth begL i.val ∧ nth begL i.val ≤ 65535 := by decide +kernel
    have q : -32768 ≤ nth begL i ∧ nth begL i ≤ 65535 := this ⟨i, h⟩
    omega
  · rw [getD_out _ i (by rw [begL_len]; omega)]; omega
theorem encCellS {w : World} {b : Nat} {e : List Int} {s : Bool} (h : BlkE w b e s) (he : e.length = 225) : w.cell? ⟨b, 225, none⟩ = some (.bool s) := by
  rw [BlkV.cell h]
  unfold encC mixC
  rw [List.getElem?_append_right (by rw [intsV_len, he]; omega), intsV_len, he]
  rfl
end Go.Proofs.YtihphpcgjeokmaaGreatDoor

/- TopB -/
namespace Go.Proofs.YtihphpcgjeokmaaGreatDoor
open Go.RowKit
set_option linter.unusedVariables false
set_option linter.unusedSimpArgs false
set_option maxHeartbeats 4000000
theorem plM_seed (now p : List Int) {l : List Int} (hl : l.length = 101) : ∀ n, nth (plM false now l p n) 100 = nth l 100
  | 0 => rfl
  | n + 1 => by
    have ln : (plM false now l p n).length = 101 := plM_len false now p hl n
    have lp : (plP false (plM false now l p n) (subL p n)).length = 101 := plP_len false ln _
    show nth (souM _ (plP false (plM false now l p n) (subL p n)) _) 100 = _
    rw [souM_nth _ _ _ 100 (by omega), if_neg (by omega)]
    show nth (spM (plM false now l p n) (subL p n)) 100 = _
    unfold spM
    have lo : (ovr (plM false now l p n) 16 (kpL (prt (plM false now l p n) 16 80) (spX (plM false now l p n) (subL p n)))).length = 101 := by rw [ovr_len]; exact ln
    rw [setN _ _ _ (by rw [List.length_set, List.length_set, lo]; omega), if_neg (by omega), setN _ _ _ (by rw [List.length_set, lo]; omega), if_neg (by omega), setN _ _ _ (by rw [lo]; omega), if_neg (by omega), ovr_nth _ _ _ _ (by omega), if_neg ?_, plM_seed now p hl n]
    have : (kpL (prt (plM false now l p n) 16 80) (spX (plM false now l p n) (subL p n))).length = 80 := by rw [kpL_len]
    omega
theorem ply_seed (l p : List Int) (h : nth p 0 = 1) : nth (plyM l p) 100 = 21845 := by
  have s : plyS p = false := by unfold plyS; rw [h]; decide
  have a : plF l p = freL := if_pos h
  have ln : (plM false (vlL p) freL p 2).length = 101 := plM_len _ _ _ freL_len 2
  unfold plyM
  rw [s, a, setN _ _ _ (by rw [ovr_len]; omega), if_neg (by omega), ovr_nth _ _ _ _ (by omega), if_neg (by rw [vlL_len]; omega), plM_seed _ _ freL_len]
  decide +kernel
theorem enP_refresh (e l : List Int) : nth (enP e l true) 0 = 1 := rfl
theorem beg_dec : decM freL (encB begL (zeros 80) true) = enMm (encM begL (zeros 80) true) ∧ decS freL (encB begL (zeros 80) true) = encT begL (zeros 80) true ∧ decL freL (encB begL (zeros 80) true) = encL begL (zeros 80) true ∧ decE freL (encB begL (zeros 80) true) = 0 := by
  obtain ⟨a, b, c, d⟩ := dec_enc (l := zeros 80) goodE_beg true freL_good
  have y := enc_yes true beg_ok
  rw [y.2.2.1]
  refine ⟨?_, ?_, ?_, d⟩
  · rw [a, encM_mm true beg_ok, beg_mm]
  · rw [b]; exact y.2.1.symm
  · rw [c, y.2.2.2.1, beg_mm]
theorem beg_seed : nth (enMm (encM begL (zeros 80) true)) 100 = 21845 := by
  rw [encM_mm true beg_ok]
  exact ply_seed _ _ (enP_refresh _ _)
theorem beg_lT : (encL begL (zeros 80) true).length = 80 := by
  rw [(enc_yes true beg_ok).2.2.2.1]
  exact (plyL_right (show (enMm begL).length = 101 from prt_len _ _ _) beg_ok.2.1 (enP_good true beg_ok.2.1)).1
theorem beg_bT : (encB begL (zeros 80) true).length = 15 := by rw [(enc_yes true beg_ok).2.2.1]; exact pkA_len _
theorem beg_by : byB (encB begL (zeros 80) true) := by rw [(enc_yes true beg_ok).2.2.1]; exact pkA_by _
set_option maxRecDepth 100000 in
theorem alive_any (w : World) (pc : CEn 12 w) (pd : CDe 14 w) (pb : CBg 9 w) (pf : CFr 10 w) (W0 : World) (hG0 : w.grownBy W0 none) : Calls Tryz.prog 16 #[] W0 (AnsC W0 (.bool true)) := by
  have G0 := hide hG0
  have A := hide (fun v' wr g h sh => pc begL false begL_len begL_64 v' (zeros 80) wr g h sh (fun i => by rw [zeros_nth]; omega) (by rw [zeros_len]; omega) true)
  have D := hide (fun v' wr g h sh => pd freL false freL_len freL_64 v' (encB begL (zeros 80) true) wr g h sh beg_by (by rw [beg_bT]; omega))
  have PB := hide pb
  have PF := hide pf
  have SH80 := hide (fun b => show Shp (.slice (some ⟨b, 0, none⟩) 80 80) (zeros 80) from .inr ⟨_, _, by rw [zeros_len]⟩)
  have ML := hide (encM_len (l := zeros 80) true begL_len)
  have EB := hide beg_bT
  have EL := hide beg_lT
  have SD := hide beg_seed
  have ZL := hide (encC_len (zeros_len 225) false)
  have ZM := hide (memC_len (zeros_len 101) false)
  have hz := zero_enc
  have hy := zero_mem
  have hmk := make_zeros 80 (by omega)
  rw [show ((80 : Nat) : Int) = 80 from rfl] at hmk
  rw [(enc_yes true beg_ok).2.2.2.2] at A
  rw [beg_dec.1, beg_dec.2.1, beg_dec.2.2.1, beg_dec.2.2.2] at D
  have F := hide (show ∀ w', W0.grownBy w' none → AnsC W0 (.bool true) (.returned (.bool true)) w' from fun w' q => ⟨rfl, q⟩)
  clear pc pd pb pf hG0
  generalize AnsC W0 (.bool true) = T at *
  unfold EncE encV at A
  unfold MemE memV at D
  unfold encV at hz
  unfold memV at hy
  unfold CBg AnsC encV at PB
  unfold CFr AnsC memV at PF
  generalize encM begL (zeros 80) true = m at *
  generalize encT begL (zeros 80) true = t at *
  generalize encB begL (zeros 80) true = BB at *
  generalize encL begL (zeros 80) true = L at *
  have CM := hide (encC_len ML.out t)
  have NL := hide (show (enMm m).length = 101 from prt_len _ _ _)
  have EP := hide (show ((encC m t).drop 124).take 102 = memC (enMm m) t from encC_mem t ML.out)
  generalize enMm m = NM at *
  have CN := hide (memC_len NL.out t)
  have AN := hide (BlkM.all t NL.out)
  go_enter Tryz.func16, Tryz.ntmps16
  go_upto_region 1 with fail
  go_cut [1, 2, 3, 4] from 5 (fun s7 s8 s9 s10 wx => EncR W0 m t BB L 0 s7 s8 s9 s10 wx)
  case first =>
    refine wp_region_held_drew (S := GrownW W0) (by kernel_rfl) (gw_start _) (fun hHeld => ?_)
    refine wpAnyH_ready (rs := [0, 1, 8]) (by kernel_rfl) (by simp) (AllReadyH.cons rfl (fun K hK => ?gka1) (AllReadyH.cons rfl (fun K hK => ?gka2) (AllReadyH.cons rfl (fun K hK => ?gka3) AllReadyH.nil)))
    case gka1 =>
      (try simp only [Act.put, sL])
      go_simp
      refine (PB.out _ (grown_none G0.out hHeld)).mono ?_
      rintro e wka4 ⟨rfl, gka4⟩
      have Gka4 := hide gka4
      clear gka4
      (try unfold memV)
      (try unfold encV)
      go_wp2_with fail
      refine hK.out _ _ (gw_trans hHeld Gka4.out) (fun hHeld => ?_)
      clear hK
      (try simp only [Act.put, sL])
      refine wpAnyH_ready (rs := [1, 8]) (by kernel_rfl) (by simp) (AllReadyH.cons rfl (fun K hK => ?gka5) (AllReadyH.cons rfl (fun K hK => ?gka6) AllReadyH.nil))
      case gka5 =>
        (try simp only [Act.put, sL])
        go_simp
        go_wp2_with fail
        refine hK.out _ _ (gw_alloc hHeld (.cells (arrI (zeros 80)) 3)) (fun hHeld => ?_)
        clear hK
        have OM := hide (show Blk (wka4.alloc (.cells (arrI (zeros 80)) 3)) wka4.heap.size 3 (zeros 80) from Blk.new wka4 3 (zeros 80))
        generalize wka4.alloc (.cells (arrI (zeros 80)) 3) = wzka7 at *
        (try simp only [Act.put, sL])
        refine wpAnyH_ready (rs := [2, 8]) (by kernel_rfl) (by simp) (AllReadyH.cons rfl (fun K hK => ?gka8) (AllReadyH.cons rfl (fun K hK => ?gka9) AllReadyH.nil))
        case gka8 =>
          (try simp only [Act.put, sL])
          go_simp
          refine (A.out _ _ (grown_none G0.out hHeld) (ints80 OM.out (zeros_len 80)) (SH80.out _)).mono ?_
          rintro e wka10 ⟨vb, vl, rfl, ob, ol, gka10⟩
          have Gka10 := hide gka10
          have OB := hide (ob.base (b' := W0.heap.size) (World.grownBy.size hHeld))
          have OL := hide (ol.base (b' := W0.heap.size) (World.grownBy.size hHeld))
          clear gka10 ob ol
          (try unfold memV)
          (try unfold encV)
          go_wp2_with fail
          refine hK.out _ _ (gw_trans hHeld Gka10.out) (fun hHeld => ?_)
          clear hK
          have OM := hide (OM.out.keep Gka10.out)
          (try simp only [Act.put, sL])
          refine wpAnyH_take (i := 3) (v := ?vka11) rfl (by kernel_rfl) (by kernel_rfl) (by kernel_rfl) (fun _ _ _ h => h) (Or.inl ⟨by rfl, ?yka11⟩) hHeld ?rka11
          case yka11 => (intro w' hSw; go_simp; (try with_reducible rfl))
          (try simp only [Act.put, sL])
          refine wpAnyH_take (i := 4) (v := ?vka12) rfl (by kernel_rfl) (by kernel_rfl) (by kernel_rfl) (fun _ _ _ h => h) (Or.inl ⟨by rfl, ?yka12⟩) hHeld ?rka12
          case yka12 => (intro w' hSw; go_simp; (try with_reducible rfl))
          (try simp only [Act.put, sL])
          refine wpAnyH_take (i := 5) (v := ?vka13) rfl (by kernel_rfl) (by kernel_rfl) (by kernel_rfl) (fun _ _ _ h => h) (Or.inl ⟨by rfl, ?yka13⟩) hHeld ?rka13
          case yka13 => (intro w' hSw; go_simp; (try with_reducible rfl))
          (try simp only [Act.put, sL])
          refine wpAnyH_take (i := 6) (v := ?vka14) rfl (by kernel_rfl) (by kernel_rfl) (by kernel_rfl) (fun _ _ _ h => h) (Or.inl ⟨by rfl, ?yka14⟩) hHeld ?rka14
          case yka14 => (intro w' hSw; go_simp; (try with_reducible rfl))
          (try simp only [Act.put, sL])
          refine wpAnyH_take (i := 7) (v := ?vka15) rfl (by kernel_rfl) (by kernel_rfl) (by kernel_rfl) (fun _ _ _ h => h) (Or.inl ⟨by rfl, ?yka15⟩) hHeld ?rka15
          case yka15 => (intro w' hSw; go_simp; (try with_reducible rfl))
          (try simp only [Act.put, sL])
          refine wpAnyH_ready (rs := [8]) (by kernel_rfl) (by simp) (AllReadyH.cons rfl (fun K hK => ?_) AllReadyH.nil)
          (try simp only [Act.put, sL])
          go_simp
          go_wp2_with fail
          have HB := hide (show W0.heap.size ≤ wka10.heap.size from by first | exact Nat.le_refl _ | exact World.grownBy.size hHeld)
          refine hK.out _ _ (gw_alloc hHeld (.cells (encC (zeros 225) false).toArray 32)) (fun hHeld => ?_)
          clear hK
          have HZ := hide (show BlkE (wka10.alloc (.cells (encC (zeros 225) false).toArray 32)) wka10.heap.size (zeros 225) false from BlkE.new wka10 (zeros 225) false)
          have OB := hide (OB.out.keep (grown_alloc wka10 (.cells (encC (zeros 225) false).toArray 32) none))
          have OL := hide (OL.out.keep (grown_alloc wka10 (.cells (encC (zeros 225) false).toArray 32) none))
          generalize wka10.alloc (.cells (encC (zeros 225) false).toArray 32) = wzka16 at *
          (try simp only [Act.put, sL])
          refine wpAnyH_ready (rs := [9]) (by kernel_rfl) (by simp) (AllReadyH.cons rfl (fun K hK => ?_) AllReadyH.nil)
          (try simp only [Act.put, sL])
          refine step_store_v rfl 32 _ _ rfl (wka10.heap.size) 0 32 (encC (zeros 225) false) (encC m t) rfl rfl HZ.out (by rw [ZL.out, CM.out]; omega) (by rw [CM.out]; exact size226) (encC_one _ _) ?_
          have PU := HZ.out.putAll (m := m) (t := t) (zeros_len 225) ML.out
          have OB := hide (OB.out.keepBut PU.2 HZ.out (by decide))
          have OL := hide (OL.out.keepBut PU.2 HZ.out (by decide))
          refine hK.out _ _ (gw_own hHeld PU.2 HB.out) (fun hHeld => ?_)
          clear hK
          (try simp only [Act.put, sL])
          refine wpAnyH_take (i := 10) (v := ?vka18) rfl (by kernel_rfl) (by kernel_rfl) (by kernel_rfl) (fun _ _ _ h => h) (Or.inl ⟨by rfl, ?yka18⟩) hHeld ?rka18
          case yka18 => (intro w' hSw; go_simp; (try with_reducible rfl))
          (try simp only [Act.put, sL])
          refine wpAnyH_take (i := 11) (v := ?vka19) rfl (by kernel_rfl) (by kernel_rfl) (by kernel_rfl) (fun _ _ _ h => h) (Or.inl ⟨by rfl, ?yka19⟩) hHeld ?rka19
          case yka19 => (intro w' hSw; go_simp; (try with_reducible rfl))
          (try simp only [Act.put, sL])
          refine wpAnyH_take (i := 12) (v := ?vka20) rfl (by kernel_rfl) (by kernel_rfl) (by kernel_rfl) (fun _ _ _ h => h) (Or.inl ⟨by rfl, ?yka20⟩) hHeld ?rka20
          case yka20 => (intro w' hSw; go_simp; (try with_reducible rfl))
          (try simp only [Act.put, sL])
          refine wpAnyH_done (by kernel_rfl) ?_ _
          go_wp2_with fail
          go_meet
          exact ⟨wka10.heap.size, rfl, rfl, PU.1, OB.out, OL.out, HB.out, hHeld⟩
        case gka9 =>
          (try simp only [Act.put, sL])
          go_simp
          go_wp2_with fail
          have HB := hide (show W0.heap.size ≤ wzka7.heap.size from by first | exact Nat.le_refl _ | exact World.grownBy.size hHeld)
          refine hK.out _ _ (gw_alloc hHeld (.cells (encC (zeros 225) false).toArray 32)) (fun hHeld => ?_)
          clear hK
          have HZ := hide (show BlkE (wzka7.alloc (.cells (encC (zeros 225) false).toArray 32)) wzka7.heap.size (zeros 225) false from BlkE.new wzka7 (zeros 225) false)
          have OM := hide (OM.out.keep (grown_alloc wzka7 (.cells (encC (zeros 225) false).toArray 32) none))
          generalize wzka7.alloc (.cells (encC (zeros 225) false).toArray 32) = wzka21 at *
          (try simp only [Act.put, sL])
          refine wpAnyH_ready (rs := [2]) (by kernel_rfl) (by simp) (AllReadyH.cons rfl (fun K hK => ?_) AllReadyH.nil)
          (try simp only [Act.put, sL])
          go_simp
          refine (A.out _ _ (grown_none G0.out hHeld) (ints80 OM.out (zeros_len 80)) (SH80.out _)).mono ?_
          rintro e wka22 ⟨vb, vl, rfl, ob, ol, gka22⟩
          have Gka22 := hide gka22
          have OB := hide (ob.base (b' := W0.heap.size) (World.grownBy.size hHeld))
          have OL := hide (ol.base (b' := W0.heap.size) (World.grownBy.size hHeld))
          clear gka22 ob ol
          (try unfold memV)
          (try unfold encV)
          go_wp2_with fail
          refine hK.out _ _ (gw_trans hHeld Gka22.out) (fun hHeld => ?_)
          clear hK
          have OM := hide (OM.out.keep Gka22.out)
          have HZ := hide (HZ.out.keep Gka22.out)
          (try simp only [Act.put, sL])
          refine wpAnyH_take (i := 3) (v := ?vka23) rfl (by kernel_rfl) (by kernel_rfl) (by kernel_rfl) (fun _ _ _ h => h) (Or.inl ⟨by rfl, ?yka23⟩) hHeld ?rka23
          case yka23 => (intro w' hSw; go_simp; (try with_reducible rfl))
          (try simp only [Act.put, sL])
          refine wpAnyH_take (i := 4) (v := ?vka24) rfl (by kernel_rfl) (by kernel_rfl) (by kernel_rfl) (fun _ _ _ h => h) (Or.inl ⟨by rfl, ?yka24⟩) hHeld ?rka24
          case yka24 => (intro w' hSw; go_simp; (try with_reducible rfl))
          (try simp only [Act.put, sL])
          refine wpAnyH_take (i := 5) (v := ?vka25) rfl (by kernel_rfl) (by kernel_rfl) (by kernel_rfl) (fun _ _ _ h => h) (Or.inl ⟨by rfl, ?yka25⟩) hHeld ?rka25
          case yka25 => (intro w' hSw; go_simp; (try with_reducible rfl))
          (try simp only [Act.put, sL])
          refine wpAnyH_take (i := 6) (v := ?vka26) rfl (by kernel_rfl) (by kernel_rfl) (by kernel_rfl) (fun _ _ _ h => h) (Or.inl ⟨by rfl, ?yka26⟩) hHeld ?rka26
          case yka26 => (intro w' hSw; go_simp; (try with_reducible rfl))
          (try simp only [Act.put, sL])
          refine wpAnyH_take (i := 7) (v := ?vka27) rfl (by kernel_rfl) (by kernel_rfl) (by kernel_rfl) (fun _ _ _ h => h) (Or.inl ⟨by rfl, ?yka27⟩) hHeld ?rka27
          case yka27 => (intro w' hSw; go_simp; (try with_reducible rfl))
          (try simp only [Act.put, sL])
          refine wpAnyH_ready (rs := [9]) (by kernel_rfl) (by simp) (AllReadyH.cons rfl (fun K hK => ?_) AllReadyH.nil)
          (try simp only [Act.put, sL])
          refine step_store_v rfl 32 _ _ rfl (wzka7.heap.size) 0 32 (encC (zeros 225) false) (encC m t) rfl rfl HZ.out (by rw [ZL.out, CM.out]; omega) (by rw [CM.out]; exact size226) (encC_one _ _) ?_
          have PU := HZ.out.putAll (m := m) (t := t) (zeros_len 225) ML.out
          have OB := hide (OB.out.keepBut PU.2 HZ.out (by decide))
          have OL := hide (OL.out.keepBut PU.2 HZ.out (by decide))
          refine hK.out _ _ (gw_own hHeld PU.2 HB.out) (fun hHeld => ?_)
          clear hK
          (try simp only [Act.put, sL])
          refine wpAnyH_take (i := 10) (v := ?vka29) rfl (by kernel_rfl) (by kernel_rfl) (by kernel_rfl) (fun _ _ _ h => h) (Or.inl ⟨by rfl, ?yka29⟩) hHeld ?rka29
          case yka29 => (intro w' hSw; go_simp; (try with_reducible rfl))
          (try simp only [Act.put, sL])
          refine wpAnyH_take (i := 11) (v := ?vka30) rfl (by kernel_rfl) (by kernel_rfl) (by kernel_rfl) (fun _ _ _ h => h) (Or.inl ⟨by rfl, ?yka30⟩) hHeld ?rka30
          case yka30 => (intro w' hSw; go_simp; (try with_reducible rfl))
          (try simp only [Act.put, sL])
          refine wpAnyH_take (i := 12) (v := ?vka31) rfl (by kernel_rfl) (by kernel_rfl) (by kernel_rfl) (fun _ _ _ h => h) (Or.inl ⟨by rfl, ?yka31⟩) hHeld ?rka31
          case yka31 => (intro w' hSw; go_simp; (try with_reducible rfl))
          (try simp only [Act.put, sL])
          refine wpAnyH_done (by kernel_rfl) ?_ _
          go_wp2_with fail
          go_meet
          exact ⟨wzka7.heap.size, rfl, rfl, PU.1, OB.out, OL.out, HB.out, hHeld⟩
      case gka6 =>
        (try simp only [Act.put, sL])
        go_simp
        go_wp2_with fail
        have HB := hide (show W0.heap.size ≤ wka4.heap.size from by first | exact Nat.le_refl _ | exact World.grownBy.size hHeld)
        refine hK.out _ _ (gw_alloc hHeld (.cells (encC (zeros 225) false).toArray 32)) (fun hHeld => ?_)
        clear hK
        have HZ := hide (show BlkE (wka4.alloc (.cells (encC (zeros 225) false).toArray 32)) wka4.heap.size (zeros 225) false from BlkE.new wka4 (zeros 225) false)
        generalize wka4.alloc (.cells (encC (zeros 225) false).toArray 32) = wzka32 at *
        (try simp only [Act.put, sL])
        refine wpAnyH_ready (rs := [1]) (by kernel_rfl) (by simp) (AllReadyH.cons rfl (fun K hK => ?_) AllReadyH.nil)
        (try simp only [Act.put, sL])
        go_simp
        go_wp2_with fail
        refine hK.out _ _ (gw_alloc hHeld (.cells (arrI (zeros 80)) 3)) (fun hHeld => ?_)
        clear hK
        have OM := hide (show Blk (wzka32.alloc (.cells (arrI (zeros 80)) 3)) wzka32.heap.size 3 (zeros 80) from Blk.new wzka32 3 (zeros 80))
        have HZ := hide (HZ.out.keep (grown_alloc wzka32 (.cells (arrI (zeros 80)) 3) none))
        generalize wzka32.alloc (.cells (arrI (zeros 80)) 3) = wzka33 at *
        (try simp only [Act.put, sL])
        refine wpAnyH_ready (rs := [2]) (by kernel_rfl) (by simp) (AllReadyH.cons rfl (fun K hK => ?_) AllReadyH.nil)
        (try simp only [Act.put, sL])
        go_simp
        refine (A.out _ _ (grown_none G0.out hHeld) (ints80 OM.out (zeros_len 80)) (SH80.out _)).mono ?_
        rintro e wka34 ⟨vb, vl, rfl, ob, ol, gka34⟩
        have Gka34 := hide gka34
        have OB := hide (ob.base (b' := W0.heap.size) (World.grownBy.size hHeld))
        have OL := hide (ol.base (b' := W0.heap.size) (World.grownBy.size hHeld))
        clear gka34 ob ol
        (try unfold memV)
        (try unfold encV)
        go_wp2_with fail
        refine hK.out _ _ (gw_trans hHeld Gka34.out) (fun hHeld => ?_)
        clear hK
        have HZ := hide (HZ.out.keep Gka34.out)
        have OM := hide (OM.out.keep Gka34.out)
        (try simp only [Act.put, sL])
        refine wpAnyH_take (i := 3) (v := ?vka35) rfl (by kernel_rfl) (by kernel_rfl) (by kernel_rfl) (fun _ _ _ h => h) (Or.inl ⟨by rfl, ?yka35⟩) hHeld ?rka35
        case yka35 => (intro w' hSw; go_simp; (try with_reducible rfl))
        (try simp only [Act.put, sL])
        refine wpAnyH_take (i := 4) (v := ?vka36) rfl (by kernel_rfl) (by kernel_rfl) (by kernel_rfl) (fun _ _ _ h => h) (Or.inl ⟨by rfl, ?yka36⟩) hHeld ?rka36
        case yka36 => (intro w' hSw; go_simp; (try with_reducible rfl))
        (try simp only [Act.put, sL])
        refine wpAnyH_take (i := 5) (v := ?vka37) rfl (by kernel_rfl) (by kernel_rfl) (by kernel_rfl) (fun _ _ _ h => h) (Or.inl ⟨by rfl, ?yka37⟩) hHeld ?rka37
        case yka37 => (intro w' hSw; go_simp; (try with_reducible rfl))
        (try simp only [Act.put, sL])
        refine wpAnyH_take (i := 6) (v := ?vka38) rfl (by kernel_rfl) (by kernel_rfl) (by kernel_rfl) (fun _ _ _ h => h) (Or.inl ⟨by rfl, ?yka38⟩) hHeld ?rka38
        case yka38 => (intro w' hSw; go_simp; (try with_reducible rfl))
        (try simp only [Act.put, sL])
        refine wpAnyH_take (i := 7) (v := ?vka39) rfl (by kernel_rfl) (by kernel_rfl) (by kernel_rfl) (fun _ _ _ h => h) (Or.inl ⟨by rfl, ?yka39⟩) hHeld ?rka39
        case yka39 => (intro w' hSw; go_simp; (try with_reducible rfl))
        (try simp only [Act.put, sL])
        refine wpAnyH_ready (rs := [9]) (by kernel_rfl) (by simp) (AllReadyH.cons rfl (fun K hK => ?_) AllReadyH.nil)
        (try simp only [Act.put, sL])
        refine step_store_v rfl 32 _ _ rfl (wka4.heap.size) 0 32 (encC (zeros 225) false) (encC m t) rfl rfl HZ.out (by rw [ZL.out, CM.out]; omega) (by rw [CM.out]; exact size226) (encC_one _ _) ?_
        have PU := HZ.out.putAll (m := m) (t := t) (zeros_len 225) ML.out
        have OB := hide (OB.out.keepBut PU.2 HZ.out (by decide))
        have OL := hide (OL.out.keepBut PU.2 HZ.out (by decide))
        refine hK.out _ _ (gw_own hHeld PU.2 HB.out) (fun hHeld => ?_)
        clear hK
        (try simp only [Act.put, sL])
        refine wpAnyH_take (i := 10) (v := ?vka41) rfl (by kernel_rfl) (by kernel_rfl) (by kernel_rfl) (fun _ _ _ h => h) (Or.inl ⟨by rfl, ?yka41⟩) hHeld ?rka41
        case yka41 => (intro w' hSw; go_simp; (try with_reducible rfl))
        (try simp only [Act.put, sL])
        refine wpAnyH_take (i := 11) (v := ?vka42) rfl (by kernel_rfl) (by kernel_rfl) (by kernel_rfl) (fun _ _ _ h => h) (Or.inl ⟨by rfl, ?yka42⟩) hHeld ?rka42
        case yka42 => (intro w' hSw; go_simp; (try with_reducible rfl))
        (try simp only [Act.put, sL])
        refine wpAnyH_take (i := 12) (v := ?vka43) rfl (by kernel_rfl) (by kernel_rfl) (by kernel_rfl) (fun _ _ _ h => h) (Or.inl ⟨by rfl, ?yka43⟩) hHeld ?rka43
        case yka43 => (intro w' hSw; go_simp; (try with_reducible rfl))
        (try simp only [Act.put, sL])
        refine wpAnyH_done (by kernel_rfl) ?_ _
        go_wp2_with fail
        go_meet
        exact ⟨wka4.heap.size, rfl, rfl, PU.1, OB.out, OL.out, HB.out, hHeld⟩
    case gka2 =>
      (try simp only [Act.put, sL])
      go_simp
      go_wp2_with fail
      refine hK.out _ _ (gw_alloc hHeld (.cells (arrI (zeros 80)) 3)) (fun hHeld => ?_)
      clear hK
      have OM := hide (show Blk ((W0.alloc (.cells (arrI (zeros 80)) 3)).drew) W0.heap.size 3 (zeros 80) from Blk.new W0.drew 3 (zeros 80))
      generalize (W0.alloc (.cells (arrI (zeros 80)) 3)).drew = wzka44 at *
      (try simp only [Act.put, sL])
      refine wpAnyH_ready (rs := [0, 8]) (by kernel_rfl) (by simp) (AllReadyH.cons rfl (fun K hK => ?gka45) (AllReadyH.cons rfl (fun K hK => ?gka46) AllReadyH.nil))
      case gka45 =>
        (try simp only [Act.put, sL])
        go_simp
        refine (PB.out _ (grown_none G0.out hHeld)).mono ?_
        rintro e wka47 ⟨rfl, gka47⟩
        have Gka47 := hide gka47
        clear gka47
        (try unfold memV)
        (try unfold encV)
        go_wp2_with fail
        refine hK.out _ _ (gw_trans hHeld Gka47.out) (fun hHeld => ?_)
        clear hK
        have OM := hide (OM.out.keep Gka47.out)
        (try simp only [Act.put, sL])
        refine wpAnyH_ready (rs := [2, 8]) (by kernel_rfl) (by simp) (AllReadyH.cons rfl (fun K hK => ?gka48) (AllReadyH.cons rfl (fun K hK => ?gka49) AllReadyH.nil))
        case gka48 =>
          (try simp only [Act.put, sL])
          go_simp
          refine (A.out _ _ (grown_none G0.out hHeld) (ints80 OM.out (zeros_len 80)) (SH80.out _)).mono ?_
          rintro e wka50 ⟨vb, vl, rfl, ob, ol, gka50⟩
          have Gka50 := hide gka50
          have OB := hide (ob.base (b' := W0.heap.size) (World.grownBy.size hHeld))
          have OL := hide (ol.base (b' := W0.heap.size) (World.grownBy.size hHeld))
          clear gka50 ob ol
          (try unfold memV)
          (try unfold encV)
          go_wp2_with fail
          refine hK.out _ _ (gw_trans hHeld Gka50.out) (fun hHeld => ?_)
          clear hK
          have OM := hide (OM.out.keep Gka50.out)
          (try simp only [Act.put, sL])
          refine wpAnyH_take (i := 3) (v := ?vka51) rfl (by kernel_rfl) (by kernel_rfl) (by kernel_rfl) (fun _ _ _ h => h) (Or.inl ⟨by rfl, ?yka51⟩) hHeld ?rka51
          case yka51 => (intro w' hSw; go_simp; (try with_reducible rfl))
          (try simp only [Act.put, sL])
          refine wpAnyH_take (i := 4) (v := ?vka52) rfl (by kernel_rfl) (by kernel_rfl) (by kernel_rfl) (fun _ _ _ h => h) (Or.inl ⟨by rfl, ?yka52⟩) hHeld ?rka52
          case yka52 => (intro w' hSw; go_simp; (try with_reducible rfl))
          (try simp only [Act.put, sL])
          refine wpAnyH_take (i := 5) (v := ?vka53) rfl (by kernel_rfl) (by kernel_rfl) (by kernel_rfl) (fun _ _ _ h => h) (Or.inl ⟨by rfl, ?yka53⟩) hHeld ?rka53
          case yka53 => (intro w' hSw; go_simp; (try with_reducible rfl))
          (try simp only [Act.put, sL])
          refine wpAnyH_take (i := 6) (v := ?vka54) rfl (by kernel_rfl) (by kernel_rfl) (by kernel_rfl) (fun _ _ _ h => h) (Or.inl ⟨by rfl, ?yka54⟩) hHeld ?rka54
          case yka54 => (intro w' hSw; go_simp; (try with_reducible rfl))
          (try simp only [Act.put, sL])
          refine wpAnyH_take (i := 7) (v := ?vka55) rfl (by kernel_rfl) (by kernel_rfl) (by kernel_rfl) (fun _ _ _ h => h) (Or.inl ⟨by rfl, ?yka55⟩) hHeld ?rka55
          case yka55 => (intro w' hSw; go_simp; (try with_reducible rfl))
          (try simp only [Act.put, sL])
          refine wpAnyH_ready (rs := [8]) (by kernel_rfl) (by simp) (AllReadyH.cons rfl (fun K hK => ?_) AllReadyH.nil)
          (try simp only [Act.put, sL])
          go_simp
          go_wp2_with fail
          have HB := hide (show W0.heap.size ≤ wka50.heap.size from by first | exact Nat.le_refl _ | exact World.grownBy.size hHeld)
          refine hK.out _ _ (gw_alloc hHeld (.cells (encC (zeros 225) false).toArray 32)) (fun hHeld => ?_)
          clear hK
          have HZ := hide (show BlkE (wka50.alloc (.cells (encC (zeros 225) false).toArray 32)) wka50.heap.size (zeros 225) false from BlkE.new wka50 (zeros 225) false)
          have OB := hide (OB.out.keep (grown_alloc wka50 (.cells (encC (zeros 225) false).toArray 32) none))
          have OL := hide (OL.out.keep (grown_alloc wka50 (.cells (encC (zeros 225) false).toArray 32) none))
          generalize wka50.alloc (.cells (encC (zeros 225) false).toArray 32) = wzka56 at *
          (try simp only [Act.put, sL])
          refine wpAnyH_ready (rs := [9]) (by kernel_rfl) (by simp) (AllReadyH.cons rfl (fun K hK => ?_) AllReadyH.nil)
          (try simp only [Act.put, sL])
          refine step_store_v rfl 32 _ _ rfl (wka50.heap.size) 0 32 (encC (zeros 225) false) (encC m t) rfl rfl HZ.out (by rw [ZL.out, CM.out]; omega) (by rw [CM.out]; exact size226) (encC_one _ _) ?_
          have PU := HZ.out.putAll (m := m) (t := t) (zeros_len 225) ML.out
          have OB := hide (OB.out.keepBut PU.2 HZ.out (by decide))
          have OL := hide (OL.out.keepBut PU.2 HZ.out (by decide))
          refine hK.out _ _ (gw_own hHeld PU.2 HB.out) (fun hHeld => ?_)
          clear hK
          (try simp only [Act.put, sL])
          refine wpAnyH_take (i := 10) (v := ?vka58) rfl (by kernel_rfl) (by kernel_rfl) (by kernel_rfl) (fun _ _ _ h => h) (Or.inl ⟨by rfl, ?yka58⟩) hHeld ?rka58
          case yka58 => (intro w' hSw; go_simp; (try with_reducible rfl))
          (try simp only [Act.put, sL])
          refine wpAnyH_take (i := 11) (v := ?vka59) rfl (by kernel_rfl) (by kernel_rfl) (by kernel_rfl) (fun _ _ _ h => h) (Or.inl ⟨by rfl, ?yka59⟩) hHeld ?rka59
          case yka59 => (intro w' hSw; go_simp; (try with_reducible rfl))
          (try simp only [Act.put, sL])
          refine wpAnyH_take (i := 12) (v := ?vka60) rfl (by kernel_rfl) (by kernel_rfl) (by kernel_rfl) (fun _ _ _ h => h) (Or.inl ⟨by rfl, ?yka60⟩) hHeld ?rka60
          case yka60 => (intro w' hSw; go_simp; (try with_reducible rfl))
          (try simp only [Act.put, sL])
          refine wpAnyH_done (by kernel_rfl) ?_ _
          go_wp2_with fail
          go_meet
          exact ⟨wka50.heap.size, rfl, rfl, PU.1, OB.out, OL.out, HB.out, hHeld⟩
        case gka49 =>
          (try simp only [Act.put, sL])
          go_simp
          go_wp2_with fail
          have HB := hide (show W0.heap.size ≤ wka47.heap.size from by first | exact Nat.le_refl _ | exact World.grownBy.size hHeld)
          refine hK.out _ _ (gw_alloc hHeld (.cells (encC (zeros 225) false).toArray 32)) (fun hHeld => ?_)
          clear hK
          have HZ := hide (show BlkE (wka47.alloc (.cells (encC (zeros 225) false).toArray 32)) wka47.heap.size (zeros 225) false from BlkE.new wka47 (zeros 225) false)
          have OM := hide (OM.out.keep (grown_alloc wka47 (.cells (encC (zeros 225) false).toArray 32) none))
          generalize wka47.alloc (.cells (encC (zeros 225) false).toArray 32) = wzka61 at *
          (try simp only [Act.put, sL])
          refine wpAnyH_ready (rs := [2]) (by kernel_rfl) (by simp) (AllReadyH.cons rfl (fun K hK => ?_) AllReadyH.nil)
          (try simp only [Act.put, sL])
          go_simp
          refine (A.out _ _ (grown_none G0.out hHeld) (ints80 OM.out (zeros_len 80)) (SH80.out _)).mono ?_
          rintro e wka62 ⟨vb, vl, rfl, ob, ol, gka62⟩
          have Gka62 := hide gka62
          have OB := hide (ob.base (b' := W0.heap.size) (World.grownBy.size hHeld))
          have OL := hide (ol.base (b' := W0.heap.size) (World.grownBy.size hHeld))
          clear gka62 ob ol
          (try unfold memV)
          (try unfold encV)
          go_wp2_with fail
          refine hK.out _ _ (gw_trans hHeld Gka62.out) (fun hHeld => ?_)
          clear hK
          have OM := hide (OM.out.keep Gka62.out)
          have HZ := hide (HZ.out.keep Gka62.out)
          (try simp only [Act.put, sL])
          refine wpAnyH_take (i := 3) (v := ?vka63) rfl (by kernel_rfl) (by kernel_rfl) (by kernel_rfl) (fun _ _ _ h => h) (Or.inl ⟨by rfl, ?yka63⟩) hHeld ?rka63
          case yka63 => (intro w' hSw; go_simp; (try with_reducible rfl))
          (try simp only [Act.put, sL])
          refine wpAnyH_take (i := 4) (v := ?vka64) rfl (by kernel_rfl) (by kernel_rfl) (by kernel_rfl) (fun _ _ _ h => h) (Or.inl ⟨by rfl, ?yka64⟩) hHeld ?rka64
          case yka64 => (intro w' hSw; go_simp; (try with_reducible rfl))
          (try simp only [Act.put, sL])
          refine wpAnyH_take (i := 5) (v := ?vka65) rfl (by kernel_rfl) (by kernel_rfl) (by kernel_rfl) (fun _ _ _ h => h) (Or.inl ⟨by rfl, ?yka65⟩) hHeld ?rka65
          case yka65 => (intro w' hSw; go_simp; (try with_reducible rfl))
          (try simp only [Act.put, sL])
          refine wpAnyH_take (i := 6) (v := ?vka66) rfl (by kernel_rfl) (by kernel_rfl) (by kernel_rfl) (fun _ _ _ h => h) (Or.inl ⟨by rfl, ?yka66⟩) hHeld ?rka66
          case yka66 => (intro w' hSw; go_simp; (try with_reducible rfl))
          (try simp only [Act.put, sL])
          refine wpAnyH_take (i := 7) (v := ?vka67) rfl (by kernel_rfl) (by kernel_rfl) (by kernel_rfl) (fun _ _ _ h => h) (Or.inl ⟨by rfl, ?yka67⟩) hHeld ?rka67
          case yka67 => (intro w' hSw; go_simp; (try with_reducible rfl))
          (try simp only [Act.put, sL])
          refine wpAnyH_ready (rs := [9]) (by kernel_rfl) (by simp) (AllReadyH.cons rfl (fun K hK => ?_) AllReadyH.nil)
          (try simp only [Act.put, sL])
          refine step_store_v rfl 32 _ _ rfl (wka47.heap.size) 0 32 (encC (zeros 225) false) (encC m t) rfl rfl HZ.out (by rw [ZL.out, CM.out]; omega) (by rw [CM.out]; exact size226) (encC_one _ _) ?_
          have PU := HZ.out.putAll (m := m) (t := t) (zeros_len 225) ML.out
          have OB := hide (OB.out.keepBut PU.2 HZ.out (by decide))
          have OL := hide (OL.out.keepBut PU.2 HZ.out (by decide))
          refine hK.out _ _ (gw_own hHeld PU.2 HB.out) (fun hHeld => ?_)
          clear hK
          (try simp only [Act.put, sL])
          refine wpAnyH_take (i := 10) (v := ?vka69) rfl (by kernel_rfl) (by kernel_rfl) (by kernel_rfl) (fun _ _ _ h => h) (Or.inl ⟨by rfl, ?yka69⟩) hHeld ?rka69
          case yka69 => (intro w' hSw; go_simp; (try with_reducible rfl))
          (try simp only [Act.put, sL])
          refine wpAnyH_take (i := 11) (v := ?vka70) rfl (by kernel_rfl) (by kernel_rfl) (by kernel_rfl) (fun _ _ _ h => h) (Or.inl ⟨by rfl, ?yka70⟩) hHeld ?rka70
          case yka70 => (intro w' hSw; go_simp; (try with_reducible rfl))
          (try simp only [Act.put, sL])
          refine wpAnyH_take (i := 12) (v := ?vka71) rfl (by kernel_rfl) (by kernel_rfl) (by kernel_rfl) (fun _ _ _ h => h) (Or.inl ⟨by rfl, ?yka71⟩) hHeld ?rka71
          case yka71 => (intro w' hSw; go_simp; (try with_reducible rfl))
          (try simp only [Act.put, sL])
          refine wpAnyH_done (by kernel_rfl) ?_ _
          go_wp2_with fail
          go_meet
          exact ⟨wka47.heap.size, rfl, rfl, PU.1, OB.out, OL.out, HB.out, hHeld⟩
      case gka46 =>
        (try simp only [Act.put, sL])
        go_simp
        go_wp2_with fail
        have HB := hide (show W0.heap.size ≤ wzka44.heap.size from by first | exact Nat.le_refl _ | exact World.grownBy.size hHeld)
        refine hK.out _ _ (gw_alloc hHeld (.cells (encC (zeros 225) false).toArray 32)) (fun hHeld => ?_)
        clear hK
        have HZ := hide (show BlkE (wzka44.alloc (.cells (encC (zeros 225) false).toArray 32)) wzka44.heap.size (zeros 225) false from BlkE.new wzka44 (zeros 225) false)
        have OM := hide (OM.out.keep (grown_alloc wzka44 (.cells (encC (zeros 225) false).toArray 32) none))
        generalize wzka44.alloc (.cells (encC (zeros 225) false).toArray 32) = wzka72 at *
        (try simp only [Act.put, sL])
        refine wpAnyH_ready (rs := [0]) (by kernel_rfl) (by simp) (AllReadyH.cons rfl (fun K hK => ?_) AllReadyH.nil)
        (try simp only [Act.put, sL])
        go_simp
        refine (PB.out _ (grown_none G0.out hHeld)).mono ?_
        rintro e wka73 ⟨rfl, gka73⟩
        have Gka73 := hide gka73
        clear gka73
        (try unfold memV)
        (try unfold encV)
        go_wp2_with fail
        refine hK.out _ _ (gw_trans hHeld Gka73.out) (fun hHeld => ?_)
        clear hK
        have OM := hide (OM.out.keep Gka73.out)
        have HZ := hide (HZ.out.keep Gka73.out)
        (try simp only [Act.put, sL])
        refine wpAnyH_ready (rs := [2]) (by kernel_rfl) (by simp) (AllReadyH.cons rfl (fun K hK => ?_) AllReadyH.nil)
        (try simp only [Act.put, sL])
        go_simp
        refine (A.out _ _ (grown_none G0.out hHeld) (ints80 OM.out (zeros_len 80)) (SH80.out _)).mono ?_
        rintro e wka74 ⟨vb, vl, rfl, ob, ol, gka74⟩
        have Gka74 := hide gka74
        have OB := hide (ob.base (b' := W0.heap.size) (World.grownBy.size hHeld))
        have OL := hide (ol.base (b' := W0.heap.size) (World.grownBy.size hHeld))
        clear gka74 ob ol
        (try unfold memV)
        (try unfold encV)
        go_wp2_with fail
        refine hK.out _ _ (gw_trans hHeld Gka74.out) (fun hHeld => ?_)
        clear hK
        have OM := hide (OM.out.keep Gka74.out)
        have HZ := hide (HZ.out.keep Gka74.out)
        (try simp only [Act.put, sL])
        refine wpAnyH_take (i := 3) (v := ?vka75) rfl (by kernel_rfl) (by kernel_rfl) (by kernel_rfl) (fun _ _ _ h => h) (Or.inl ⟨by rfl, ?yka75⟩) hHeld ?rka75
        case yka75 => (intro w' hSw; go_simp; (try with_reducible rfl))
        (try simp only [Act.put, sL])
        refine wpAnyH_take (i := 4) (v := ?vka76) rfl (by kernel_rfl) (by kernel_rfl) (by kernel_rfl) (fun _ _ _ h => h) (Or.inl ⟨by rfl, ?yka76⟩) hHeld ?rka76
        case yka76 => (intro w' hSw; go_simp; (try with_reducible rfl))
        (try simp only [Act.put, sL])
        refine wpAnyH_take (i := 5) (v := ?vka77) rfl (by kernel_rfl) (by kernel_rfl) (by kernel_rfl) (fun _ _ _ h => h) (Or.inl ⟨by rfl, ?yka77⟩) hHeld ?rka77
        case yka77 => (intro w' hSw; go_simp; (try with_reducible rfl))
        (try simp only [Act.put, sL])
        refine wpAnyH_take (i := 6) (v := ?vka78) rfl (by kernel_rfl) (by kernel_rfl) (by kernel_rfl) (fun _ _ _ h => h) (Or.inl ⟨by rfl, ?yka78⟩) hHeld ?rka78
        case yka78 => (intro w' hSw; go_simp; (try with_reducible rfl))
        (try simp only [Act.put, sL])
        refine wpAnyH_take (i := 7) (v := ?vka79) rfl (by kernel_rfl) (by kernel_rfl) (by kernel_rfl) (fun _ _ _ h => h) (Or.inl ⟨by rfl, ?yka79⟩) hHeld ?rka79
        case yka79 => (intro w' hSw; go_simp; (try with_reducible rfl))
        (try simp only [Act.put, sL])
        refine wpAnyH_ready (rs := [9]) (by kernel_rfl) (by simp) (AllReadyH.cons rfl (fun K hK => ?_) AllReadyH.nil)
        (try simp only [Act.put, sL])
        refine step_store_v rfl 32 _ _ rfl (wzka44.heap.size) 0 32 (encC (zeros 225) false) (encC m t) rfl rfl HZ.out (by rw [ZL.out, CM.out]; omega) (by rw [CM.out]; exact size226) (encC_one _ _) ?_
        have PU := HZ.out.putAll (m := m) (t := t) (zeros_len 225) ML.out
        have OB := hide (OB.out.keepBut PU.2 HZ.out (by decide))
        have OL := hide (OL.out.keepBut PU.2 HZ.out (by decide))
        refine hK.out _ _ (gw_own hHeld PU.2 HB.out) (fun hHeld => ?_)
        clear hK
        (try simp only [Act.put, sL])
        refine wpAnyH_take (i := 10) (v := ?vka81) rfl (by kernel_rfl) (by kernel_rfl) (by kernel_rfl) (fun _ _ _ h => h) (Or.inl ⟨by rfl, ?yka81⟩) hHeld ?rka81
        case yka81 => (intro w' hSw; go_simp; (try with_reducible rfl))
        (try simp only [Act.put, sL])
        refine wpAnyH_take (i := 11) (v := ?vka82) rfl (by kernel_rfl) (by kernel_rfl) (by kernel_rfl) (fun _ _ _ h => h) (Or.inl ⟨by rfl, ?yka82⟩) hHeld ?rka82
        case yka82 => (intro w' hSw; go_simp; (try with_reducible rfl))
        (try simp only [Act.put, sL])
        refine wpAnyH_take (i := 12) (v := ?vka83) rfl (by kernel_rfl) (by kernel_rfl) (by kernel_rfl) (fun _ _ _ h => h) (Or.inl ⟨by rfl, ?yka83⟩) hHeld ?rka83
        case yka83 => (intro w' hSw; go_simp; (try with_reducible rfl))
        (try simp only [Act.put, sL])
        refine wpAnyH_done (by kernel_rfl) ?_ _
        go_wp2_with fail
        go_meet
        exact ⟨wzka44.heap.size, rfl, rfl, PU.1, OB.out, OL.out, HB.out, hHeld⟩
    case gka3 =>
      (try simp only [Act.put, sL])
      go_simp
      go_wp2_with fail
      have HB := hide (show W0.heap.size ≤ W0.heap.size from by first | exact Nat.le_refl _ | exact World.grownBy.size hHeld)
      refine hK.out _ _ (gw_alloc hHeld (.cells (encC (zeros 225) false).toArray 32)) (fun hHeld => ?_)
      clear hK
      have HZ := hide (show BlkE ((W0.alloc (.cells (encC (zeros 225) false).toArray 32)).drew) W0.heap.size (zeros 225) false from BlkE.new W0.drew (zeros 225) false)
      generalize (W0.alloc (.cells (encC (zeros 225) false).toArray 32)).drew = wzka84 at *
      (try simp only [Act.put, sL])
      refine wpAnyH_ready (rs := [0, 1]) (by kernel_rfl) (by simp) (AllReadyH.cons rfl (fun K hK => ?gka85) (AllReadyH.cons rfl (fun K hK => ?gka86) AllReadyH.nil))
      case gka85 =>
        (try simp only [Act.put, sL])
        go_simp
        refine (PB.out _ (grown_none G0.out hHeld)).mono ?_
        rintro e wka87 ⟨rfl, gka87⟩
        have Gka87 := hide gka87
        clear gka87
        (try unfold memV)
        (try unfold encV)
        go_wp2_with fail
        refine hK.out _ _ (gw_trans hHeld Gka87.out) (fun hHeld => ?_)
        clear hK
        have HZ := hide (HZ.out.keep Gka87.out)
        (try simp only [Act.put, sL])
        refine wpAnyH_ready (rs := [1]) (by kernel_rfl) (by simp) (AllReadyH.cons rfl (fun K hK => ?_) AllReadyH.nil)
        (try simp only [Act.put, sL])
        go_simp
        go_wp2_with fail
        refine hK.out _ _ (gw_alloc hHeld (.cells (arrI (zeros 80)) 3)) (fun hHeld => ?_)
        clear hK
        have OM := hide (show Blk (wka87.alloc (.cells (arrI (zeros 80)) 3)) wka87.heap.size 3 (zeros 80) from Blk.new wka87 3 (zeros 80))
        have HZ := hide (HZ.out.keep (grown_alloc wka87 (.cells (arrI (zeros 80)) 3) none))
        generalize wka87.alloc (.cells (arrI (zeros 80)) 3) = wzka88 at *
        (try simp only [Act.put, sL])
        refine wpAnyH_ready (rs := [2]) (by kernel_rfl) (by simp) (AllReadyH.cons rfl (fun K hK => ?_) AllReadyH.nil)
        (try simp only [Act.put, sL])
        go_simp
        refine (A.out _ _ (grown_none G0.out hHeld) (ints80 OM.out (zeros_len 80)) (SH80.out _)).mono ?_
        rintro e wka89 ⟨vb, vl, rfl, ob, ol, gka89⟩
        have Gka89 := hide gka89
        have OB := hide (ob.base (b' := W0.heap.size) (World.grownBy.size hHeld))
        have OL := hide (ol.base (b' := W0.heap.size) (World.grownBy.size hHeld))
        clear gka89 ob ol
        (try unfold memV)
        (try unfold encV)
        go_wp2_with fail
        refine hK.out _ _ (gw_trans hHeld Gka89.out) (fun hHeld => ?_)
        clear hK
        have HZ := hide (HZ.out.keep Gka89.out)
        have OM := hide (OM.out.keep Gka89.out)
        (try simp only [Act.put, sL])
        refine wpAnyH_take (i := 3) (v := ?vka90) rfl (by kernel_rfl) (by kernel_rfl) (by kernel_rfl) (fun _ _ _ h => h) (Or.inl ⟨by rfl, ?yka90⟩) hHeld ?rka90
        case yka90 => (intro w' hSw; go_simp; (try with_reducible rfl))
        (try simp only [Act.put, sL])
        refine wpAnyH_take (i := 4) (v := ?vka91) rfl (by kernel_rfl) (by kernel_rfl) (by kernel_rfl) (fun _ _ _ h => h) (Or.inl ⟨by rfl, ?yka91⟩) hHeld ?rka91
        case yka91 => (intro w' hSw; go_simp; (try with_reducible rfl))
        (try simp only [Act.put, sL])
        refine wpAnyH_take (i := 5) (v := ?vka92) rfl (by kernel_rfl) (by kernel_rfl) (by kernel_rfl) (fun _ _ _ h => h) (Or.inl ⟨by rfl, ?yka92⟩) hHeld ?rka92
        case yka92 => (intro w' hSw; go_simp; (try with_reducible rfl))
        (try simp only [Act.put, sL])
        refine wpAnyH_take (i := 6) (v := ?vka93) rfl (by kernel_rfl) (by kernel_rfl) (by kernel_rfl) (fun _ _ _ h => h) (Or.inl ⟨by rfl, ?yka93⟩) hHeld ?rka93
        case yka93 => (intro w' hSw; go_simp; (try with_reducible rfl))
        (try simp only [Act.put, sL])
        refine wpAnyH_take (i := 7) (v := ?vka94) rfl (by kernel_rfl) (by kernel_rfl) (by kernel_rfl) (fun _ _ _ h => h) (Or.inl ⟨by rfl, ?yka94⟩) hHeld ?rka94
        case yka94 => (intro w' hSw; go_simp; (try with_reducible rfl))
        (try simp only [Act.put, sL])
        refine wpAnyH_ready (rs := [9]) (by kernel_rfl) (by simp) (AllReadyH.cons rfl (fun K hK => ?_) AllReadyH.nil)
        (try simp only [Act.put, sL])
        refine step_store_v rfl 32 _ _ rfl (W0.heap.size) 0 32 (encC (zeros 225) false) (encC m t) rfl rfl HZ.out (by rw [ZL.out, CM.out]; omega) (by rw [CM.out]; exact size226) (encC_one _ _) ?_
        have PU := HZ.out.putAll (m := m) (t := t) (zeros_len 225) ML.out
        have OB := hide (OB.out.keepBut PU.2 HZ.out (by decide))
        have OL := hide (OL.out.keepBut PU.2 HZ.out (by decide))
        refine hK.out _ _ (gw_own hHeld PU.2 HB.out) (fun hHeld => ?_)
        clear hK
        (try simp only [Act.put, sL])
        refine wpAnyH_take (i := 10) (v := ?vka96) rfl (by kernel_rfl) (by kernel_rfl) (by kernel_rfl) (fun _ _ _ h => h) (Or.inl ⟨by rfl, ?yka96⟩) hHeld ?rka96
        case yka96 => (intro w' hSw; go_simp; (try with_reducible rfl))
        (try simp only [Act.put, sL])
        refine wpAnyH_take (i := 11) (v := ?vka97) rfl (by kernel_rfl) (by kernel_rfl) (by kernel_rfl) (fun _ _ _ h => h) (Or.inl ⟨by rfl, ?yka97⟩) hHeld ?rka97
        case yka97 => (intro w' hSw; go_simp; (try with_reducible rfl))
        (try simp only [Act.put, sL])
        refine wpAnyH_take (i := 12) (v := ?vka98) rfl (by kernel_rfl) (by kernel_rfl) (by kernel_rfl) (fun _ _ _ h => h) (Or.inl ⟨by rfl, ?yka98⟩) hHeld ?rka98
        case yka98 => (intro w' hSw; go_simp; (try with_reducible rfl))
        (try simp only [Act.put, sL])
        refine wpAnyH_done (by kernel_rfl) ?_ _
        go_wp2_with fail
        go_meet
        exact ⟨W0.heap.size, rfl, rfl, PU.1, OB.out, OL.out, HB.out, hHeld⟩
      case gka86 =>
        (try simp only [Act.put, sL])
        go_simp
        go_wp2_with fail
        refine hK.out _ _ (gw_alloc hHeld (.cells (arrI (zeros 80)) 3)) (fun hHeld => ?_)
        clear hK
        have OM := hide (show Blk (wzka84.alloc (.cells (arrI (zeros 80)) 3)) wzka84.heap.size 3 (zeros 80) from Blk.new wzka84 3 (zeros 80))
        have HZ := hide (HZ.out.keep (grown_alloc wzka84 (.cells (arrI (zeros 80)) 3) none))
        generalize wzka84.alloc (.cells (arrI (zeros 80)) 3) = wzka99 at *
        (try simp only [Act.put, sL])
        refine wpAnyH_ready (rs := [0]) (by kernel_rfl) (by simp) (AllReadyH.cons rfl (fun K hK => ?_) AllReadyH.nil)
        (try simp only [Act.put, sL])
        go_simp
        refine (PB.out _ (grown_none G0.out hHeld)).mono ?_
        rintro e wka100 ⟨rfl, gka100⟩
        have Gka100 := hide gka100
        clear gka100
        (try unfold memV)
        (try unfold encV)
        go_wp2_with fail
        refine hK.out _ _ (gw_trans hHeld Gka100.out) (fun hHeld => ?_)
        clear hK
        have HZ := hide (HZ.out.keep Gka100.out)
        have OM := hide (OM.out.keep Gka100.out)
        (try simp only [Act.put, sL])
        refine wpAnyH_ready (rs := [2]) (by kernel_rfl) (by simp) (AllReadyH.cons rfl (fun K hK => ?_) AllReadyH.nil)
        (try simp only [Act.put, sL])
        go_simp
        refine (A.out _ _ (grown_none G0.out hHeld) (ints80 OM.out (zeros_len 80)) (SH80.out _)).mono ?_
        rintro e wka101 ⟨vb, vl, rfl, ob, ol, gka101⟩
        have Gka101 := hide gka101
        have OB := hide (ob.base (b' := W0.heap.size) (World.grownBy.size hHeld))
        have OL := hide (ol.base (b' := W0.heap.size) (World.grownBy.size hHeld))
        clear gka101 ob ol
        (try unfold memV)
        (try unfold encV)
        go_wp2_with fail
        refine hK.out _ _ (gw_trans hHeld Gka101.out) (fun hHeld => ?_)
        clear hK
        have HZ := hide (HZ.out.keep Gka101.out)
        have OM := hide (OM.out.keep Gka101.out)
        (try simp only [Act.put, sL])
        refine wpAnyH_take (i := 3) (v := ?vka102) rfl (by kernel_rfl) (by kernel_rfl) (by kernel_rfl) (fun _ _ _ h => h) (Or.inl ⟨by rfl, ?yka102⟩) hHeld ?rka102
        case yka102 => (intro w' hSw; go_simp; (try with_reducible rfl))
        (try simp only [Act.put, sL])
        refine wpAnyH_take (i := 4) (v := ?vka103) rfl (by kernel_rfl) (by kernel_rfl) (by kernel_rfl) (fun _ _ _ h => h) (Or.inl ⟨by rfl, ?yka103⟩) hHeld ?rka103
        case yka103 => (intro w' hSw; go_simp; (try with_reducible rfl))
        (try simp only [Act.put, sL])
        refine wpAnyH_take (i := 5) (v := ?vka104) rfl (by kernel_rfl) (by kernel_rfl) (by kernel_rfl) (fun _ _ _ h => h) (Or.inl ⟨by rfl, ?yka104⟩) hHeld ?rka104
        case yka104 => (intro w' hSw; go_simp; (try with_reducible rfl))
        (try simp only [Act.put, sL])
        refine wpAnyH_take (i := 6) (v := ?vka105) rfl (by kernel_rfl) (by kernel_rfl) (by kernel_rfl) (fun _ _ _ h => h) (Or.inl ⟨by rfl, ?yka105⟩) hHeld ?rka105
        case yka105 => (intro w' hSw; go_simp; (try with_reducible rfl))
        (try simp only [Act.put, sL])
        refine wpAnyH_take (i := 7) (v := ?vka106) rfl (by kernel_rfl) (by kernel_rfl) (by kernel_rfl) (fun _ _ _ h => h) (Or.inl ⟨by rfl, ?yka106⟩) hHeld ?rka106
        case yka106 => (intro w' hSw; go_simp; (try with_reducible rfl))
        (try simp only [Act.put, sL])
        refine wpAnyH_ready (rs := [9]) (by kernel_rfl) (by simp) (AllReadyH.cons rfl (fun K hK => ?_) AllReadyH.nil)
        (try simp only [Act.put, sL])
        refine step_store_v rfl 32 _ _ rfl (W0.heap.size) 0 32 (encC (zeros 225) false) (encC m t) rfl rfl HZ.out (by rw [ZL.out, CM.out]; omega) (by rw [CM.out]; exact size226) (encC_one _ _) ?_
        have PU := HZ.out.putAll (m := m) (t := t) (zeros_len 225) ML.out
        have OB := hide (OB.out.keepBut PU.2 HZ.out (by decide))
        have OL := hide (OL.out.keepBut PU.2 HZ.out (by decide))
        refine hK.out _ _ (gw_own hHeld PU.2 HB.out) (fun hHeld => ?_)
        clear hK
        (try simp only [Act.put, sL])
        refine wpAnyH_take (i := 10) (v := ?vka108) rfl (by kernel_rfl) (by kernel_rfl) (by kernel_rfl) (fun _ _ _ h => h) (Or.inl ⟨by rfl, ?yka108⟩) hHeld ?rka108
        case yka108 => (intro w' hSw; go_simp; (try with_reducible rfl))
        (try simp only [Act.put, sL])
        refine wpAnyH_take (i := 11) (v := ?vka109) rfl (by kernel_rfl) (by kernel_rfl) (by kernel_rfl) (fun _ _ _ h => h) (Or.inl ⟨by rfl, ?yka109⟩) hHeld ?rka109
        case yka109 => (intro w' hSw; go_simp; (try with_reducible rfl))
        (try simp only [Act.put, sL])
        refine wpAnyH_take (i := 12) (v := ?vka110) rfl (by kernel_rfl) (by kernel_rfl) (by kernel_rfl) (fun _ _ _ h => h) (Or.inl ⟨by rfl, ?yka110⟩) hHeld ?rka110
        case yka110 => (intro w' hSw; go_simp; (try with_reducible rfl))
        (try simp only [Act.put, sL])
        refine wpAnyH_done (by kernel_rfl) ?_ _
        go_wp2_with fail
        go_meet
        exact ⟨W0.heap.size, rfl, rfl, PU.1, OB.out, OL.out, HB.out, hHeld⟩
  case rest =>
  obtain ⟨b1, rfl, rfl, v1b, ob1, ol1, hb1, g1⟩ := hcut
  have V1 := hide v1b
  have O1 := hide ol1
  have B1 := hide ob1
  have G1 := hide g1
  clear v1b ob1 ol1 hb1 g1 A PB SH80 hz hmk
  go_wp2_with fail
  refine (PF.out _ (grown_none G0.out G1.out)).mono ?_
  rintro x W2 ⟨rfl, g2⟩
  have V2 := hide (V1.out.keep g2)
  have O2 := hide (O1.out.keep g2)
  have B2 := hide (B1.out.keep g2)
  have G2 := hide (grown_none G1.out g2)
  clear V1 O1 B1 G1 g2 PF
  (try unfold memV)
  go_wp2_with fail
  refine (D.out _ W2 (grown_none G0.out G2.out) B2.out.byts B2.out.shp).mono ?_
  rintro x W3 ⟨v3, rfl, o3, g3⟩
  (try unfold memV)
  have FB := hide (fresh_mem W3 NM t NL.out)
  have GA := hide (grown_none g3 FB.out.2.2)
  have V4 := hide (V2.out.keep GA.out)
  have O4 := hide (O2.out.keep GA.out)
  have K4 := hide (o3.keep FB.out.2.2)
  have G4 := hide (grown_none G2.out GA.out)
  clear V2 O2 B2 G2 GA g3 o3 D
  go_upto_region 3 with (first | refine wpList_store_v rfl 30 _ _ rfl W3.heap.size 0 30 (memC (zeros 101) false) (memC NM t) rfl rfl FB.out.1 (by rw [ZM.out, CN.out]; omega) (by rw [CN.out]; exact size102) (memC_one _ _) ?_)
  (try simp only [Act.put])
  have M4 := hide FB.out.2.1
  clear FB hy
  generalize putV (W3.alloc (.cells (memC (zeros 101) false).toArray 30)) W3.heap.size 0 (memC NM t) = W4 at *
  generalize W3.heap.size = bm at *
  have SM := hide (topSame_any _ _ L L W4 O4.out.ints K4.out.ints (by rw [EL.out]; omega) (by rw [EL.out]; omega))
  rw [show decide (L = L) = true from decide_eq_true rfl] at SM
  have EM := hide (fun ops rest o a w Q hgd x y ho hx hy k => @wpList_eq_mem ops rest o a w Q hgd x y ho NM t NL.out hx hy k)
  unfold memV at EM
  obtain ⟨gl, cl, rfl, _, _, _⟩ := O4.out.form (by rw [EL.out]; omega)
  have hl80 := EL.out
  rw [hl80] at SM ⊢
  clear O4 K4 hl80
  go_wp2_with fail
  refine SM.out.mono ?_
  rintro x W5 ⟨rfl, n, rfl⟩
  have GF := hide (grown_none G4.out (grown_drewN' W4 n none))
  have V5 := hide (V4.out.keep (grown_drewN' W4 n none))
  have M5 := hide (M4.out.keep (grown_drewN' W4 n none))
  have FF := hide (F.out _ GF.out)
  have c100 := M5.out.cell 100 (by rw [NL.out]; omega)
  rw [SD.out] at c100
  clear SM V4 M4 G4 GF F
  generalize W4.drewN n = W6 at *
  go_wp2_with (first | refine EM.out _ _ _ _ _ _ (by first | rfl | (simp [Region.wanted, yielded]; done) | (simp [Region.wanted, yielded]; omega)) _ _ rfl rfl rfl ?_ | refine wpList_load_vG (by first | rfl | (simp [Region.wanted, yielded]; done) | (simp [Region.wanted, yielded]; omega)) 30 _ rfl bm 0 102 rfl 30 (memC NM t) M5.out _ Tryz.underlying30 rfl size102 (by rw [CN.out]; omega) _ AN.out ?_ | refine wpList_load_vG (by first | rfl | (simp [Region.wanted, yielded]; done) | (simp [Region.wanted, yielded]; omega)) 30 _ rfl b1 124 102 rfl 32 (encC m t) V5.out _ Tryz.underlying30 rfl size102 (by rw [CM.out]; omega) _ EP.out ?_)
  exact FF.out
end Go.Proofs.YtihphpcgjeokmaaGreatDoor

/- OpensT -/
namespace Go.Proofs.YtihphpcgjeokmaaGreatDoor
set_option maxRecDepth 100000
open Go.ChangeShapes Go.WideShapes Go.ChangeAt Go.RowKit Go.Deep
set_option linter.unusedVariables false
set_option linter.unusedSimpArgs false
structure TkOk (W : World) (b o : Nat) (t : Tk) : Prop where
  c0 : W.cell? ⟨b, o, none⟩ = some t.v
  c1 : W.cell? ⟨b, o + 1, none⟩ = some (.bool t.r)
  c2 : W.cell? ⟨b, o + 2, none⟩ = some (.int .i64 t.f)
  c3 : W.cell? ⟨b, o + 3, none⟩ = some (.int .i64 t.a)
  c4 : W.cell? ⟨b, o + 4, none⟩ = some (.int .i64 t.m)
  li : Ints W t.v t.l
  len : t.l.length ≤ 9223372036854775807
  bf : -9223372036854775808 ≤ t.f ∧ t.f ≤ 9223372036854775807
  ba : -9223372036854775808 ≤ t.a ∧ t.a ≤ 9223372036854775807
  bm : -9223372036854775808 ≤ t.m ∧ t.m ≤ 9223372036854775807
def Talks (W : World) (v : Value) (n : Nat) (L : Nat → Tk) : Prop := ∃ ad c, v = .slice ad n c ∧ n ≤ c ∧ c ≤ 9223372036854775807 ∧ (0 < n → ∃ b o, ad = some ⟨b, o, none⟩ ∧ ∀ i, i < n → TkOk W b (o + i * 5) (L i))
theorem tkF : ∃ f0 f1 f2 f3 f4 : Field, Tryz.prog.underlying 38 = some (.struct #[f0, f1, f2, f3, f4]) ∧ (f0.type = 36 ∧ f0.offset = 0) ∧ (f1.type = 4 ∧ f1.offset = 1) ∧ (f2.type = 3 ∧ f2.offset = 2) ∧ (f3.type = 3 ∧ f3.offset = 3) ∧ (f4.type = 3 ∧ f4.offset = 4) :=
  ⟨_, _, _, _, _, Tryz.underlying38, ⟨rfl, rfl⟩, ⟨rfl, rfl⟩, ⟨rfl, rfl⟩, ⟨rfl, rfl⟩, ⟨rfl, rfl⟩⟩
theorem tk_cells : Tryz.prog.cellsOf 38 = 5 := by kernel_rfl
theorem o_cellsBool : Tryz.prog.cellsOf 4 = 1 := by kernel_rfl
theorem o_cellsList : Tryz.prog.cellsOf 36 = 1 := by kernel_rfl
theorem ints_of_trod {H : Type} {enc : TypeId × Value → H} {W : World} {fuel : Nat} {v : Value} {x : DataW H × List MemPlace} (hf : DataW.trod enc Tryz.prog W 0 (fun _ => true) true fuel 36 [v] = some x) :
    ∃ l : List Int, Ints W v l ∧ l.length ≤ 9223372036854775807 := by
  rcases open_ints Tryz.underlying36 Tryz.underlying3 o_cellsInt hf with ⟨hcs, hx⟩ | ⟨a, len, cap, zs, hcs, _, hl, hm, hz, hx, hcell, hwz⟩
  · simp at hcs
    subst hcs
    exact ⟨[], ⟨none, 0, rfl, Nat.le_refl _, fun h => by simp at h⟩, by simp⟩
  · simp at hcs
    subst hcs
    simp at hz
    unfold maxLen at hm
    have e : (zs.take len).length = len := by simp; omega
    refine ⟨zs.take len, ⟨some a, cap, by rw [e], by rw [e]; exact hl, fun _ => ⟨a, rfl, fun i hi => ?_⟩⟩, by rw [e]; omega⟩
    rw [e] at hi
    rw [hcell i (by omega)]
    simp [nth, List.getD, List.getElem?_take, hi]
theorem tk_of_trod {H : Type} {enc : TypeId × Value → H} {W : World} {fuel : Nat} {b o : Nat} {cs : List Value} {x : DataW H × List MemPlace} (hc : W.cells? 0 ⟨b, o, none⟩ 5 = some cs) (hf : DataW.trod enc Tryz.prog W 0 (fun _ => true) true fuel 38 cs = some x) :
    ∃ t : Tk, TkOk W b o t := by
  obtain ⟨_, hl, hat⟩ := World.cells?_some hc
  obtain ⟨f0, f1, f2, f3, f4, hu, ⟨t0, p0⟩, ⟨t1, p1⟩, ⟨t2, p2⟩, ⟨t3, p3⟩, ⟨t4, p4⟩⟩ := tkF
  obtain ⟨xs, n, _, _, _, hxs, hfd⟩ := DataW.trod_struct hu hf
  match cs, hl with
  | [v0, v1, v2, v3, v4], _ =>
    have hxl : xs.length = 5 := by simpa using hxs
    have g0 := hfd 0 f0 rfl
    have g1 := hfd 1 f1 rfl
    have g2 := hfd 2 f2 rfl
    have g3 := hfd 3 f3 rfl
    have g4 := hfd 4 f4 rfl
    rw [t0, p0, o_cellsList, List.getElem?_eq_getElem (by omega)] at g0
    rw [t1, p1, o_cellsBool, List.getElem?_eq_getElem (by omega)] at g1
    rw [t2, p2, o_cellsInt, List.getElem?_eq_getElem (by omega)] at g2
    rw [t3, p3, o_cellsInt, List.getElem?_eq_getElem (by omega)] at g3
    rw [t4, p4, o_cellsInt, List.getElem?_eq_getElem (by omega)] at g4
    obtain ⟨l, hI, hlen⟩ := ints_of_trod (v := v0) g0
    obtain ⟨r, hr, _⟩ := DataW.trod_bool Tryz.underlying4 g1
    obtain ⟨z2, h2, _, w2⟩ := DataW.trod_int Tryz.underlying3 g2
    obtain ⟨z3, h3, _, w3⟩ := DataW.trod_int Tryz.underlying3 g3
    obtain ⟨z4, h4, _, w4⟩ := DataW.trod_int Tryz.underlying3 g4
    simp at hr h2 h3 h4
    subst hr h2 h3 h4
    have a0 := hat 0 (by omega)
    have a1 := hat 1 (by omega)
    have a2 := hat 2 (by omega)
    have a3 := hat 3 (by omega)
    have a4 := hat 4 (by omega)
    rw [Addr.add_mid] at a0 a1 a2 a3 a4
    exact ⟨⟨v0, l, r, z2, z3, z4⟩, ⟨a0, a1, a2, a3, a4, hI, hlen, bounds_i64 w2, bounds_i64 w3, bounds_i64 w4⟩⟩
theorem open_talks {H : Type} {enc : TypeId × Value → H} {W : World} {base : Nat} {v : Value} {d : DataW H} {p : List MemPlace}
    (hv : Value.okWide Tryz.prog W .any base 22 v) (h : DataW.Trod enc Tryz.prog W 0 (fun _ => true) true 22 v d p) : ∃ (n : Nat) (L : Nat → Tk), Talks W v n L := by
  obtain ⟨a0, len, cap, rfl⟩ := okWide_slice Tryz.underlying22 hv
  obtain ⟨fuel, hf⟩ := h
  rcases open_slice Tryz.underlying22 hf with ⟨hcs, hx⟩ | ⟨a, len', cap', m, n, D, Pl, hcs, _, hl, hm, hmm, hx, hel⟩
  · simp [Value.cells] at hcs
    obtain ⟨rfl, rfl, rfl⟩ := hcs
    exact ⟨0, fun _ => ⟨.slice none 0 0, [], false, 0, 0, 0⟩, none, 0, rfl, Nat.le_refl _, by omega, fun h => by omega⟩
  · simp [Value.cells] at hcs
    obtain ⟨rfl, rfl, rfl⟩ := hcs
    simp at hmm
    subst hmm
    unfold maxLen at hm
    rw [tk_cells] at hel
    rcases Nat.eq_zero_or_pos len with h0 | h0
    · subst h0
      exact ⟨0, fun _ => ⟨.slice none 0 0, [], false, 0, 0, 0⟩, _, _, rfl, Nat.zero_le _, by omega, fun h => by omega⟩
    · obtain ⟨b, o, sp⟩ := a
      have hs : sp = none := by
        obtain ⟨cs', h1, _⟩ := hel 0 (by omega)
        obtain ⟨_, hl5, hat⟩ := World.cells?_some h1
        have := hat 0 (by omega)
        rw [List.getElem?_eq_getElem (by omega), show (0 * 5 : Nat) = 0 from rfl] at this
        simp only [Addr.add, if_pos] at this
        unfold World.cell? at this
        simp only at this
        split at this
        · cases sp with
          | none => rfl
          | some q => simp at this
        · simp at this
      subst hs
      have each : ∀ i, i < len → ∃ t : Tk, TkOk W b (o + i * 5) t := fun i hi => by
        obtain ⟨cs', h1, h2⟩ := hel i (by omega)
        rw [Addr.add_mid] at h1
        exact tk_of_trod h1 h2
      have : Inhabited Tk := ⟨⟨.slice none 0 0, [], false, 0, 0, 0⟩⟩
      obtain ⟨L, hL⟩ := choose_lt (α := Tk) (p := fun i t => TkOk W b (o + i * 5) t) each
      exact ⟨len, L, _, _, rfl, hl, by omega, fun _ => ⟨b, o, rfl, hL⟩⟩
end Go.Proofs.YtihphpcgjeokmaaGreatDoor

/- TopS -/
namespace Go.Proofs.YtihphpcgjeokmaaGreatDoor
open Go.RowKit
set_option linter.unusedVariables false
set_option linter.unusedSimpArgs false
set_option maxHeartbeats 2000000
theorem goodE_64 {e : List Int} (h : GoodE e) : In64 e := fun i => by
  by_cases a : i < 4
  · have := h.hp i a; omega
  · by_cases b : i < 124
    · have := (right_prt _ _ _).1 h.inp (i - 4) (by omega)
      rw [show 4 + (i - 4) = i by omega] at this
      omega
    · by_cases c : i < 225
      · have := good_64 (show (enMm e).length = 101 from prt_len _ _ _) h.mem (i - 124)
        unfold enMm at this
        rw [prt_nth _ _ _ _ (by omega), show 124 + (i - 124) = i by omega] at this
        exact this
      · rw [getD_out _ i (by rw [h.len]; omega)]; omega
theorem frm_64 (l : List Int) : In64 (frmL l) := fun i => by
  by_cases h : i < 80
  · have := (rightB_iff _).1 (frmL_right l) i (by rw [frmL_len]; exact h); omega
  · rw [getD_out _ i (by rw [frmL_len]; omega)]; omega
theorem bin_memN (l : List Int) (s : Bool) (hl : l.length = 101) (w : World) : Sem.run Tryz.prog (binOp .neq 30 (memV l s) (memV l s)) w = .ok (.bool false) w := by
  have h := eq_mem l s hl w
  unfold memV at h ⊢
  rw [run_neq_struct, h]
  rfl
theorem guard_memN (x y : Operand) (l m : List Int) (s t : Bool) (w : World) : Sem.run Tryz.prog (eqGuard .neq 30 x y (memV l s) (memV m t)) w = .ok () w := run_eqGuard_agg w .neq 30 x y _ _ (by kernel_rfl)
theorem wpList_neq_mem {ops : Array Oper} {rest : List Oper} {o : Oper} {a : Act} {w : World} {Q : Exit → Act → World → Prop} (hgd : Region.wanted o (yielded ops a.tmps) = true) (x y : Operand) (ho : o.op = .binOp .neq 30 x y 30)
    (l : List Int) (s : Bool) (hl : l.length = 101) (hx : a.eval x = memV l s) (hy : a.eval y = memV l s) (k : wpList Tryz.prog ops Q rest (a.put o.dst (.bool false)) w) : wpList Tryz.prog ops Q (o :: rest) a w := by
  refine wpList_step fun K hK => ?_
  rw [if_pos hgd]
  have h1 := guard_memN x y l l s s w
  have h2 := bin_memN l s hl w
  unfold Oper.wp
  simp only [execOp, ho, hx, hy, Sem.run_bind, h1, Result.andThen_ok, h2]
  exact hK _ _ k
structure TwE (w : World) (bs bm : Nat) (e m : List Int) (s t : Bool) (wr : World) : Prop where
  es : BlkE wr bs e s
  ms : BlkM wr bm m t
  gr : w.grownBy wr none
structure TkR (e l : List Int) (r : Bool) (s1 : Bool) (X B H : List Int) : Prop where
  er : encE e l = 0
  x : encM e l r = X
  t : encT e l r = s1
  b : encB e l r = B
  h : encL e l r = H
  dm : decM (enMm e) B = enMm X
  ds : decS (enMm e) B = s1
  dl : decL (enMm e) B = H
  de : decE (enMm e) B = 0
  bl : B.length = 15
  hl : H.length = 80
  by' : byB B
theorem tkR_of {e : List Int} (g : GoodE e) (l : List Int) (hl : l.length = 80) (hr : rightB l = true) (r : Bool) : TkR e l r (encT e l r) (encM e l r) (encB e l r) (encL e l r) := by
  have k := goodE_ok g hl hr
  have y := enc_yes r k
  obtain ⟨a, b, c, d⟩ := dec_enc (l := l) g r g.mem
  refine ⟨y.2.2.2.2, rfl, rfl, rfl, rfl, ?_, ?_, ?_, ?_, ?_, ?_, ?_⟩
  · rw [y.2.2.1, a]; exact (encM_mm _ k).symm
  · rw [y.2.2.1, b]; exact y.2.1.symm
  · rw [y.2.2.1, c]; exact y.2.2.2.1.symm
  · rw [y.2.2.1, d]
  · rw [y.2.2.1]; exact pkA_len _
  · rw [y.2.2.2.1]; exact (plyL_right (show (enMm e).length = 101 from prt_len _ _ _) g.mem (enP_good r g.mem)).1
  · rw [y.2.2.1]; exact pkA_by _
theorem talks_keep {w w' : World} {b o : Nat} {t : Tk} (h : TkOk w b o t) (g : w.grownBy w' none) : TkOk w' b o t :=
  ⟨grown_keep g h.c0, grown_keep g h.c1, grown_keep g h.c2, grown_keep g h.c3, grown_keep g h.c4, Ints_keep h.li g, h.len, h.bf, h.ba, h.bm⟩
end Go.Proofs.YtihphpcgjeokmaaGreatDoor

/- TopSil -/
namespace Go.Proofs.YtihphpcgjeokmaaGreatDoor
open Go.RowKit
set_option linter.unusedVariables false
set_option linter.unusedSimpArgs false
structure RestE (e : List Int) : Prop where
  good : GoodE e
  rest : ∀ i, i < 4 → nth e i = 0
theorem restE_beg : RestE begL := ⟨goodE_beg, fun i hi => by
  have : ∀ i : Fin 4, nth begL i.val = 0 := by decide +kernel
  exact this ⟨i, hi⟩⟩
theorem zeros80_right : rightB (zeros 80) = true := by decide +kernel
theorem rest_c {e : List Int} (h : RestE e) : enC e (zeros 80) = zeros 80 := by
  unfold enC
  rw [h.rest 0 (by omega), h.rest 1 (by omega), h.rest 2 (by omega), h.rest 3 (by omega)]
  exact hi_zero
theorem rest_hp {e : List Int} (h : RestE e) : enHp e (zeros 80) = [0, 0, 0, 0] := by
  unfold enHp
  rw [h.rest 0 (by omega), h.rest 1 (by omega), h.rest 2 (by omega), h.rest 3 (by omega)]
  decide +kernel
theorem rest_next {e : List Int} (h : RestE e) : RestE (encM e (zeros 80) false) := by
  have k := goodE_ok h.good (zeros_len 80) zeros80_right
  refine ⟨goodE_next h.good (zeros_len 80) zeros80_right false, fun i hi => ?_⟩
  rw [(enc_yes false k).1, rest_hp h, nth_app_l _ _ _ hi]
  obtain rfl | rfl | rfl | rfl : i = 0 ∨ i = 1 ∨ i = 2 ∨ i = 3 := by omega
  all_goals rfl
theorem rest_kind {e : List Int} (h : RestE e) : enKd e (zeros 80) false = 2 := by
  have d : dotS (zeros 80) (zeros 80) 80 < 1280 := by decide +kernel
  unfold enKd
  rw [if_neg (by decide), rest_c h, if_pos d]
theorem rest_sil {e : List Int} (h : RestE e) : encT e (zeros 80) false = true := by
  rw [(enc_yes false (goodE_ok h.good (zeros_len 80) zeros80_right)).2.1]
  unfold plyS enP
  rw [rest_kind h]
  generalize enQ e (zeros 80) ++ enS e (zeros 80) false = tl
  exact decide_eq_true rfl
theorem rest_un {e : List Int} (h : RestE e) : unE (encB e (zeros 80) false) = 0 ∧ nth (unpL (encB e (zeros 80) false)) 0 = 2 := by
  rw [(enc_yes false (goodE_ok h.good (zeros_len 80) zeros80_right)).2.2.1]
  have u := un_pk _ (enP_len (l := zeros 80) false h.good.mem) (enP_good (l := zeros 80) false h.good.mem)
  refine ⟨u.1, ?_⟩
  rw [u.2]
  unfold enP
  rw [rest_kind h]
  rfl
def silE : Nat → List Int
  | 0 => begL
  | k + 1 => encM (silE k) (zeros 80) false
def silT : Nat → Bool
  | 0 => false
  | k + 1 => true
theorem silE_rest : ∀ k, RestE (silE k)
  | 0 => restE_beg
  | k + 1 => rest_next (silE_rest k)
theorem un_kind {e l : List Int} (g : GoodE e) (hl : l.length = 80) (hr : rightB l = true) (r : Bool) : unE (encB e l r) = 0 ∧ unpL (encB e l r) = enP e l r := by
  rw [(enc_yes r (goodE_ok g hl hr)).2.2.1]
  exact un_pk _ (enP_len r g.mem) (enP_good r g.mem)
theorem enP_0 (e l : List Int) (r : Bool) : nth (enP e l r) 0 = enKd e l r := by
  unfold enP
  generalize enQ e l ++ enS e l r = tl
  generalize enKd e l r = x
  rfl
theorem enP_kind (e l : List Int) : nth (enP e l false) 0 = 0 ∨ (nth (enP e l false) 0 = 2 ∧ prt (enP e l false) 9 16 = zeros 16) := by
  rw [enP_0]
  by_cases h : enKd e l false = 2
  · refine .inr ⟨h, ?_⟩
    have q : (enQ e l).length = 8 := quL_len _
    have s : enS e l false = zeros 16 := by unfold enS; rw [if_pos h]
    unfold enP
    rw [s]
    generalize enKd e l false = x at *
    generalize enQ e l = y at *
    have hz : (zeros 16).length = 16 := zeros_len 16
    generalize zeros 16 = Z at *
    unfold prt
    refine (tab_ext hz (fun i hi => ?_)).symm
    have : nth (x :: (y ++ Z)) (9 + i) = nth (y ++ Z) (8 + i) := by rw [show 9 + i = (8 + i) + 1 by omega]; rfl
    rw [this, nth_app_r _ _ _ (by omega), q, Nat.add_sub_cancel_left]
  · refine .inl ?_
    unfold enKd at h ⊢
    rw [if_neg (by decide)] at h ⊢
    by_cases c : dotS (enC e l) (enC e l) 80 < 1280
    · rw [if_pos c] at h; exact absurd rfl h
    · rw [if_neg c]
end Go.Proofs.YtihphpcgjeokmaaGreatDoor

/- TopZ -/
namespace Go.Proofs.YtihphpcgjeokmaaGreatDoor
open Go.RowKit
set_option linter.unusedVariables false
set_option linter.unusedSimpArgs false
set_option maxHeartbeats 2000000
theorem zero_pktT (w : World) : Sem.run Tryz.prog (zeroValue 59) w = .ok (.agg (arrI (zeros 25))) w := by
  have hz := zPkt
  cases hq : Tryz.prog.info? 59 with
  | none => simp [hq] at hz
  | some i =>
    have hi : i.zero = some (.agg (arrI (zeros 25))) := by simpa [hq] using hz
    simp [zeroValue, typeInfo, hq, hi]
set_option maxRecDepth 100000 in
theorem law_topSilence (w : World) (pc : CEn 12 w) (pd : CDe 14 w) (pb : CBg 9 w) (pf : CFr 10 w) (pu : PUn 20 w) (n : Int) :
    Calls Tryz.prog 8 #[.int .i64 n] w fun e w' => e = .returned (.bool true) ∧ Below w.heap.size w w' := by
  have AL := hide (fun wr g => alive_any w pc pd pb pf wr g)
  have PC := hide pc
  have PB := hide pb
  have PU' := hide pu
  have SP := hide (topSpot_any n 20 (by omega) (by omega))
  have q0 : 0 ≤ spotN n 20 := by unfold spotN; omega
  have q1 : spotN n 20 < 20 := by unfold spotN; omega
  have SH80 := hide (fun b => show Shp (.slice (some ⟨b, 0, none⟩) 80 80) (zeros 80) from .inr ⟨_, _, by rw [zeros_len]⟩)
  have ZL := hide (encC_len (zeros_len 225) false)
  have hz := zero_enc
  have hzp := zero_pktT
  have hmk := make_zeros 80 (by omega)
  rw [show ((80 : Nat) : Int) = 80 from rfl] at hmk
  have F := hide (show ∀ w', w.grownBy w' none → (fun (e : Ending) (w' : World) => e = .returned (.bool true) ∧ Below w.heap.size w w') (.returned (.bool true)) w' from fun w' q => ⟨rfl, below_of_grown q⟩)
  obtain ⟨T, hT'⟩ : ∃ T : Ending → World → Prop, (fun (e : Ending) (w' : World) => e = .returned (.bool true) ∧ Below w.heap.size w w') = T := ⟨_, rfl⟩
  rw [hT'] at F ⊢
  clear hT' pc pd pb pf pu
  unfold encV at hz
  unfold CBg AnsC encV at PB
  unfold AnsC at AL
  have LB := hide begL_len
  have S0 := hide (show silE 0 = begL from rfl)
  generalize begL = BL at *
  go_enter Tryz.func8, Tryz.ntmps8
  go_upto_region 1 with fail
  go_wp2_with fail
  refine (PB.out w (grown_refl w none)).mono ?_
  rintro x W2 ⟨rfl, g2⟩
  have G2 := hide g2
  clear PB g2
  (try unfold encV)
  have CB := hide (encC_len LB.out false)
  have E0 := hide (BlkE.new W2 (zeros 225) false)
  have P1 := E0.out.putAll (m := BL) (t := false) (zeros_len 225) LB.out
  have E2 := hide P1.1
  have G3 := hide (grown_own (grown_none G2.out (grown_alloc W2 (.cells (encC (zeros 225) false).toArray 32) none)) P1.2 (World.grownBy.size G2.out))
  have HB' := hide (World.grownBy.size G2.out)
  clear P1 G2
  go_upto_region 2 with (first | refine wpList_store_v rfl 32 _ _ rfl W2.heap.size 0 32 (encC (zeros 225) false) (encC BL false) rfl rfl E0.out (by rw [ZL.out, CB.out]; omega) (by rw [CB.out]; exact size226) (encC_one _ _) ?_)
  (try simp only [Act.put])
  clear E0
  generalize putV (W2.alloc (.cells (encC (zeros 225) false).toArray 32)) W2.heap.size 0 (encC BL false) = W3 at *
  generalize W2.heap.size = bs at *
  go_wp2_with fail
  refine (SP.out W3).mono ?_
  rintro x W4 ⟨rfl, rfl⟩
  clear SP
  obtain ⟨N, hN, hN0, hN1⟩ : ∃ N : Nat, 1 + spotN n 20 = (N : Int) ∧ 1 ≤ N ∧ N ≤ 20 := ⟨(1 + spotN n 20).toNat, by omega, by omega, by omega⟩
  generalize spotN n 20 = sp at *
  go_upto_region 3 with fail
  (try rw [hN])
  go_wp2_with fail
  go_loopw [15] (fun i wr => ∃ k : Nat, i = .int .i64 k ∧ k ≤ N ∧ Hid (BlkE wr bs (silE k) (silT k)) ∧ Hid (w.grownBy wr none)) (fun i _ => N - (intOf i).toNat)
  case atStart => exact ⟨0, rfl, Nat.zero_le _, by rw [S0.out]; exact E2.out, G3.out⟩
  case round =>
    obtain ⟨k, rfl, hk, ES, GR⟩ := hrel
    clear E2 G3 S0 LB CB
    by_cases hkn : k < N
    · have RE := silE_rest k
      have GE := RE.good
      have RR := hide (tkR_of GE (zeros 80) (zeros_len 80) zeros80_right false)
      have A := hide (fun v' wr' g h sh => PC.out (silE k) (silT k) GE.len (goodE_64 GE) v' (zeros 80) wr' g h sh (fun i => by rw [zeros_nth]; omega) (by rw [zeros_len]; omega) false)
      unfold EncE at A
      rw [RR.out.er, rest_sil RE] at A
      have UN := hide (fun v' wr' g h sh => PU'.out v' (encB (silE k) (zeros 80) false) wr' g h RR.out.by' sh (by rw [RR.out.bl]; omega))
      unfold UnP at UN
      rw [(rest_un RE).1] at UN
      have KD := hide (rest_un RE).2
      have UL := hide (unpL_len (encB (silE k) (zeros 80) false))
      have X0 := hide (show silE (k + 1) = encM (silE k) (zeros 80) false from rfl)
      have XL := hide (encM_len (l := zeros 80) false GE.len)
      have EL := hide GE.len
      have HLn := hide RR.out.hl
      have BLn := hide RR.out.bl
      clear RR RE GE PC PU'
      generalize encM (silE k) (zeros 80) false = X at *
      generalize unpL (encB (silE k) (zeros 80) false) = P at *
      generalize encB (silE k) (zeros 80) false = BB at *
      generalize encL (silE k) (zeros 80) false = HH at *
      generalize silE k = E at *
      generalize silT k = t0 at *
      have CE := hide (encC_len EL.out t0)
      have AE := hide (BlkE.all t0 EL.out)
      have CX := hide (encC_len XL.out true)
      have AX := hide (BlkE.all true XL.out)
      have LW := hide (BlkE.lt ES.out)
      unfold encV at *
      go_upto_region 5 with fail
      go_cut [4, 5, 6, 7] from 16 to 47 (fun s7 s8 s9 s10 wx => EncR wr X true BB HH 0 s7 s8 s9 s10 wx)
      case first =>
        refine wp_region_held_drew (S := GrownW wr) (by kernel_rfl) (gw_start _) (fun hHeld => ?_)
        refine wpAnyH_take (i := 0) (v := .agg (encC E t0).toArray) rfl (by kernel_rfl) (by kernel_rfl) (by kernel_rfl) (fun _ _ _ h => h) (Or.inl ⟨by rfl, ?ykz1⟩) hHeld ?rkz1
        case ykz1 => (intro w' hSw; exact yields_load_v rfl rfl (BlkE.keep ES.out hSw) _ Tryz.underlying32 rfl size226 (by rw [CE.out]; omega) _ AE.out)
        (try simp only [Act.put, sL])
        refine wpAnyH_ready (rs := [1, 8]) (by kernel_rfl) (by simp) (AllReadyH.cons rfl (fun K hK => ?gkz2) (AllReadyH.cons rfl (fun K hK => ?gkz3) AllReadyH.nil))
        case gkz2 =>
          (try simp only [Act.put, sL])
          go_simp
          go_wp2_with fail
          refine hK.out _ _ (gw_alloc hHeld (.cells (arrI (zeros 80)) 3)) (fun hHeld => ?_)
          clear hK
          have OM := hide (show Blk ((wr.alloc (.cells (arrI (zeros 80)) 3)).drew) wr.heap.size 3 (zeros 80) from Blk.new wr.drew 3 (zeros 80))
          generalize (wr.alloc (.cells (arrI (zeros 80)) 3)).drew = wzkz4 at *
          (try simp only [Act.put, sL])
          refine wpAnyH_ready (rs := [2, 8]) (by kernel_rfl) (by simp) (AllReadyH.cons rfl (fun K hK => ?gkz5) (AllReadyH.cons rfl (fun K hK => ?gkz6) AllReadyH.nil))
          case gkz5 =>
            (try simp only [Act.put, sL])
            go_simp
            refine (A.out _ _ (grown_none GR.out hHeld) (ints80 OM.out (zeros_len 80)) (SH80.out _)).mono ?_
            rintro e wkz7 ⟨vb, vl, rfl, ob, ol, gkz7⟩
            have Gkz7 := hide gkz7
            have OB := hide (ob.base (b' := wr.heap.size) (World.grownBy.size hHeld))
            have OL := hide (ol.base (b' := wr.heap.size) (World.grownBy.size hHeld))
            clear gkz7 ob ol
            (try unfold memV)
            (try unfold encV)
            go_wp2_with fail
            refine hK.out _ _ (gw_trans hHeld Gkz7.out) (fun hHeld => ?_)
            clear hK
            have OM := hide (OM.out.keep Gkz7.out)
            (try simp only [Act.put, sL])
            refine wpAnyH_take (i := 3) (v := ?vkz8) rfl (by kernel_rfl) (by kernel_rfl) (by kernel_rfl) (fun _ _ _ h => h) (Or.inl ⟨by rfl, ?ykz8⟩) hHeld ?rkz8
            case ykz8 => (intro w' hSw; go_simp; (try with_reducible rfl))
            (try simp only [Act.put, sL])
            refine wpAnyH_take (i := 4) (v := ?vkz9) rfl (by kernel_rfl) (by kernel_rfl) (by kernel_rfl) (fun _ _ _ h => h) (Or.inl ⟨by rfl, ?ykz9⟩) hHeld ?rkz9
            case ykz9 => (intro w' hSw; go_simp; (try with_reducible rfl))
            (try simp only [Act.put, sL])
            refine wpAnyH_take (i := 5) (v := ?vkz10) rfl (by kernel_rfl) (by kernel_rfl) (by kernel_rfl) (fun _ _ _ h => h) (Or.inl ⟨by rfl, ?ykz10⟩) hHeld ?rkz10
            case ykz10 => (intro w' hSw; go_simp; (try with_reducible rfl))
            (try simp only [Act.put, sL])
            refine wpAnyH_take (i := 6) (v := ?vkz11) rfl (by kernel_rfl) (by kernel_rfl) (by kernel_rfl) (fun _ _ _ h => h) (Or.inl ⟨by rfl, ?ykz11⟩) hHeld ?rkz11
            case ykz11 => (intro w' hSw; go_simp; (try with_reducible rfl))
            (try simp only [Act.put, sL])
            refine wpAnyH_take (i := 7) (v := ?vkz12) rfl (by kernel_rfl) (by kernel_rfl) (by kernel_rfl) (fun _ _ _ h => h) (Or.inl ⟨by rfl, ?ykz12⟩) hHeld ?rkz12
            case ykz12 => (intro w' hSw; go_simp; (try with_reducible rfl))
            (try simp only [Act.put, sL])
            refine wpAnyH_ready (rs := [8]) (by kernel_rfl) (by simp) (AllReadyH.cons rfl (fun K hK => ?_) AllReadyH.nil)
            (try simp only [Act.put, sL])
            go_simp
            go_wp2_with fail
            have HB := hide (show wr.heap.size ≤ wkz7.heap.size from by first | exact Nat.le_refl _ | exact World.grownBy.size hHeld)
            refine hK.out _ _ (gw_alloc hHeld (.cells (encC (zeros 225) false).toArray 32)) (fun hHeld => ?_)
            clear hK
            have HZ := hide (show BlkE (wkz7.alloc (.cells (encC (zeros 225) false).toArray 32)) wkz7.heap.size (zeros 225) false from BlkE.new wkz7 (zeros 225) false)
            have OB := hide (OB.out.keep (grown_alloc wkz7 (.cells (encC (zeros 225) false).toArray 32) none))
            have OL := hide (OL.out.keep (grown_alloc wkz7 (.cells (encC (zeros 225) false).toArray 32) none))
            generalize wkz7.alloc (.cells (encC (zeros 225) false).toArray 32) = wzkz13 at *
            (try simp only [Act.put, sL])
            refine wpAnyH_ready (rs := [9]) (by kernel_rfl) (by simp) (AllReadyH.cons rfl (fun K hK => ?_) AllReadyH.nil)
            (try simp only [Act.put, sL])
            refine step_store_v rfl 32 _ _ rfl (wkz7.heap.size) 0 32 (encC (zeros 225) false) (encC X true) rfl rfl HZ.out (by rw [ZL.out, CX.out]; omega) (by rw [CX.out]; exact size226) (encC_one _ _) ?_
            have PU := HZ.out.putAll (m := X) (t := true) (zeros_len 225) XL.out
            have OB := hide (OB.out.keepBut PU.2 HZ.out (by decide))
            have OL := hide (OL.out.keepBut PU.2 HZ.out (by decide))
            refine hK.out _ _ (gw_own hHeld PU.2 HB.out) (fun hHeld => ?_)
            clear hK
            (try simp only [Act.put, sL])
            refine wpAnyH_take (i := 10) (v := ?vkz15) rfl (by kernel_rfl) (by kernel_rfl) (by kernel_rfl) (fun _ _ _ h => h) (Or.inl ⟨by rfl, ?ykz15⟩) hHeld ?rkz15
            case ykz15 => (intro w' hSw; go_simp; (try with_reducible rfl))
            (try simp only [Act.put, sL])
            refine wpAnyH_take (i := 11) (v := ?vkz16) rfl (by kernel_rfl) (by kernel_rfl) (by kernel_rfl) (fun _ _ _ h => h) (Or.inl ⟨by rfl, ?ykz16⟩) hHeld ?rkz16
            case ykz16 => (intro w' hSw; go_simp; (try with_reducible rfl))
            (try simp only [Act.put, sL])
            refine wpAnyH_take (i := 12) (v := ?vkz17) rfl (by kernel_rfl) (by kernel_rfl) (by kernel_rfl) (fun _ _ _ h => h) (Or.inl ⟨by rfl, ?ykz17⟩) hHeld ?rkz17
            case ykz17 => (intro w' hSw; go_simp; (try with_reducible rfl))
            (try simp only [Act.put, sL])
            refine wpAnyH_done (by kernel_rfl) ?_ _
            go_wp2_with fail
            go_meet
            exact ⟨wkz7.heap.size, rfl, rfl, PU.1, OB.out, OL.out, HB.out, hHeld⟩
          case gkz6 =>
            (try simp only [Act.put, sL])
            go_simp
            go_wp2_with fail
            have HB := hide (show wr.heap.size ≤ wzkz4.heap.size from by first | exact Nat.le_refl _ | exact World.grownBy.size hHeld)
            refine hK.out _ _ (gw_alloc hHeld (.cells (encC (zeros 225) false).toArray 32)) (fun hHeld => ?_)
            clear hK
            have HZ := hide (show BlkE (wzkz4.alloc (.cells (encC (zeros 225) false).toArray 32)) wzkz4.heap.size (zeros 225) false from BlkE.new wzkz4 (zeros 225) false)
            have OM := hide (OM.out.keep (grown_alloc wzkz4 (.cells (encC (zeros 225) false).toArray 32) none))
            generalize wzkz4.alloc (.cells (encC (zeros 225) false).toArray 32) = wzkz18 at *
            (try simp only [Act.put, sL])
            refine wpAnyH_ready (rs := [2]) (by kernel_rfl) (by simp) (AllReadyH.cons rfl (fun K hK => ?_) AllReadyH.nil)
            (try simp only [Act.put, sL])
            go_simp
            refine (A.out _ _ (grown_none GR.out hHeld) (ints80 OM.out (zeros_len 80)) (SH80.out _)).mono ?_
            rintro e wkz19 ⟨vb, vl, rfl, ob, ol, gkz19⟩
            have Gkz19 := hide gkz19
            have OB := hide (ob.base (b' := wr.heap.size) (World.grownBy.size hHeld))
            have OL := hide (ol.base (b' := wr.heap.size) (World.grownBy.size hHeld))
            clear gkz19 ob ol
            (try unfold memV)
            (try unfold encV)
            go_wp2_with fail
            refine hK.out _ _ (gw_trans hHeld Gkz19.out) (fun hHeld => ?_)
            clear hK
            have OM := hide (OM.out.keep Gkz19.out)
            have HZ := hide (HZ.out.keep Gkz19.out)
            (try simp only [Act.put, sL])
            refine wpAnyH_take (i := 3) (v := ?vkz20) rfl (by kernel_rfl) (by kernel_rfl) (by kernel_rfl) (fun _ _ _ h => h) (Or.inl ⟨by rfl, ?ykz20⟩) hHeld ?rkz20
            case ykz20 => (intro w' hSw; go_simp; (try with_reducible rfl))
            (try simp only [Act.put, sL])
            refine wpAnyH_take (i := 4) (v := ?vkz21) rfl (by kernel_rfl) (by kernel_rfl) (by kernel_rfl) (fun _ _ _ h => h) (Or.inl ⟨by rfl, ?ykz21⟩) hHeld ?rkz21
            case ykz21 => (intro w' hSw; go_simp; (try with_reducible rfl))
            (try simp only [Act.put, sL])
            refine wpAnyH_take (i := 5) (v := ?vkz22) rfl (by kernel_rfl) (by kernel_rfl) (by kernel_rfl) (fun _ _ _ h => h) (Or.inl ⟨by rfl, ?ykz22⟩) hHeld ?rkz22
            case ykz22 => (intro w' hSw; go_simp; (try with_reducible rfl))
            (try simp only [Act.put, sL])
            refine wpAnyH_take (i := 6) (v := ?vkz23) rfl (by kernel_rfl) (by kernel_rfl) (by kernel_rfl) (fun _ _ _ h => h) (Or.inl ⟨by rfl, ?ykz23⟩) hHeld ?rkz23
            case ykz23 => (intro w' hSw; go_simp; (try with_reducible rfl))
            (try simp only [Act.put, sL])
            refine wpAnyH_take (i := 7) (v := ?vkz24) rfl (by kernel_rfl) (by kernel_rfl) (by kernel_rfl) (fun _ _ _ h => h) (Or.inl ⟨by rfl, ?ykz24⟩) hHeld ?rkz24
            case ykz24 => (intro w' hSw; go_simp; (try with_reducible rfl))
            (try simp only [Act.put, sL])
            refine wpAnyH_ready (rs := [9]) (by kernel_rfl) (by simp) (AllReadyH.cons rfl (fun K hK => ?_) AllReadyH.nil)
            (try simp only [Act.put, sL])
            refine step_store_v rfl 32 _ _ rfl (wzkz4.heap.size) 0 32 (encC (zeros 225) false) (encC X true) rfl rfl HZ.out (by rw [ZL.out, CX.out]; omega) (by rw [CX.out]; exact size226) (encC_one _ _) ?_
            have PU := HZ.out.putAll (m := X) (t := true) (zeros_len 225) XL.out
            have OB := hide (OB.out.keepBut PU.2 HZ.out (by decide))
            have OL := hide (OL.out.keepBut PU.2 HZ.out (by decide))
            refine hK.out _ _ (gw_own hHeld PU.2 HB.out) (fun hHeld => ?_)
            clear hK
            (try simp only [Act.put, sL])
            refine wpAnyH_take (i := 10) (v := ?vkz26) rfl (by kernel_rfl) (by kernel_rfl) (by kernel_rfl) (fun _ _ _ h => h) (Or.inl ⟨by rfl, ?ykz26⟩) hHeld ?rkz26
            case ykz26 => (intro w' hSw; go_simp; (try with_reducible rfl))
            (try simp only [Act.put, sL])
            refine wpAnyH_take (i := 11) (v := ?vkz27) rfl (by kernel_rfl) (by kernel_rfl) (by kernel_rfl) (fun _ _ _ h => h) (Or.inl ⟨by rfl, ?ykz27⟩) hHeld ?rkz27
            case ykz27 => (intro w' hSw; go_simp; (try with_reducible rfl))
            (try simp only [Act.put, sL])
            refine wpAnyH_take (i := 12) (v := ?vkz28) rfl (by kernel_rfl) (by kernel_rfl) (by kernel_rfl) (fun _ _ _ h => h) (Or.inl ⟨by rfl, ?ykz28⟩) hHeld ?rkz28
            case ykz28 => (intro w' hSw; go_simp; (try with_reducible rfl))
            (try simp only [Act.put, sL])
            refine wpAnyH_done (by kernel_rfl) ?_ _
            go_wp2_with fail
            go_meet
            exact ⟨wzkz4.heap.size, rfl, rfl, PU.1, OB.out, OL.out, HB.out, hHeld⟩
        case gkz3 =>
          (try simp only [Act.put, sL])
          go_simp
          go_wp2_with fail
          have HB := hide (show wr.heap.size ≤ wr.heap.size from by first | exact Nat.le_refl _ | exact World.grownBy.size hHeld)
          refine hK.out _ _ (gw_alloc hHeld (.cells (encC (zeros 225) false).toArray 32)) (fun hHeld => ?_)
          clear hK
          have HZ := hide (show BlkE ((wr.alloc (.cells (encC (zeros 225) false).toArray 32)).drew) wr.heap.size (zeros 225) false from BlkE.new wr.drew (zeros 225) false)
          generalize (wr.alloc (.cells (encC (zeros 225) false).toArray 32)).drew = wzkz29 at *
          (try simp only [Act.put, sL])
          refine wpAnyH_ready (rs := [1]) (by kernel_rfl) (by simp) (AllReadyH.cons rfl (fun K hK => ?_) AllReadyH.nil)
          (try simp only [Act.put, sL])
          go_simp
          go_wp2_with fail
          refine hK.out _ _ (gw_alloc hHeld (.cells (arrI (zeros 80)) 3)) (fun hHeld => ?_)
          clear hK
          have OM := hide (show Blk (wzkz29.alloc (.cells (arrI (zeros 80)) 3)) wzkz29.heap.size 3 (zeros 80) from Blk.new wzkz29 3 (zeros 80))
          have HZ := hide (HZ.out.keep (grown_alloc wzkz29 (.cells (arrI (zeros 80)) 3) none))
          generalize wzkz29.alloc (.cells (arrI (zeros 80)) 3) = wzkz30 at *
          (try simp only [Act.put, sL])
          refine wpAnyH_ready (rs := [2]) (by kernel_rfl) (by simp) (AllReadyH.cons rfl (fun K hK => ?_) AllReadyH.nil)
          (try simp only [Act.put, sL])
          go_simp
          refine (A.out _ _ (grown_none GR.out hHeld) (ints80 OM.out (zeros_len 80)) (SH80.out _)).mono ?_
          rintro e wkz31 ⟨vb, vl, rfl, ob, ol, gkz31⟩
          have Gkz31 := hide gkz31
          have OB := hide (ob.base (b' := wr.heap.size) (World.grownBy.size hHeld))
          have OL := hide (ol.base (b' := wr.heap.size) (World.grownBy.size hHeld))
          clear gkz31 ob ol
          (try unfold memV)
          (try unfold encV)
          go_wp2_with fail
          refine hK.out _ _ (gw_trans hHeld Gkz31.out) (fun hHeld => ?_)
          clear hK
          have HZ := hide (HZ.out.keep Gkz31.out)
          have OM := hide (OM.out.keep Gkz31.out)
          (try simp only [Act.put, sL])
          refine wpAnyH_take (i := 3) (v := ?vkz32) rfl (by kernel_rfl) (by kernel_rfl) (by kernel_rfl) (fun _ _ _ h => h) (Or.inl ⟨by rfl, ?ykz32⟩) hHeld ?rkz32
          case ykz32 => (intro w' hSw; go_simp; (try with_reducible rfl))
          (try simp only [Act.put, sL])
          refine wpAnyH_take (i := 4) (v := ?vkz33) rfl (by kernel_rfl) (by kernel_rfl) (by kernel_rfl) (fun _ _ _ h => h) (Or.inl ⟨by rfl, ?ykz33⟩) hHeld ?rkz33
          case ykz33 => (intro w' hSw; go_simp; (try with_reducible rfl))
          (try simp only [Act.put, sL])
          refine wpAnyH_take (i := 5) (v := ?vkz34) rfl (by kernel_rfl) (by kernel_rfl) (by kernel_rfl) (fun _ _ _ h => h) (Or.inl ⟨by rfl, ?ykz34⟩) hHeld ?rkz34
          case ykz34 => (intro w' hSw; go_simp; (try with_reducible rfl))
          (try simp only [Act.put, sL])
          refine wpAnyH_take (i := 6) (v := ?vkz35) rfl (by kernel_rfl) (by kernel_rfl) (by kernel_rfl) (fun _ _ _ h => h) (Or.inl ⟨by rfl, ?ykz35⟩) hHeld ?rkz35
          case ykz35 => (intro w' hSw; go_simp; (try with_reducible rfl))
          (try simp only [Act.put, sL])
          refine wpAnyH_take (i := 7) (v := ?vkz36) rfl (by kernel_rfl) (by kernel_rfl) (by kernel_rfl) (fun _ _ _ h => h) (Or.inl ⟨by rfl, ?ykz36⟩) hHeld ?rkz36
          case ykz36 => (intro w' hSw; go_simp; (try with_reducible rfl))
          (try simp only [Act.put, sL])
          refine wpAnyH_ready (rs := [9]) (by kernel_rfl) (by simp) (AllReadyH.cons rfl (fun K hK => ?_) AllReadyH.nil)
          (try simp only [Act.put, sL])
          refine step_store_v rfl 32 _ _ rfl (wr.heap.size) 0 32 (encC (zeros 225) false) (encC X true) rfl rfl HZ.out (by rw [ZL.out, CX.out]; omega) (by rw [CX.out]; exact size226) (encC_one _ _) ?_
          have PU := HZ.out.putAll (m := X) (t := true) (zeros_len 225) XL.out
          have OB := hide (OB.out.keepBut PU.2 HZ.out (by decide))
          have OL := hide (OL.out.keepBut PU.2 HZ.out (by decide))
          refine hK.out _ _ (gw_own hHeld PU.2 HB.out) (fun hHeld => ?_)
          clear hK
          (try simp only [Act.put, sL])
          refine wpAnyH_take (i := 10) (v := ?vkz38) rfl (by kernel_rfl) (by kernel_rfl) (by kernel_rfl) (fun _ _ _ h => h) (Or.inl ⟨by rfl, ?ykz38⟩) hHeld ?rkz38
          case ykz38 => (intro w' hSw; go_simp; (try with_reducible rfl))
          (try simp only [Act.put, sL])
          refine wpAnyH_take (i := 11) (v := ?vkz39) rfl (by kernel_rfl) (by kernel_rfl) (by kernel_rfl) (fun _ _ _ h => h) (Or.inl ⟨by rfl, ?ykz39⟩) hHeld ?rkz39
          case ykz39 => (intro w' hSw; go_simp; (try with_reducible rfl))
          (try simp only [Act.put, sL])
          refine wpAnyH_take (i := 12) (v := ?vkz40) rfl (by kernel_rfl) (by kernel_rfl) (by kernel_rfl) (fun _ _ _ h => h) (Or.inl ⟨by rfl, ?ykz40⟩) hHeld ?rkz40
          case ykz40 => (intro w' hSw; go_simp; (try with_reducible rfl))
          (try simp only [Act.put, sL])
          refine wpAnyH_done (by kernel_rfl) ?_ _
          go_wp2_with fail
          go_meet
          exact ⟨wr.heap.size, rfl, rfl, PU.1, OB.out, OL.out, HB.out, hHeld⟩
      case rest =>
      obtain ⟨b1, rfl, rfl, v1b, ob1, ol1, hb1, g1⟩ := hcut
      have V1 := hide v1b
      have B1 := hide ob1
      have O1 := hide ol1
      have G1 := hide (grown_none GR.out g1)
      have S1 := hide (ES.out.keep g1)
      have NB := hide (show b1 ≠ bs by have := LW.out; omega)
      clear v1b ob1 ol1 g1 hb1 A ES GR LW
      go_wp2_with fail
      refine (UN.out _ _ G1.out B1.out.byts B1.out.shp).mono ?_
      rintro x W3' ⟨rfl, g3⟩
      obtain ⟨a1, a2, a3⟩ := fresh_arr W3' 59 25 P UL.out
      have Z1 := hide a1
      have Z2 := hide a2
      have V4 := hide ((V1.out.keep g3).keep a3)
      have S4 := hide ((S1.out.keep g3).keep a3)
      have G4 := hide (grown_none (grown_none G1.out g3) a3)
      obtain ⟨gl, cl, rfl, _, _, _⟩ := O1.out.form (by rw [HLn.out]; omega)
      have h80 := HLn.out
      rw [h80]
      clear UN B1 O1 V1 S1 G1 g3 a1 a2 a3 h80
      go_upto_region 7 with (first | refine wpList_store_arr rfl 59 _ _ rfl _ (zeros 25) P rfl rfl Z1.out (by rw [UL.out, zeros_len]) (by rw [zeros_len]; exact size25) ?_)
      (try simp only [Act.put])
      clear Z1
      generalize putArr _ W3'.heap.size P = W5 at *
      generalize W3'.heap.size = bp at *
      have ck := Z2.out.cell 0 (by rw [UL.out]; omega)
      rw [KD.out] at ck
      clear Z2
      have PE := S4.out.putAll (m := X) (t := true) EL.out XL.out
      have RL := hide (show BlkE (putV W5 bs 0 (encC X true)) bs X true ∧ w.grownBy (putV W5 bs 0 (encC X true)) none from ⟨PE.1, grown_own G4.out PE.2 HB'.out⟩)
      clear PE
      go_upto_region 10 with (first | refine wpList_load_v rfl 32 _ rfl b1 0 226 rfl 32 (encC X true) V4.out _ Tryz.underlying32 rfl size226 (by rw [CX.out]; omega) _ AX.out ?_ | refine wpList_store_v rfl 32 _ _ rfl bs 0 32 (encC E t0) (encC X true) rfl rfl S4.out (by rw [CE.out, CX.out]; omega) (by rw [CX.out]; exact size226) (encC_one _ _) ?_)
      (try simp only [Act.put])
      clear V4 S4 G4 ck
      generalize putV W5 bs 0 (encC X true) = W6 at *
      go_wp2_with fail
      go_roundw
      case rel => exact ⟨k + 1, by go_num, by omega, by rw [X0.out]; exact RL.out.1, RL.out.2⟩
      case measure => simp [intOf]; omega
    · obtain rfl : k = N := by omega
      have TT : silT k = true := by cases k with | zero => omega | succ j => rfl
      rw [TT] at ES
      have EL := hide (silE_rest k).good.len
      generalize silE k = E at *
      clear TT
      go_wp2_with fail
      refine (AL.out _ GR.out).mono ?_
      rintro x W9 ⟨rfl, g9⟩
      have FF := hide (F.out _ (grown_none GR.out g9))
      have cs := encCellS (ES.out.keep g9) EL.out
      clear AL F GR g9 ES
      go_wp2_with fail
      exact FF.out
end Go.Proofs.YtihphpcgjeokmaaGreatDoor

/- LTpA -/
namespace Go.Proofs.YtihphpcgjeokmaaGreatDoor
open Go.RowKit
set_option linter.unusedVariables false
theorem cfr_of (W : World) : CFr 10 W := fun wr g => conFresh_any wr
theorem pun_ofT {W : World} (t : TabA W 0 widq 8) : PUn 20 W := fun v b wr g hb hby hsh hl => pkUnpack_any v b wr hb hby (by omega) (TabA_keep t g)
theorem crd_topSilence (W : World) (t0 : TabA W 2 gro 15) (t1 : TabA W 0 widq 8) (t2 : TabA W 1 gains 8) (n : Int) (wn : (Lit.int .i64 n).wf = true) :
    Calls Tryz.prog 8 #[.int .i64 n] W fun e w' => e = .returned (.bool true) ∧ Below W.heap.size W w' :=
  law_topSilence W (cen_of t0 t1 t2) (cde_of t0 t1 t2) (cbg_of W) (cfr_of W) (pun_ofT t1) n
end Go.Proofs.YtihphpcgjeokmaaGreatDoor
