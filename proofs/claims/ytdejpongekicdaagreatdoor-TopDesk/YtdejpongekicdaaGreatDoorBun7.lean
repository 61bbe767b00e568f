/- Texts put together: CodB, CnpB, CnpC, CodC, CodD, CodG, LCdT, CodK, CodI. -/
import Derived.Test.YtdejpongekicdaaGreatDoorBun2
import Derived.Test.YtdejpongekicdaaGreatDoorBun6
import Derived.Test.YtdejpongekicdaaGreatDoorBun1
import Derived.BigQuiet
import Derived.Deep.QuietTactic
import Derived.Test.YtdejpongekicdaaGreatDoorBun3
import Derived.Test.YtdejpongekicdaaGreatDoorBun5
import Derived.Test.YtdejpongekicdaaGreatDoorBun4
/- CodB -/
namespace Go.Proofs.YtdejpongekicdaaGreatDoor
open Go.RowKit
set_option linter.unusedVariables false
set_option linter.unusedSimpArgs false
set_option maxHeartbeats 2000000
def LstE (w:World)(L:List Int)(e:Ending)(w':World):Prop:=∃v',e=.returned v'∧Own w.heap.size w' v' L∧w.grownBy w' none
theorem ownC_any {w:World}{b base:Nat}{rs:List Int}(h:Blk w b 3 rs)(hb:base≤b)(hl:rs.length≤35184372088832):Own base w (.slice (some ⟨b,0,none⟩) rs.length rs.length) rs:=
 ⟨by simp,.inr ⟨b,rs.length,arrI rs,rfl,hb,h,Nat.le_refl _,by unfold maxLen;omega,by simp[arrI],by simp[arrI,List.take_of_length_le]⟩⟩
theorem zPrd:(Tryz.prog.info? 113).bind (·.zero)=some (.agg (arrI (zeros 18))):=by kernel_rfl
theorem size18:(Tryz.prog.info? 113).map (·.size)=some 18:=by kernel_rfl
theorem laid4C (w:World)(T1 T2 T3 T4:TypeId)(a b c d:List Int):Blk ((((w.alloc (.cells (arrI a) T1)).alloc (.cells (arrI b) T2)).alloc (.cells (arrI c) T3)).alloc (.cells (arrI d) T4)) (w.heap.size+1+1+1) T4 d:=by
 have:=Blk.new (((w.alloc (.cells (arrI a) T1)).alloc (.cells (arrI b) T2)).alloc (.cells (arrI c) T3)) T4 d
 simpa using this
def PrdS (w:World)(was now L:List Int)(wr:World):Prop:=Blk wr w.heap.size 50 was∧Blk wr (w.heap.size+1) 50 now∧BlkV wr (w.heap.size+1+1) 113 (intsV (zeros 18))∧BlkV wr (w.heap.size+1+1+1) 113 (intsV L)∧w.grownBy wr none
theorem PrdS.new (w:World)(was now:List Int):PrdS w was now (zeros 18) ((((w.alloc (.cells (arrI was) 50)).alloc (.cells (arrI now) 50)).alloc (.cells (arrI (zeros 18)) 113)).alloc (.cells (arrI (zeros 18)) 113)):=by
 have h:=laid3 w 50 50 113 was now (zeros 18)
 have g:=grown_alloc (((w.alloc (.cells (arrI was) 50)).alloc (.cells (arrI now) 50)).alloc (.cells (arrI (zeros 18)) 113)) (.cells (arrI (zeros 18)) 113) none
 exact⟨h.1.keep g,h.2.1.keep g,h.2.2.1.keep g,laid4C w _ _ _ _ was now _ _,grown_none h.2.2.2 g⟩
theorem PrdS.keep {w:World}{was now L:List Int}{wr wr':World}(h:PrdS w was now L wr)(g:wr.grownBy wr' none):PrdS w was now L wr':=⟨h.1.keep g,h.2.1.keep g,h.2.2.1.keep g,h.2.2.2.1.keep g,grown_none h.2.2.2.2 g⟩
theorem PrdS.put {w:World}{was now L:List Int}{wr:World}(h:PrdS w was now L wr)(o:Nat)(M:List Int)(hl:o+M.length≤L.length):PrdS w was now (ovr L o M) (putV wr (w.heap.size+1+1+1) o (intsV M))∧wr.grownBy (putV wr (w.heap.size+1+1+1) o (intsV M)) (some (w.heap.size+1+1+1)):=by
 have:=putI h.2.2.2.1 o M hl
 exact⟨⟨h.1.keepBut this.2 (by omega),h.2.1.keepBut this.2 (by omega),h.2.2.1.keepBut this.2 (by omega),this.1,grown_own h.2.2.2.2 this.2 (by omega)⟩,this.2⟩
set_option maxRecDepth 100000 in
theorem codPredictors_any (was now:List Int)(h1:was.length=8)(h2:now.length=8)(s1:steadyB was=true)(s2:steadyB now=true)(w:World) :
  Calls Tryz.prog 67 #[.agg (arrI was),.agg (arrI now)] w (AnsC w (.agg (arrI (prL was now 2)))):=by
 have L0:=hide (PrdS.new w was now)
 have MX:=hide (fun(k:Nat) wr=>mix_any was now h1 h2 (2+2*(k:Int)) wr)
 have DM:=hide (fun(k:Nat) (hk:k<2) wr=>direct_any (mixL was now (2+2*(k:Int))) (mixL_len _ _ _) wr)
 have DE:=hide (fun(k:Nat) (hk:k<2)=>prdP_mix was now k hk h2 s1 s2)
 have PN:=hide (fun(k:Nat)=>prdP_len was now k)
 have KN:=hide (fun(k:Nat)=>mixL_len was now (2+2*(k:Int)))
 have LN:=hide (fun(k:Nat)=>prL_len was now k)
 have ST:=hide (fun(k:Nat)=>show ovr (prL was now k) (9*k) (prdP was now k)=prL was now (k+1)from rfl)
 have E0:=hide (show zeros 18=prL was now 0 from rfl)
 have F:=hide (show ∀w',w.grownBy w' none→AnsC w (.agg (arrI (prL was now 2))) (.returned (.agg (arrI (prL was now 2)))) w' from fun w' q=>⟨rfl,q⟩)
 have H1:=hide (show(Tryz.prog.info? 50).map (·.size)=some was.length by rw[h1];exact size8)
 have H2:=hide (show(Tryz.prog.info? 50).map (·.size)=some now.length by rw[h2];exact size8)
 have hz:=zero_arr zPrd
 clear s1 s2 h1 h2
 generalize AnsC w (.agg (arrI (prL was now 2)))=T at *
 go_enter Tryz.func67,Tryz.ntmps67
 go_upto_region 2 with fail
 generalize (((w.alloc (.cells (arrI was) 50)).alloc (.cells (arrI now) 50)).alloc (.cells (arrI (zeros 18)) 113)).alloc (.cells (arrI (zeros 18)) 113)=W0 at *
 clear hz
 go_wp2_with fail
 go_loopw [9] (fun i wr=>∃k:Nat,i=.int .i64 (k:Int)∧k≤2∧Hid (PrdS w was now (prL was now k) wr)) (fun i _=>2-(intOf i).toNat)
 case atStart=>exact⟨0,rfl,Nat.zero_le _,by rw[←E0.out];exact L0.out⟩
 case round=>
  obtain⟨k,rfl,hk,hP⟩:=hrel
  clear L0 E0
  by_cases hkl:k<2
  ·have hk2:(k:Int)<2:=by omega
   have MX1:=hide (MX.out k wr)
   have DM1:=hide (DM.out k hkl)
   have DE1:=hide (DE.out k hkl)
   have q1:((k:Int)+1)*4=4*k+4:=by omega
   have q2:(4*(k:Int)+4).tdiv 2=2+2*k:=by rw[Int.tdiv_eq_ediv_of_nonneg (by omega)];omega
   have q3:(4*(k:Int)+4) / 2=2+2*k:=by omega
   clear MX DM DE F
   rw[DE1.out]at DM1
   have PN1:=hide (PN.out k)
   have KN1:=hide (KN.out k)
   have LN1:=hide (LN.out k)
   have ST1:=hide (ST.out k)
   clear PN KN LN ST DE1
   generalize mixE was now (2+2*(k:Int))=x1 at *
   generalize dirE (mixL was now (2+2*(k:Int)))=x2 at *
   generalize mixL was now (2+2*(k:Int))=K at *
   generalize prdP was now k=A at *
   go_upto_region 5 with fail
   go_wp2_with (first|refine wpList_load_arr rfl 50 _ rfl _ rfl _ hP.out.1 _ Tryz.underlying50 rfl H1.out ?_|refine wpList_load_arr rfl 50 _ rfl _ rfl _ hP.out.2.1 _ Tryz.underlying50 rfl H2.out ?_)
   (try simp only[q1,q2,q3])
   refine MX1.out.mono ?_
   rintro e w1 ⟨rfl,g1⟩
   obtain⟨b1,b2,b3⟩:=fresh_arr w1 50 8 K KN1.out
   have B1:=hide b1
   have B2:=hide b2
   have P2:=hide ((hP.out.keep g1).keep b3)
   rw[z8']at B1 B2 P2
   clear g1 b1 b2 b3 hP MX1
   go_upto_region 6 with(first|refine wpList_store_arr rfl 50 _ _ rfl _ (zeros 8) K rfl rfl B1.out (by rw[KN1.out,zeros_len]) (by rw[zeros_len];exact size8) ?_)
   (try simp only[Act.put])
   clear B1
   generalize putArr _ w1.heap.size K=w2 at *
   generalize w1.heap.size=bk at *
   go_wp2_with (first|refine wpList_load_arr rfl 50 _ rfl _ rfl _ B2.out _ Tryz.underlying50 rfl (by rw[KN1.out];exact size8) ?_)
   refine(DM1.out w2).mono ?_
   rintro e w3 ⟨rfl,g3⟩
   have P3:=hide (P2.out.keep g3)
   have PU:=P3.out.put (9*k) A (by rw[PN1.out,LN1.out];omega)
   have P4:=hide PU.1
   rw[ST1.out]at P4
   have I_:=hide (intsV_one A)
   have IL:=hide (show(intsV A).length=9 by rw[intsV_len];exact PN1.out)
   have IP:=hide (show(intsV (prL was now k)).length=18 by rw[intsV_len];exact LN1.out)
   clear g3 P2 B2 PU DM1 ST1
   go_upto_region 7 with(first|refine wpList_store_v rfl 95 _ _ rfl (w.heap.size+1+1+1) (9*k) 113 (intsV (prL was now k)) (intsV A) (by go_simp;(try simp only[Nat.mul_comm]);(try with_reducible rfl)) rfl P3.out.2.2.2.1 (by rw[IL.out,IP.out];omega) (by rw[IL.out];exact size9') I_.out ?_)
   (try simp only[Act.put])
   clear P3 I_ IL IP
   generalize putV w3 (w.heap.size+1+1+1) (9*k) (intsV A)=w4 at *
   go_wp2_with fail
   go_roundw
   case rel=>exact⟨k+1,by go_num,by omega,P4.out⟩
   case measure=>simp[intOf];omega
  ·obtain rfl:k=2:=by omega
   have LN1:=hide (LN.out 2)
   clear MX DM DE PN KN LN ST
   generalize prL was now 2=L at *
   have PA:=hide (show((intsV L).drop 0).take 18=intsV L from by rw[List.drop_zero,List.take_of_length_le (by rw[intsV_len,LN1.out];omega)])
   have PU:=put_v hP.out.2.2.1 0 (intsV L) (by rw[intsV_len,intsV_len,LN1.out,zeros_len];omega)
   rw[splV_all _ _ (by rw[intsV_len,intsV_len,LN1.out,zeros_len])]at PU
   have PB:=hide PU
   have FF:=hide (F.out _ (grown_own hP.out.2.2.2.2 PU.2 (by omega)))
   have I_:=hide (intsV_one L)
   have IL:=hide (show(intsV L).length=18 by rw[intsV_len];exact LN1.out)
   have IZ:=hide (show(intsV (zeros 18)).length=18 by rw[intsV_len];exact zeros_len 18)
   clear PU F
   rw[show arrI L=(intsV L).toArray from rfl]at FF
   go_wp2_with (first|refine wpList_load_v rfl 113 _ rfl (w.heap.size+1+1+1) 0 18 rfl 113 (intsV L) hP.out.2.2.2.1 _ Tryz.underlying113 rfl size18 (by rw[IL.out];omega) _ PA.out ?_|refine wpList_store_v rfl 113 _ _ rfl (w.heap.size+1+1) 0 113 (intsV (zeros 18)) (intsV L) rfl rfl hP.out.2.2.1 (by rw[IL.out,IZ.out];omega) (by rw[IL.out];exact size18) I_.out ?_)
   have hlv:=loadVar_v PB.out.1 _ Tryz.underlying113 rfl (by rw[IL.out];exact size18)
   refine bodyPost_ret (v:=.agg (intsV L).toArray) ?_ rfl FF.out
   simp[results,Tryz.results67,asAddr,Act.put,hlv]
theorem codProduct_any (v u:Value)(a b:List Int)(w:World)(ha:Ints w v a)(hb:Ints w u b)(hl:a.length≤b.length)(hn:a.length≤100)(ra:rightB a=true)(rb:rightB b=true) :
  Calls Tryz.prog 64 #[v,u] w (Ans w (.int .i64 (dotS a b a.length))):=by
 have F:=hide (show Ans w (.int .i64 (dotS a b a.length)) (.returned (.int .i64 (dotS a b a.length))) w from⟨rfl,rfl⟩)
 have DB:=hide (dotS_bd a b ra rb)
 have RA:=hide (nth_in a (-32768) 32767 (by omega) (by omega) ((rightB_iff a).1 ra))
 have RB:=hide (nth_in b (-32768) 32767 (by omega) (by omega) ((rightB_iff b).1 rb))
 obtain⟨ad,c,rfl,hc,hva⟩:=ha
 obtain⟨bd,d,rfl,hd,hvb⟩:=hb
 have VA:=hide hva
 have VB:=hide hvb
 clear hva hvb ra rb
 generalize Ans w (.int .i64 (dotS a b a.length))=T at *
 go_enter Tryz.func64,Tryz.ntmps64
 go_wp2_with fail
 go_loop [5,10] (fun s i=>∃m:Nat,i=.int .i64 m∧s=.int .i64 (dotS a b m)∧m≤a.length) (fun _ i=>a.length-(intOf i).toNat)
 case atStart=>exact⟨0,rfl,rfl,Nat.zero_le _⟩
 case round=>
  obtain⟨m,rfl,rfl,hm⟩:=hrel
  by_cases hml:m<a.length
  ·obtain⟨pa,rfl,ca⟩:=VA.out (by omega)
   obtain⟨pb,rfl,cb⟩:=VB.out (by omega)
   have cx:=ca m hml
   have cy:=cb m (by omega)
   obtain⟨x1,x2⟩:=RA.out m
   obtain⟨y1,y2⟩:=RB.out m
   have pq:=p16_bd _ _ x1 x2 y1 y2
   have dd:=DB.out m
   have ST:=dotS_step a b m
   have i1:(m:Int)<a.length:=by omega
   have i2:(m:Int)<b.length:=by omega
   have HS:=hide ST
   clear ca cb DB RA RB VA VB ST F
   obtain⟨p1,p2⟩:=pq
   obtain⟨d1,d2⟩:=dd
   have d3:-107374182400≤dotS a b m:=by omega
   have d4:dotS a b m≤107374182400:=by omega
   clear d1 d2
   generalize dotS a b m=s at *
   generalize nth a m=x at *
   generalize nth b m=y at *
   go_wp2_with fail
   go_round
   case rel=>exact⟨m+1,by go_num,by rw[HS.out],by omega⟩
   case measure=>simp[intOf];omega
  ·obtain rfl:m=a.length:=by omega
   clear VA VB RA RB DB
   generalize dotS a b a.length=s at *
   go_wp2_with fail
   exact F.out
set_option maxRecDepth 100000 in
theorem codLess_any (v u:Value)(a b:List Int)(w:World)(ha:Ints w v a)(hb:Ints w u b)(la:a.length=40)(lb:b.length=40) :
  Calls Tryz.prog 151 #[v,u] w (LstE w (lesL a b)):=by
 have IV:=hide (fun wr (g:w.grownBy wr none)=>Ints_keep ha g)
 have IU:=hide (fun wr (g:w.grownBy wr none)=>Ints_keep hb g)
 have F:=hide (show ∀v' w',Own w.heap.size w' v' (lesL a b)→w.grownBy w' none→LstE w (lesL a b) (.returned v') w' from fun v' w' o q=>⟨v',rfl,o,q⟩)
 have EN:=hide (fun m=>show c16 (c16 (nth a m)-c16 (nth b m))=(fun i=>c16 (c16 (nth a i)-c16 (nth b i))) m from rfl)
 have EL:=hide (show tab 40 (fun i=>c16 (c16 (nth a i)-c16 (nth b i)))=lesL a b from by unfold lesL;rw[la])
 obtain⟨ad,c,rfl,hc,_⟩:=ha
 obtain⟨bd,d,rfl,hd,_⟩:=hb
 rw[la]at hc IV ⊢
 rw[lb]at hd IU ⊢
 have LA:=hide la
 have LB:=hide lb
 have M0:=hide (show Blk (w.alloc (.cells (arrI (zeros 40)) 3)) w.heap.size 3 (zeros 40)∧w.grownBy (w.alloc (.cells (arrI (zeros 40)) 3)) none from⟨Blk.new w 3 (zeros 40),grown_alloc _ _ none⟩)
 have hmk:=make_zeros 40 (by omega)
 rw[show((40:Nat):Int)=40 from rfl]at hmk
 clear la lb
 generalize LstE w (lesL a b)=T at *
 generalize (fun i=>c16 (c16 (nth a i)-c16 (nth b i)))=f at *
 go_enter Tryz.func151,Tryz.ntmps151
 go_upto_region 2 with fail
 clear hmk
 generalize w.alloc (.cells (arrI (zeros 40)) 3)=W0 at *
 go_wp2_with fail
 go_loopw [13] (fun i wr=>∃(m:Nat) (rs:List Int),i=.int .i64 (m:Int)∧m≤40∧Hid (FillN 40 f m rs)∧Hid (Blk wr w.heap.size 3 rs∧w.grownBy wr none)) (fun i _=>40-(intOf i).toNat)
 case atStart=>exact⟨0,zeros 40,rfl,Nat.zero_le _,fillN_start 40 _,M0.out⟩
 case round=>
  obtain⟨m,rs,rfl,hm,hF,hM⟩:=hrel
  clear M0
  by_cases hm40:m<40
  ·have i1:(m:Int)<40:=by omega
   obtain⟨p,rfl,ca⟩:=Ints_cell (IV.out _ hM.out.2) m (by rw[LA.out];exact hm40)
   obtain⟨q,rfl,cb⟩:=Ints_cell (IU.out _ hM.out.2) m (by rw[LB.out];exact hm40)
   have cd:=hM.out.1.cell m (by rw[hF.out.1];exact hm40)
   have fd:=hM.out.1.free m
   have NF:=hide (fillN_step hF.out hm40)
   have NM:=hide (show Blk (wr.setCell ⟨w.heap.size,m,none⟩ (.int .i64 (f m))) w.heap.size 3 (rs.set m (f m))∧w.grownBy (wr.setCell ⟨w.heap.size,m,none⟩ (.int .i64 (f m))) none from⟨hM.out.1.set m (f m),grown_own hM.out.2 (grown_setCell wr ⟨w.heap.size,m,none⟩ _) (Nat.le_refl _)⟩)
   have EN1:=hide (EN.out m)
   clear IV IU hF hM F EL EN
   generalize f m=R at *
   generalize nth a m=x at *
   generalize nth b m=y at *
   generalize nth rs m=z at *
   go_wp2_with fail
   refine(sub_any x y _).mono ?_
   rintro e w1 ⟨rfl,rfl⟩
   rw[EN1.out]
   go_wp2_with fail
   go_roundw
   case rel=>exact⟨m+1,_,by go_num,by omega,NF.out,NM.out⟩
   case measure=>simp[intOf];omega
  ·obtain rfl:m=40:=by omega
   have RS:=fillN_all hF.out
   have OW:=ownC_any (base:=w.heap.size) hM.out.1 (Nat.le_refl _) (by rw[hF.out.1];omega)
   rw[hF.out.1,RS,show List.map f (List.range 40)=_ from EL.out]at OW
   have FF:=hide (F.out _ _ OW hM.out.2)
   clear F OW IV IU
   go_wp2_with fail
   exact FF.out
set_option maxRecDepth 100000 in
theorem codLouder_any (v:Value)(a:List Int)(n:Int)(w:World)(ha:Ints w v a)(la:a.length=40)(ra:rightB a=true)(ht:TabA w 2 gains 8) :
  Calls Tryz.prog 155 #[v,.int .i64 n] w (LstE w (louL a (gaV n))):=by
 have IV:=hide (fun wr (g:w.grownBy wr none)=>Ints_keep ha g)
 have F:=hide (show ∀v' w',Own w.heap.size w' v' (louL a (gaV n))→w.grownBy w' none→LstE w (louL a (gaV n)) (.returned v') w' from fun v' w' o q=>⟨v',rfl,o,q⟩)
 have GA:=hide (pitGain_any n w ht)
 have gb:=gaV_bd n
 have EN:=hide (fun m=>show c16 ((nth a m*gaV n+8192) / 16384)=(fun i=>c16 ((nth a i*gaV n+8192) / 16384)) m from rfl)
 have EL:=hide (show tab 40 (fun i=>c16 ((nth a i*gaV n+8192) / 16384))=louL a (gaV n)from by unfold louL;rw[la])
 have RA:=hide (fun m=>right_nth ra m)
 obtain⟨ad,c,rfl,hc,_⟩:=ha
 rw[la]at hc IV ⊢
 have LA:=hide la
 have M0:=hide (show Blk (w.alloc (.cells (arrI (zeros 40)) 3)) w.heap.size 3 (zeros 40)∧w.grownBy (w.alloc (.cells (arrI (zeros 40)) 3)) none from⟨Blk.new w 3 (zeros 40),grown_alloc _ _ none⟩)
 have hmk:=make_zeros 40 (by omega)
 rw[show((40:Nat):Int)=40 from rfl]at hmk
 clear la ra
 generalize LstE w (louL a (gaV n))=T at *
 generalize (fun i=>c16 ((nth a i*gaV n+8192) / 16384))=f at *
 generalize gaV n=g at *
 go_enter Tryz.func155,Tryz.ntmps155
 go_wp2_with fail
 refine GA.out.mono ?_
 rintro e w1 ⟨rfl,rfl⟩
 clear GA
 go_upto_region 3 with fail
 clear hmk
 generalize w1.alloc (.cells (arrI (zeros 40)) 3)=W0 at *
 go_wp2_with fail
 go_loopw [20] (fun i wr=>∃(m:Nat) (rs:List Int),i=.int .i64 (m:Int)∧m≤40∧Hid (FillN 40 f m rs)∧Hid (Blk wr w1.heap.size 3 rs∧w1.grownBy wr none)) (fun i _=>40-(intOf i).toNat)
 case atStart=>exact⟨0,zeros 40,rfl,Nat.zero_le _,fillN_start 40 _,M0.out⟩
 case round=>
  obtain⟨m,rs,rfl,hm,hF,hM⟩:=hrel
  clear M0
  by_cases hm40:m<40
  ·have i1:(m:Int)<40:=by omega
   obtain⟨p,rfl,ca⟩:=Ints_cell (IV.out _ hM.out.2) m (by rw[LA.out];exact hm40)
   have cd:=hM.out.1.cell m (by rw[hF.out.1];exact hm40)
   have fd:=hM.out.1.free m
   have NF:=hide (fillN_step hF.out hm40)
   have NM:=hide (show Blk (wr.setCell ⟨w1.heap.size,m,none⟩ (.int .i64 (f m))) w1.heap.size 3 (rs.set m (f m))∧w1.grownBy (wr.setCell ⟨w1.heap.size,m,none⟩ (.int .i64 (f m))) none from⟨hM.out.1.set m (f m),grown_own hM.out.2 (grown_setCell wr ⟨w1.heap.size,m,none⟩ _) (Nat.le_refl _)⟩)
   have EN1:=hide (EN.out m)
   have bx:=RA.out m
   clear IV hF hM F EL EN RA
   generalize f m=R at *
   generalize nth a m=x at *
   generalize nth rs m=z at *
   have bg:=mul16_bd x g bx.1 bx.2 (by omega) (by omega)
   go_wp2_with fail
   refine(sat16_any _ _).mono ?_
   rintro e w2 ⟨rfl,rfl⟩
   rw[EN1.out]
   go_wp2_with fail
   go_roundw
   case rel=>exact⟨m+1,_,by go_num,by omega,NF.out,NM.out⟩
   case measure=>simp[intOf];omega
  ·obtain rfl:m=40:=by omega
   have RS:=fillN_all hF.out
   have OW:=ownC_any (base:=w1.heap.size) hM.out.1 (Nat.le_refl _) (by rw[hF.out.1];omega)
   rw[hF.out.1,RS,show List.map f (List.range 40)=_ from EL.out]at OW
   have FF:=hide (F.out _ _ OW hM.out.2)
   clear F OW IV
   go_wp2_with fail
   exact FF.out
end Go.Proofs.YtdejpongekicdaaGreatDoor

/- CnpB -/
namespace Go.Proofs.YtdejpongekicdaaGreatDoor
open Go.RowKit
set_option linter.unusedVariables false
set_option linter.unusedSimpArgs false
set_option maxHeartbeats 2000000
set_option maxRecDepth 100000 in
theorem conMix_size (h:List Int)(lag g:Int)(v:Value)(b:List Int)(w:World)(hv:Ints w v b)(hl:b.length≠40)(hl2:b.length≤1000000000000000000) :
  Calls Tryz.prog 163 #[.agg (arrI h),.int .i64 lag,.int .i64 g,v] w (ListE w (mxL h lag g b) (mxE lag g b)):=by
 obtain⟨ad,c,rfl,hc,_⟩:=hv
 have hne:((b.length:Int)==40)=false:=beq_eq_false_iff_ne.2 (by omega)
 have F:=hide (show ∀w',w.grownBy w' none→ListE w (mxL h lag g b) (mxE lag g b) (.returned (.tuple #[.slice none 0 0,.int .i64 1])) w' from fun w' q=>⟨_,by rw[(mxL_size (h:=h) hl).2],by rw[(mxL_size (h:=h) hl).1];exact Own_nil _ _,q⟩)
 have G0:=hide (grown_alloc w (.cells (arrI h) 51) none)
 clear hl
 generalize ListE w (mxL h lag g b) (mxE lag g b)=T at *
 go_enter Tryz.func163,Tryz.ntmps163
 go_upto_region 1 with fail
 generalize w.alloc (.cells (arrI h) 51)=W0 at *
 go_wp2_with fail
 exact F.out _ G0.out
set_option maxRecDepth 100000 in
theorem conMix_gain (h:List Int)(lag g:Int)(v:Value)(b:List Int)(w:World)(hv:Ints w v b)(hl:b.length=40)(hr:¬(0≤g∧g≤32767)) :
  Calls Tryz.prog 163 #[.agg (arrI h),.int .i64 lag,.int .i64 g,v] w (ListE w (mxL h lag g b) (mxE lag g b)):=by
 obtain⟨ad,c,rfl,hc,_⟩:=hv
 have q:¬mxO lag g b:=by unfold mxO;omega
 have F:=hide (show ∀w',w.grownBy w' none→ListE w (mxL h lag g b) (mxE lag g b) (.returned (.tuple #[.slice none 0 0,.int .i64 2])) w' from fun w' k=>⟨_,by rw[(mxL_range (h:=h) hl q).2],by rw[(mxL_range (h:=h) hl q).1];exact Own_nil _ _,k⟩)
 have G0:=hide (grown_alloc w (.cells (arrI h) 51) none)
 have WI:=hide (fun u=>conWithin_any g 0 32767 u)
 rw[decide_eq_false hr]at WI
 rw[hl]at hc ⊢
 clear hl q hr
 generalize ListE w (mxL h lag g b) (mxE lag g b)=T at *
 go_enter Tryz.func163,Tryz.ntmps163
 go_upto_region 1 with fail
 generalize w.alloc (.cells (arrI h) 51)=W0 at *
 go_wp2_with fail
 refine(WI.out _).mono ?_
 rintro e w1 ⟨rfl,rfl⟩
 go_wp2_with fail
 exact F.out _ G0.out
set_option maxRecDepth 100000 in
theorem conMix_lag (h:List Int)(lag g:Int)(v:Value)(b:List Int)(w:World)(hh:h.length=80)(hv:Ints w v b)(hl:b.length=40)(hg:0≤g∧g≤32767)(hr:¬(20≤lag∧lag≤79)) :
  Calls Tryz.prog 163 #[.agg (arrI h),.int .i64 lag,.int .i64 g,v] w (ListE w (mxL h lag g b) (mxE lag g b)):=by
 obtain⟨ad,c,rfl,hc,_⟩:=hv
 have q:¬mxO lag g b:=by unfold mxO;omega
 have F:=hide (show ∀w',w.grownBy w' none→ListE w (mxL h lag g b) (mxE lag g b) (.returned (.tuple #[.slice none 0 0,.int .i64 2])) w' from fun w' k=>⟨_,by rw[(mxL_range (h:=h) hl q).2],by rw[(mxL_range (h:=h) hl q).1];exact Own_nil _ _,k⟩)
 have B0:=hide (Blk.new w 51 h)
 have G0:=hide (grown_alloc w (.cells (arrI h) 51) none)
 have WI:=hide (fun u=>conWithin_any g 0 32767 u)
 rw[decide_eq_true hg]at WI
 have PS:=hide (fun u=>pitPast_any h hh lag u)
 rw[show pasL h lag=[]from if_neg hr,show pasE lag=2 from if_neg hr]at PS
 have S80:=hide (show(Tryz.prog.info? 51).map (·.size)=some h.length by rw[hh];exact size80c)
 rw[hl]at hc ⊢
 clear hl q hr hg hh
 generalize ListE w (mxL h lag g b) (mxE lag g b)=T at *
 go_enter Tryz.func163,Tryz.ntmps163
 go_upto_region 1 with fail
 generalize w.alloc (.cells (arrI h) 51)=W0 at *
 go_wp2_with fail
 refine(WI.out _).mono ?_
 rintro e w1 ⟨rfl,rfl⟩
 clear WI
 go_wp2_with (refine wpList_load_arr rfl 51 _ rfl w.heap.size rfl h B0.out _ Tryz.underlying51 rfl S80.out ?_)
 refine(PS.out _).mono ?_
 rintro e w2 ⟨v2,rfl,o2,g2⟩
 have FF:=hide (F.out _ (grown_none G0.out g2))
 clear PS o2 g2 F
 go_wp2_with fail
 exact FF.out
set_option maxRecDepth 100000 in
theorem conMix_yes (h:List Int)(lag g:Int)(v:Value)(b:List Int)(w:World)(hh:h.length=80)(hv:Ints w v b)(hk:mxO lag g b) :
  Calls Tryz.prog 163 #[.agg (arrI h),.int .i64 lag,.int .i64 g,v] w (ListE w (mxL h lag g b) (mxE lag g b)):=by
 have IV:=hide (fun wr (g:w.grownBy wr none)=>Ints_keep hv g)
 obtain⟨ad,c,rfl,hc,_⟩:=hv
 have hl:=hk.1
 rw[hl]at hc IV ⊢
 obtain⟨_,⟨l0,l9⟩,g0,g9⟩:=id hk
 have PS:=hide (fun u=>pitPast_any h hh lag u)
 have pl:(pasL h lag).length=40:=by
  obtain⟨L,rfl⟩:∃L:Nat,lag=(L:Int):=⟨lag.toNat,by omega⟩
  rw[(pasL_yes h L (by omega) (by omega)).1];exact pasV_len _ _
 have pe:pasE lag=0:=if_pos ⟨l0,l9⟩
 rw[pe]at PS
 have F:=hide (show ∀v' w',Own w.heap.size w' v' (mxA (pasL h lag) g b)→w.grownBy w' none→ListE w (mxL h lag g b) (mxE lag g b) (.returned (.tuple #[v',.int .i64 0])) w' from fun v' w' o q=>⟨v',by rw[(mxL_yes (h:=h) hk).2],by rw[(mxL_yes (h:=h) hk).1];exact o,q⟩)
 have WI:=hide (fun u=>conWithin_any g 0 32767 u)
 rw[decide_eq_true (show 0≤g∧g≤32767 from⟨g0,g9⟩)]at WI
 have B0:=hide (Blk.new w 51 h)
 have G0:=hide (grown_alloc w (.cells (arrI h) 51) none)
 have BL:=hide hl
 have VL:=hide pl
 have S80:=hide (show(Tryz.prog.info? 51).map (·.size)=some h.length by rw[hh];exact size80c)
 have hmk:=make_zeros 40 (by omega)
 rw[show((40:Nat):Int)=40 from rfl]at hmk
 clear hl hk hh pe pl
 generalize ListE w (mxL h lag g b) (mxE lag g b)=T at *
 generalize pasL h lag=V at *
 go_enter Tryz.func163,Tryz.ntmps163
 go_upto_region 1 with fail
 generalize w.alloc (.cells (arrI h) 51)=W0 at *
 go_wp2_with fail
 refine(WI.out _).mono ?_
 rintro e w1 ⟨rfl,rfl⟩
 clear WI
 go_wp2_with (refine wpList_load_arr rfl 51 _ rfl w.heap.size rfl h B0.out _ Tryz.underlying51 rfl S80.out ?_)
 refine(PS.out _).mono ?_
 rintro e W2 ⟨v2,rfl,o2,g2⟩
 obtain⟨gv,cv',rfl,_,_,_⟩:=o2.form (by rw[VL.out];omega)
 have G2:=hide (grown_none G0.out g2)
 have OV:=hide o2
 clear o2 g2 PS B0 G0 S80
 rw[VL.out]at OV ⊢
 have M0:=hide (show Blk (W2.alloc (.cells (arrI (zeros 40)) 3)) W2.heap.size 3 (zeros 40)∧W2.grownBy (W2.alloc (.cells (arrI (zeros 40)) 3)) none from⟨Blk.new W2 3 (zeros 40),grown_alloc _ _ none⟩)
 go_upto_region 9 with fail
 clear hmk
 generalize W2.alloc (.cells (arrI (zeros 40)) 3)=W3 at *
 go_wp2_with fail
 go_loopw [33] (fun i wr=>∃(m:Nat) (rs:List Int),i=.int .i64 (m:Int)∧m≤40∧Hid (FillN 40 (mxN V g b) m rs)∧Hid (Blk wr W2.heap.size 3 rs∧W2.grownBy wr none)) (fun i _=>40-(intOf i).toNat)
 case atStart=>exact⟨0,zeros 40,rfl,Nat.zero_le _,fillN_start 40 _,M0.out⟩
 case round=>
  obtain⟨m,rs,rfl,hm,hF,hM⟩:=hrel
  clear M0
  by_cases hm40:m<40
  ·have i1:(m:Int)<40:=by omega
   have cv:=(OV.out.keep hM.out.2).cell VL.out.symm m (by rw[VL.out];exact hm40)
   obtain⟨a,rfl,cb⟩:=Ints_cell (IV.out _ (grown_none G2.out hM.out.2)) m (by rw[BL.out];exact hm40)
   have cd:=hM.out.1.cell m (by rw[hF.out.1];exact hm40)
   have fd:=hM.out.1.free m
   have NF:=hide (fillN_step hF.out hm40)
   have NM:=hide (show Blk (wr.drew.setCell ⟨W2.heap.size,m,none⟩ (.int .i64 (mxN V g b m))) W2.heap.size 3 (rs.set m (mxN V g b m))∧W2.grownBy (wr.drew.setCell ⟨W2.heap.size,m,none⟩ (.int .i64 (mxN V g b m))) none from⟨(hM.out.1.keep (grown_drew (grown_refl wr none))).set m _,grown_own (grown_none hM.out.2 (grown_drew (grown_refl wr none))) (grown_setCell _ ⟨W2.heap.size,m,none⟩ _) (Nat.le_refl _)⟩)
   have EN:=hide (show c16 ((c16 (nth V m)*g+8192) / 16384+c16 (nth b m))=mxN V g b m from rfl)
   have bx:=c16_bd (nth V m)
   have by':=c16_bd (nth b m)
   have bg:-1073709056≤c16 (nth V m)*g∧c16 (nth V m)*g≤1073741824:=mul16_bd _ _ bx.1 bx.2 (by omega) g9
   clear IV hF hM OV
   generalize mxN V g b m=R at *
   generalize nth V m=x at *
   generalize nth b m=y at *
   generalize nth rs m=q at *
   have W3:=wrapI ((c16 x*g+8192) / 16384+c16 y) (by omega) (by omega)
   go_upto_region 12 with fail
   refine wp_region_G 14 (fun w'=>w'=wr.drew) 15 (by rfl) #[false,false,false,false,false,false,false,false,false,false,false,false,false,false,false] (by rfl) (by kernel_rfl) (fun hcl=>?_)
   refine wpAnyG_take (i:=0) (v:=?vmx0) rfl (by kernel_rfl) hcl (fun _ _ _ h=>h) (Or.inl ⟨by rfl,?ymx0⟩) rfl (fun hcl=>?rmx0)
   case ymx0=>(intro w' hSw;subst hSw;go_simp;try with_reducible rfl)
   (try simp only[Act.put,sL])
   refine wpAnyG_take (i:=1) (v:=?vmx1) rfl (by kernel_rfl) hcl (fun _ _ _ h=>h) (Or.inl ⟨by rfl,?ymx1⟩) rfl (fun hcl=>?rmx1)
   case ymx1=>(intro w' hSw;subst hSw;go_simp;try with_reducible rfl)
   (try simp only[Act.put,sL])
   refine wpAnyG_take (i:=2) (v:=?vmx2) rfl (by kernel_rfl) hcl (fun _ _ _ h=>h) (Or.inl ⟨by rfl,?ymx2⟩) rfl (fun hcl=>?rmx2)
   case ymx2=>(intro w' hSw;subst hSw;go_simp;try with_reducible rfl)
   (try simp only[Act.put,sL])
   refine wpAnyG_take (i:=4) (v:=?vmx4) rfl (by kernel_rfl) hcl (fun _ _ _ h=>h) (Or.inl ⟨by rfl,?ymx4⟩) rfl (fun hcl=>?rmx4)
   case ymx4=>(intro w' hSw;subst hSw;go_simp;try with_reducible rfl)
   (try simp only[Act.put,sL])
   refine wpAnyG_take (i:=6) (v:=?vmx6) rfl (by kernel_rfl) hcl (fun _ _ _ h=>h) (Or.inl ⟨by rfl,?ymx6⟩) rfl (fun hcl=>?rmx6)
   case ymx6=>(intro w' hSw;subst hSw;go_simp;try with_reducible rfl)
   (try simp only[Act.put,sL])
   refine wpAnyG_take (i:=7) (v:=?vmx7) rfl (by kernel_rfl) hcl (fun _ _ _ h=>h) (Or.inl ⟨by rfl,?ymx7⟩) rfl (fun hcl=>?rmx7)
   case ymx7=>(intro w' hSw;subst hSw;go_simp;try with_reducible rfl)
   (try simp only[Act.put,sL])
   refine wpAnyG_take (i:=8) (v:=?vmx8) rfl (by kernel_rfl) hcl (fun _ _ _ h=>h) (Or.inl ⟨by rfl,?ymx8⟩) rfl (fun hcl=>?rmx8)
   case ymx8=>(intro w' hSw;subst hSw;go_simp;try with_reducible rfl)
   (try simp only[Act.put,sL])
   refine wpAnyG_take (i:=9) (v:=.int .i64 y) rfl (by kernel_rfl) hcl (fun _ _ _ h=>h) (Or.inl ⟨by rfl,?ymx9⟩) rfl (fun hcl=>?rmx9)
   case ymx9=>(intro w' hSw;subst hSw;go_simp;try with_reducible rfl)
   (try simp only[Act.put,sL])
   refine wpAnyG_exec (i:=3) rfl (by kernel_rfl) hcl (fun K hK=>?_)
   (try simp only[Act.put,sL])
   go_simp
   refine(conStopped_any x _).mono ?_
   rintro e w1 ⟨rfl,rfl⟩
   go_wp2_with fail
   refine hK.out _ _ (fun _=>rfl) (fun hcl=>?_)
   clear hK
   (try simp only[Act.put,sL])
   refine wpAnyG_exec (i:=5) rfl (by kernel_rfl) hcl (fun K hK=>?_)
   (try simp only[Act.put,sL])
   go_simp
   refine(conScaled_any (c16 x) g (by omega) (by omega) _).mono ?_
   rintro e w1 ⟨rfl,rfl⟩
   go_wp2_with fail
   refine hK.out _ _ (fun _=>rfl) (fun hcl=>?_)
   clear hK
   (try simp only[Act.put,sL])
   refine wpAnyG_exec (i:=10) rfl (by kernel_rfl) hcl (fun K hK=>?_)
   (try simp only[Act.put,sL])
   go_simp
   refine(conStopped_any y _).mono ?_
   rintro e w1 ⟨rfl,rfl⟩
   go_wp2_with fail
   refine hK.out _ _ (fun _=>rfl) (fun hcl=>?_)
   clear hK
   (try simp only[Act.put,sL])
   refine wpAnyG_take (i:=11) (v:=.int .i64 ((c16 x*g+8192) / 16384+c16 y)) rfl (by kernel_rfl) hcl (fun _ _ _ h=>h) (Or.inl ⟨by rfl,?ymx11⟩) rfl (fun hcl=>?rmx11)
   case ymx11=>(intro w' hSw;subst hSw;go_simp;(try simp only[W3]))
   (try simp only[Act.put,sL])
   refine wpAnyG_exec (i:=12) rfl (by kernel_rfl) hcl (fun K hK=>?_)
   (try simp only[Act.put,sL])
   go_simp
   refine(conStopped_any ((c16 x*g+8192) / 16384+c16 y) _).mono ?_
   rintro e w1 ⟨rfl,rfl⟩
   rw[EN.out]
   go_wp2_with fail
   refine hK.out _ _ (fun _=>rfl) (fun hcl=>?_)
   clear hK
   (try simp only[Act.put,sL])
   refine wpAnyG_take (i:=13) (v:=?vmx13) rfl (by kernel_rfl) hcl (fun _ _ _ h=>h) (Or.inl ⟨by rfl,?ymx13⟩) rfl (fun hcl=>?rmx13)
   case ymx13=>(intro w' hSw;subst hSw;go_simp;try with_reducible rfl)
   (try simp only[Act.put,sL])
   refine wpAnyG_exec (i:=14) rfl (by kernel_rfl) hcl (fun K hK=>?_)
   (try simp only[Act.put,sL])
   go_simp
   go_wp2_with fail
   refine hK.out _ _ (fun h=>by cases h) (fun hcl=>?_)
   clear hK
   (try simp only[Act.put,sL])
   refine wpAnyG_of_any _ _ _ _ (by rfl) ?_
   refine wpAny_done (by kernel_rfl) ?_ _
   go_wp2_with fail
   go_roundw
   case rel=>exact⟨m+1,_,by go_num,by omega,NF.out,NM.out⟩
   case measure=>first|(simp[intOf];done)|(simp[intOf];omega)
  ·obtain rfl:m=40:=by omega
   have EL:=hide (show rs=mxA V g b from fillN_all hF.out)
   have hlen:rs.length=40:=hF.out.1
   have OF:=ownP_any (base:=w.heap.size) hM.out.1 G2.out.size (by omega)
   rw[hlen]at OF
   have FF:=hide (F.out _ _ (by rw[←EL.out];exact OF) (grown_none G2.out hM.out.2))
   clear hF hM F IV OF OV
   rw[show((40:Nat):Int)=40 from rfl]
   go_wp2_with fail
   exact FF.out
theorem conMix_any (h:List Int)(lag g:Int)(v:Value)(b:List Int)(w:World)(hh:h.length=80)(hv:Ints w v b)(hl2:b.length≤1000000000000000000) :
  Calls Tryz.prog 163 #[.agg (arrI h),.int .i64 lag,.int .i64 g,v] w (ListE w (mxL h lag g b) (mxE lag g b)):=by
 by_cases hl:b.length=40
 ·by_cases hg:0≤g∧g≤32767
  ·by_cases hr:20≤lag∧lag≤79
   ·exact conMix_yes h lag g v b w hh hv ⟨hl,hr,hg⟩
   ·exact conMix_lag h lag g v b w hh hv hl hg hr
  ·exact conMix_gain h lag g v b w hv hl hg
 ·exact conMix_size h lag g v b w hv hl hl2
theorem step_copyK {y:Nat→Option Bool}{o:Oper}{a:Act}{w:World}{K:Act→World→Prop}{Q:Exit→Act→World→Prop}{E:Prop}(hg:o.guard=none)(d s:Operand)
  (hop:o.op=Op.call { callee:=Callee.builtin Builtin.copy,args:=#[d,s],argTypes:=#[26,26] }) (b off dn n dc sc:Nat) (T:TypeId) (p L:List Int) (ad:Addr) (hb:Blk w b T p)
  (hd:a.eval d=.slice (some ⟨b,off,none⟩) dn dc) (hs:a.eval s=.slice (some ad) n sc) (hL:L.length=n) (hdn:n≤dn) (hsrc:∀j,j<n→w.cell? (ad.add j)=some (.int .i64 (nth L j))) (hfit:off+n≤p.length)
  (hK:∀w',Blk w' b T (splI p off L)→w.grownBy w' (some b)→K (a.put o.dst (goInt n)) w'):if Region.wanted o y=true then Oper.wp Tryz.prog o a w K Q else E:=by
 have hw:Region.wanted o y=true:=by simp[Region.wanted,hg]
 rw[if_pos hw]
 have hsz:(Tryz.prog.info? 3).map (·.size)=some 1:=by kernel_rfl
 have hrun:=run_copy_row (P:=Tryz.prog) w 26 26 o.type 3 b off dn dc ad n sc (arrI p) T (L.map (Value.int .i64)) Tryz.underlying26 hsz hb (by rw[List.length_map,hL];exact(Nat.min_eq_left hdn).symm)
  (fun j v hv=>by
   have hj:j<L.length:=by
    by_cases hj:j<L.length
    ·exact hj
    ·rw[List.getElem?_eq_none (by simp;omega)]at hv;cases hv
   rw[hsrc j (by omega)]
   simpa [nth,List.getD,hj] using hv)
  (by simp[arrI,hL];omega) (fun v hv=>by
   obtain⟨x,_,rfl⟩:=List.mem_map.1 hv
   rfl)
 have e:((arrI p).toList.take off++L.map (Value.int .i64)++(arrI p).toList.drop (off+(L.map (Value.int .i64)).length)).toArray=arrI (splI p off L):=by
  simp[arrI,splI,List.map_take,List.map_drop]
 rw[e,List.length_map,hL]at hrun
 unfold Oper.wp
 simp[execOp,hop,resolve,invoke,builtin,hd,hs,hrun,Result.andThen]
 exact hK _ (setRow_heap _ _ _ _ _ _ hb) (grown_setRowI _ _ _)
theorem Mem2.put2 {w wr:World}{T1 T2:TypeId}{a b b':List Int}(h:Mem2 w wr T1 T2 a b)(hl:b'.length=b.length):Blk (putArr wr (w.heap.size+1) b') (w.heap.size+1) T2 b'∧w.grownBy (putArr wr (w.heap.size+1) b') none:=by
 have:=put_arr (rs':=b') h.2.1 hl
 exact⟨this.1,grown_own h.2.2 this.2 (by omega)⟩
theorem Mem2.set1 {w wr:World}{T1 T2:TypeId}{a b:List Int}(h:Mem2 w wr T1 T2 a b)(k:Nat)(z:Int):Mem2 w (wr.setCell ⟨w.heap.size,k,none⟩ (.int .i64 z)) T1 T2 (a.set k z) b:=
 ⟨h.1.set k z,h.2.1.keepBut (grown_setCell wr ⟨w.heap.size,k,none⟩ (.int .i64 z)) (by simp),grown_own h.2.2 (grown_setCell wr ⟨w.heap.size,k,none⟩ (.int .i64 z)) (Nat.le_refl _)⟩
set_option maxRecDepth 100000 in
theorem conKeep_no (h:List Int)(v:Value)(b:List Int)(w:World)(hh:h.length=80)(hv:Ints w v b)(hl:b.length≠40)(hl2:b.length≤1000000000000000000) :
  Calls Tryz.prog 164 #[.agg (arrI h),v] w (KepE w (kpL h b) (kpE b)):=by
 obtain⟨ad,c,rfl,hc,_⟩:=hv
 have M0:=hide (show Mem2 w _ 51 51 h (zeros 80)from laid2 w 51 51 h (zeros 80))
 have PU:=M0.out.put2 (b':=zeros 80) rfl
 have PB:=hide PU.1
 have ZL:=hide (zeros_len 80)
 have hz:=zero_arr z80
 have hne:((b.length:Int)==40)=false:=beq_eq_false_iff_ne.2 (by omega)
 have F:=hide (show KepE w (kpL h b) (kpE b) (.returned (.tuple #[.agg (arrI (zeros 80)),.int .i64 1])) _ from⟨by rw[(kpL_no (h:=h) hl).1,(kpL_no (h:=h) hl).2],PU.2⟩)
 clear PU hl hh
 generalize KepE w (kpL h b) (kpE b)=T at *
 generalize zeros 80=Z at *
 go_enter Tryz.func164,Tryz.ntmps164
 go_upto_region 1 with fail
 generalize (w.alloc (.cells (arrI h) 51)).alloc (.cells (arrI Z) 51)=W0 at *
 go_wp2_with (first|refine wpList_store_arr rfl 51 _ _ rfl _ Z Z rfl rfl M0.out.2.1 rfl (by rw[ZL.out];exact size80c) ?_)
 have hlv:=loadVar_arr PB.out _ Tryz.underlying51 rfl (by rw[ZL.out];exact size80c)
 refine bodyPost_ret (v:=.tuple #[.agg (arrI Z),.int .i64 1]) ?_ rfl F.out
 simp[results,Tryz.results164,asAddr,Act.put,hlv]
theorem kpFill_start (h b:List Int)(hh:h.length=80):FillN 80 (kpN h b) (40+0) (splI h 0 (prt h 40 40)):=by
 refine⟨by rw[splI_len _ _ _ (by rw[prt_len];omega)];exact hh,fun j hj=>?_⟩
 rw[splI_nth _ _ _ (by rw[prt_len];omega),if_neg (by omega),prt_len,if_pos (by omega),prt_nth _ _ _ _ (by omega)]
 unfold kpN
 rw[if_pos (by omega),show 40+(j-0)=j+40 by omega]
set_option maxRecDepth 100000 in
theorem conKeep_yes (h:List Int)(v:Value)(b:List Int)(w:World)(hh:h.length=80)(hv:Ints w v b)(hl:b.length=40) :
  Calls Tryz.prog 164 #[.agg (arrI h),v] w (KepE w (kpL h b) (kpE b)):=by
 have IV:=hide (fun wr (g:w.grownBy wr none)=>Ints_keep hv g)
 obtain⟨ad,c,rfl,hc,_⟩:=hv
 rw[hl]at IV hc ⊢
 have M0:=hide (show Mem2 w _ 51 51 h (zeros 80)from laid2 w 51 51 h (zeros 80))
 have ZL:=hide (zeros_len 80)
 have HH:=hide hh
 have HL:=hide hl
 have F_:=hide (kpFill_start h b hh)
 have hz:=zero_arr z80
 have F:=hide (show ∀w',w.grownBy w' none→KepE w (kpL h b) (kpE b) (.returned (.tuple #[.agg (arrI (kpA h b)),.int .i64 0])) w' from fun w' g=>⟨by rw[(kpL_yes (h:=h) hl).1,(kpL_yes (h:=h) hl).2],g⟩)
 clear hl hh
 generalize KepE w (kpL h b) (kpE b)=T at *
 generalize zeros 80=Z at *
 go_enter Tryz.func164,Tryz.ntmps164
 go_upto_region 3 with fail
 generalize (w.alloc (.cells (arrI h) 51)).alloc (.cells (arrI Z) 51)=W0 at *
 clear hz
 refine wp_region_held_drew (S:=GrownW w) (by kernel_rfl) (grown_drew M0.out.2.2) (fun hHeld=>?_)
 refine wpAnyH_take (i:=0) (v:=.slice (some ⟨w.heap.size,0,none⟩) 80 80) rfl (by kernel_rfl) (by kernel_rfl) (by kernel_rfl) (fun _ _ _ h=>h) (Or.inl ⟨by rfl,?ykp0⟩) hHeld ?rkp0
 case ykp0=>(intro w' hSw;go_simp;(try with_reducible rfl))
 (try simp only[Act.put,sL])
 refine wpAnyH_take (i:=1) (v:=.slice (some ⟨w.heap.size,40,none⟩) 40 40) rfl (by kernel_rfl) (by kernel_rfl) (by kernel_rfl) (fun _ _ _ h=>h) (Or.inl ⟨by rfl,?ykp1⟩) hHeld ?rkp1
 case ykp1=>(intro w' hSw;go_simp;(try with_reducible rfl))
 (try simp only[Act.put,sL])
 refine wpAnyH_ready (rs:=[2]) (by kernel_rfl) (by simp) (AllReadyH.cons rfl (fun K hK=>?_) AllReadyH.nil)
 (try simp only[Act.put,sL])
 refine step_copyK rfl _ _ rfl w.heap.size 0 80 40 80 40 51 h (prt h 40 40) ⟨w.heap.size,40,none⟩ (M0.out.1.keep (gw_start W0)) rfl rfl (prt_len _ _ _) (by omega) (fun j hj=>by rw[Addr.add_mid,prt_nth _ _ _ _ hj];exact(M0.out.1.keep (gw_start W0)).cell (40+j) (by rw[HH.out];omega)) (by rw[HH.out];omega) ?_
 intro w1 b1 g1
 have B1:=hide b1
 have BB:=hide ((M0.out.2.1.keep (gw_start W0)).keepBut g1 (by omega))
 have GM:=hide (grown_own hHeld g1 (Nat.le_refl _))
 clear b1 g1 M0 hHeld
 refine hK.out _ _ GM.out (fun hHeld=>?_)
 clear hK
 (try simp only[Act.put,sL])
 refine wpAnyH_take (i:=3) (v:=?vkp3) rfl (by kernel_rfl) (by kernel_rfl) (by kernel_rfl) (fun _ _ _ h=>h) (Or.inl ⟨by rfl,?ykp3⟩) hHeld ?rkp3
 case ykp3=>(intro w' hSw;go_simp;(try with_reducible rfl))
 (try simp only[Act.put,sL])
 refine wpAnyH_done (by kernel_rfl) ?_ _
 have M1:=hide (show Mem2 w w1 51 51 (splI h 0 (prt h 40 40)) Z from⟨B1.out,BB.out,GM.out⟩)
 clear B1 BB GM hHeld
 generalize splI h 0 (prt h 40 40)=H0 at *
 rw[show goInt ((40:Nat):Int)=.int .i64 40 from rfl]
 go_wp2_with fail
 go_loopw [18] (fun i wr=>∃(m:Nat) (rs:List Int),i=.int .i64 (m:Int)∧m≤40∧Hid (FillN 80 (kpN h b) (40+m) rs)∧Hid (Mem2 w wr 51 51 rs Z)) (fun i _=>40-(intOf i).toNat)
 case atStart=>exact⟨0,H0,rfl,Nat.zero_le _,F_.out,M1.out⟩
 case round=>
  obtain⟨m,rs,rfl,hm,hF,hM⟩:=hrel
  clear M1 F_
  by_cases hm40:m<40
  ·have i1:(m:Int)<40:=by omega
   have rl:=hF.out.1
   obtain⟨a,rfl,cx⟩:=Ints_cell (IV.out wr hM.out.2.2) m (by rw[HL.out];omega)
   have cd:=hM.out.1.cell (40+m) (by omega)
   have fd:=hM.out.1.free (40+m)
   have NF:=hide (fillN_step hF.out (show 40+m<80 by omega))
   have EK:kpN h b (40+m)=c16 (nth b m):=by unfold kpN;rw[if_neg (by omega),show 40+m-40=m by omega]
   rw[EK]at NF
   have NM:=hide (hM.out.set1 (40+m) (c16 (nth b m)))
   have RS:=hide (conStopped_any (nth b m) wr)
   clear hF hM IV EK rl
   generalize hk:40+m=k at *
   have i3:(40:Int)+(m:Int)=(k:Int):=by omega
   have i4:(k:Int)<80:=by omega
   have HK:=hide hk
   clear hk
   generalize nth b m=x at *
   generalize c16 x=z at *
   generalize nth rs k=y at *
   go_wp2_with fail
   refine RS.out.mono ?_
   rintro e w1 ⟨rfl,rfl⟩
   clear RS
   go_wp2_with fail
   go_roundw
   case rel=>exact⟨m+1,_,by go_num,by omega,by rw[show 40+(m+1)=k+1 by have:=HK.out;omega];exact NF.out,NM.out⟩
   case measure=>first|(simp[intOf];done)|(simp[intOf];omega)
  ·obtain rfl:m=40:=by omega
   rw[show((40:Nat):Int)=40 from rfl]
   have ers:rs=kpA h b:=fillN_all hF.out
   subst ers
   have PU:=hM.out.put2 (b':=kpA h b) (by rw[kpA_len,ZL.out])
   have PB:=hide PU.1
   have FF:=hide (F.out _ PU.2)
   have KL:=hide (kpA_len h b)
   have HM:=hide hM.out
   clear hF hM PU IV F
   generalize kpA h b=R at *
   go_wp2_with (first|refine wpList_load_arr rfl 51 _ rfl _ rfl _ HM.out.1 _ Tryz.underlying51 rfl (by rw[KL.out];exact size80c) ?_|refine wpList_store_arr rfl 51 _ _ rfl _ Z R rfl rfl HM.out.2.1 (by rw[KL.out,ZL.out]) (by rw[ZL.out];exact size80c) ?_)
   have hlv:=loadVar_arr PB.out _ Tryz.underlying51 rfl (by rw[KL.out];exact size80c)
   refine bodyPost_ret (v:=.tuple #[.agg (arrI R),.int .i64 0]) ?_ rfl FF.out
   simp[results,Tryz.results164,asAddr,Act.put,hlv]
theorem conKeep_any (h:List Int)(v:Value)(b:List Int)(w:World)(hh:h.length=80)(hv:Ints w v b)(hl2:b.length≤1000000000000000000) :
  Calls Tryz.prog 164 #[.agg (arrI h),v] w (KepE w (kpL h b) (kpE b)):=by
 by_cases hl:b.length=40
 ·exact conKeep_yes h v b w hh hv hl
 ·exact conKeep_no h v b w hh hv hl hl2
end Go.Proofs.YtdejpongekicdaaGreatDoor

/- CnpC -/
namespace Go.Proofs.YtdejpongekicdaaGreatDoor
open Go.RowKit
set_option linter.unusedVariables false
set_option linter.unusedSimpArgs false
set_option maxHeartbeats 2000000
theorem MmS.keepP {w:World}{l:List Int}{s:Bool}{wr wr':World}{r:Nat}(h:MmS w l s wr)(g:wr.grownBy wr' (some r))(hr:w.heap.size+1<r):MmS w l s wr':=⟨h.1.keepBut g (by omega),h.2.1.keepBut g (by omega),grown_own h.2.2 g (by omega)⟩
theorem MmS.putP {w:World}{l:List Int}{s:Bool}{wr:World}(h:MmS w l s wr)(m:List Int)(t:Bool)(hl:l.length=101)(hm:m.length=101):MmS w m t (putV wr w.heap.size 0 (memC m t))∧wr.grownBy (putV wr w.heap.size 0 (memC m t)) (some w.heap.size):=by
 have:=h.1.putAll (m:=m) (t:=t) hl hm
 exact⟨⟨this.1,h.2.1.keepBut this.2 (by omega),grown_own h.2.2 this.2 (Nat.le_refl _)⟩,this.2⟩
def NsS (w:World)(l:List Int)(s:Bool)(rs:List Int)(wr:World):Prop:=MmS w l s wr∧Blk wr (w.heap.size+2) 3 rs
theorem NsS.new (w:World)(l:List Int)(s:Bool):NsS w l s (zeros 40) (((w.alloc (.cells (memC l s).toArray 53)).alloc (.cells (memC (zeros 101) false).toArray 53)).alloc (.cells (arrI (zeros 40)) 3)):=by
 refine⟨(MmS.new w l s).keep (grown_alloc _ _ none),?_⟩
 have:=Blk.new ((w.alloc (.cells (memC l s).toArray 53)).alloc (.cells (memC (zeros 101) false).toArray 53)) 3 (zeros 40)
 simpa using this
theorem NsS.setM {w:World}{l:List Int}{s:Bool}{rs:List Int}{wr:World}(h:NsS w l s rs wr)(k:Nat)(z:Int)(hk:k<l.length):NsS w (l.set k z) s rs (wr.setCell ⟨w.heap.size,k,none⟩ (.int .i64 z)):=⟨h.1.set k z hk,h.2.keepBut (grown_setCell wr ⟨w.heap.size,k,none⟩ (.int .i64 z)) (by simp)⟩
theorem NsS.setL {w:World}{l:List Int}{s:Bool}{rs:List Int}{wr:World}(h:NsS w l s rs wr)(k:Nat)(z:Int):NsS w l s (rs.set k z) (wr.setCell ⟨w.heap.size+2,k,none⟩ (.int .i64 z)):=⟨h.1.keepP (grown_setCell wr ⟨w.heap.size+2,k,none⟩ (.int .i64 z)) (by simp),h.2.set k z⟩
def NsE (w:World)(m:List Int)(s:Bool)(L:List Int)(e:Ending)(w':World):Prop:=∃v',e=.returned (.tuple #[memV m s,v'])∧Own w.heap.size w' v' L∧w.grownBy w' none
set_option maxRecDepth 100000 in
theorem conNoise_any (l:List Int)(s:Bool)(x:Int)(hl:l.length=101)(w:World):Calls Tryz.prog 174 #[memV l s,.int .i64 x] w (NsE w (l.set 100 (sdN (nth l 100) 40)) s (nzL (nth l 100) x 40)):=by
 have M0:=hide (NsS.new w l s)
 have NZ:=hide (fun sd wr=>gaiNoise_any sd x wr)
 have F:=hide (show ∀v' w',Own w.heap.size w' v' (nzL (nth l 100) x 40)→w.grownBy w' none→NsE w (l.set 100 (sdN (nth l 100) 40)) s (nzL (nth l 100) x 40) (.returned (.tuple #[memV (l.set 100 (sdN (nth l 100) 40)) s,v'])) w' from fun v' w' o q=>⟨v',rfl,o,q⟩)
 have HL:=hide hl
 have ZL:=hide (memC_len (zeros_len 101) false)
 have hz:=zero_mem
 have hmk:=make_zeros 40 (by omega)
 rw[show((40:Nat):Int)=40 from rfl]at hmk
 have S0:=hide (show l.set 100 (sdN (nth l 100) 0)=l from set_self l 100 (by omega))
 clear hl
 generalize NsE w (l.set 100 (sdN (nth l 100) 40)) s (nzL (nth l 100) x 40)=T at *
 generalize nth l 100=sd at *
 unfold memV at hz F ⊢
 go_enter Tryz.func174,Tryz.ntmps174
 go_upto_region 2 with fail
 generalize ((w.alloc (.cells (memC l s).toArray 53)).alloc (.cells (memC (zeros 101) false).toArray 53)).alloc (.cells (arrI (zeros 40)) 3)=W0 at *
 clear hz hmk
 go_wp2_with fail
 go_loopw [11] (fun i wr=>∃(m:Nat) (rs:List Int),i=.int .i64 (m:Int)∧m≤40∧Hid (FillN 40 (nzN sd x) m rs)∧Hid (NsS w (l.set 100 (sdN sd m)) s rs wr)) (fun i _=>40-(intOf i).toNat)
 case atStart=>exact⟨0,zeros 40,rfl,Nat.zero_le _,fillN_start 40 _,by rw[S0.out];exact M0.out⟩
 case round=>
  obtain⟨m,rs,rfl,hm,hF,hM⟩:=hrel
  clear M0 S0
  by_cases hm40:m<40
  ·have i1:(m:Int)<40:=by omega
   have c100:=hM.out.1.1.cell 100 (by rw[List.length_set,HL.out];omega)
   rw[setN _ _ _ (by rw[HL.out];omega),if_pos rfl]at c100
   have f100:=hM.out.1.1.free 100
   have cd:=hM.out.2.cell m (by rw[hF.out.1];exact hm40)
   have fd:=hM.out.2.free m
   have NF:=hide (fillN_step hF.out hm40)
   have N1:=hide (hM.out.setM 100 (sdN sd (m+1)) (by rw[List.length_set,HL.out];omega))
   rw[List.set_set]at N1
   have NM:=hide (N1.out.setL m (nzN sd x m))
   have cd1:=N1.out.2.cell m (by rw[hF.out.1];exact hm40)
   have fd1:=N1.out.2.free m
   have E1:noS (sdN sd m)=sdN sd (m+1):=rfl
   have E2:noX (sdN sd m) x=nzN sd x m:=rfl
   have NN:=hide (NZ.out (sdN sd m))
   rw[E1,E2]at NN
   clear hF hM N1 NZ E1 E2
   generalize hs1:sdN sd (m+1)=s1 at *
   have HS1:=hide hs1
   clear hs1
   generalize sdN sd m=s0 at *
   generalize nzN sd x m=z at *
   generalize nth rs m=q at *
   go_wp2_with fail
   refine(NN.out _).mono ?_
   rintro e w1 ⟨rfl,rfl⟩
   clear NN
   go_wp2_with fail
   go_roundw
   case rel=>exact⟨m+1,_,by go_num,by omega,NF.out,by rw[HS1.out];exact NM.out⟩
   case measure=>first|(simp[intOf];done)|(simp[intOf];omega)
  ·obtain rfl:m=40:=by omega
   rw[show((40:Nat):Int)=40 from rfl]
   have EL:=hide (show rs=nzL sd x 40 from fillN_all hF.out)
   have hlen:rs.length=40:=hF.out.1
   have L5:=hide (show(l.set 100 (sdN sd 40)).length=101 by rw[List.length_set];exact HL.out)
   have M5:=hide hM.out.1
   have OF:=ownP_any (base:=w.heap.size+2) hM.out.2 (Nat.le_refl _) (by omega)
   rw[hlen]at OF
   generalize l.set 100 (sdN sd 40)=m at *
   have A5:=hide (BlkM.all s L5.out)
   have C5:=hide (memC_len L5.out s)
   have ON:=hide (memC_one m s)
   have PB:=hide (M5.out.fin m s L5.out)
   have O6:=hide (OF.keepLt (M5.out.2.1.putAll (m:=m) (t:=s) (zeros_len 101) L5.out).2 (by omega))
   have FF:=hide (F.out _ _ (by rw[←EL.out];exact O6.out.base (by omega)) PB.out.2)
   clear F O6 OF hF hM EL hlen NZ
   go_wp2_with (first|refine wpList_load_v rfl 53 _ rfl w.heap.size 0 102 rfl 53 (memC m s) M5.out.1 _ Tryz.underlying53 rfl size102 (by rw[C5.out];omega) _ A5.out ?_|refine wpList_store_v rfl 53 _ _ rfl (w.heap.size+1) 0 53 (memC (zeros 101) false) (memC m s) rfl rfl M5.out.2.1 (by rw[ZL.out,C5.out];omega) (by rw[C5.out];exact size102) ON.out ?_)
   have hlv:=loadVar_v PB.out.1 _ Tryz.underlying53 rfl (by rw[C5.out];exact size102)
   refine bodyPost_ret (v:=.tuple #[.agg (memC m s).toArray,_]) ?_ rfl FF.out
   simp[results,Tryz.results174,asAddr,Act.put,hlv]
set_option maxRecDepth 100000 in
theorem conSilent_no (l:List Int)(s:Bool)(hl:l.length=101)(hg:goodM l=false)(w:World):Calls Tryz.prog 160 #[memV l s] w (MemE w (siM l) (siS l s) (siL l) (siE l)):=by
 have M0:=hide (MmS.new w l s)
 have GD:=hide (fun wr=>conGood_any l s hl wr)
 rw[hg]at GD
 have F:=hide (show ∀w',w.grownBy w' none→MemE w (siM l) (siS l s) (siL l) (siE l) (.returned (.tuple #[memV (zeros 101) false,.slice none 0 0,.int .i64 2])) w' from fun w' q=>⟨_,by rw[(si_no (s:=s) hg).1,(si_no (s:=s) hg).2.1,(si_no (s:=s) hg).2.2.2],by rw[(si_no (s:=s) hg).2.2.1];exact Own_nil _ _,q⟩)
 have CL:=hide (memC_len hl s)
 have AL:=hide (BlkM.all s hl)
 have ZL:=hide (memC_len (zeros_len 101) false)
 have ZO:=hide (memC_one (zeros 101) false)
 have hz:=zero_mem
 have ZB:=hide (fun wr (h:MmS w l s wr)=>h.fin (zeros 101) false (zeros_len 101))
 clear hg
 generalize MemE w (siM l) (siS l s) (siL l) (siE l)=T at *
 unfold memV at hz F GD ⊢
 go_enter Tryz.func160,Tryz.ntmps160
 go_upto_region 1 with fail
 generalize (w.alloc (.cells (memC l s).toArray 53)).alloc (.cells (memC (zeros 101) false).toArray 53)=W0 at *
 go_wp2_with (refine wpList_load_v rfl 53 _ rfl w.heap.size 0 102 rfl 53 (memC l s) M0.out.1 _ Tryz.underlying53 rfl size102 (by rw[CL.out];omega) _ AL.out ?_)
 refine(GD.out W0).mono ?_
 rintro e W1 ⟨rfl,g1⟩
 have M1:=hide (M0.out.keep g1)
 have PB:=hide (ZB.out W1 M1.out)
 have FF:=hide (F.out _ PB.out.2)
 clear M0 g1 GD ZB F
 go_wp2_with (first|refine wpList_store_v rfl 53 _ _ rfl (w.heap.size+1) 0 53 (memC (zeros 101) false) (memC (zeros 101) false) rfl rfl M1.out.2.1 (by rw[ZL.out];omega) (by rw[ZL.out];exact size102) ZO.out ?_)
 have hlv:=loadVar_v PB.out.1 _ Tryz.underlying53 rfl (by rw[ZL.out];exact size102)
 refine bodyPost_ret (v:=.tuple #[.agg (memC (zeros 101) false).toArray,.slice none 0 0,.int .i64 2]) ?_ rfl FF.out
 simp[results,Tryz.results160,asAddr,Act.put,hlv]
set_option maxRecDepth 100000 in
theorem conSilent_yes (l:List Int)(s:Bool)(hl:l.length=101)(hg:goodM l=true)(w:World):Calls Tryz.prog 160 #[memV l s] w (MemE w (siM l) (siS l s) (siL l) (siE l)):=by
 have M0:=hide (MmS.new w l s)
 have GD:=hide (fun wr=>conGood_any l s hl wr)
 rw[hg]at GD
 have NZ:=hide (fun wr=>conNoise_any l s 8 hl wr)
 have KP:=hide (fun v wr (hv:Ints wr v (nzL (nth l 100) 8 40))=>conKeep_any (prt l 16 80) v (nzL (nth l 100) 8 40) wr (prt_len _ _ _) hv (by rw[nzL_len];omega))
 rw[(kpL_yes (h:=prt l 16 80) (nzL_len (nth l 100) 8 40)).1,(kpL_yes (h:=prt l 16 80) (nzL_len (nth l 100) 8 40)).2]at KP
 have KL:=hide (kpA_len (prt l 16 80) (nzL (nth l 100) 8 40))
 have F:=hide (show ∀v' w',Own w.heap.size w' v' (nzL (nth l 100) 8 40)→w.grownBy w' none→MemE w (siM l) (siS l s) (siL l) (siE l) (.returned (.tuple #[memV (ovr (l.set 100 (sdN (nth l 100) 40)) 16 (kpA (prt l 16 80) (nzL (nth l 100) 8 40))) s,v',.int .i64 0])) w' from fun v' w' o q=>
  ⟨v',by rw[(si_yes (s:=s) hg).1,(si_yes (s:=s) hg).2.1,(si_yes (s:=s) hg).2.2.2];unfold memT siX;rw[set_self l 99 (by omega)],by rw[(si_yes (s:=s) hg).2.2.1];exact o,q⟩)
 have PS:=hide (fun z=>prt_set l 100 z 16 80 (by omega) (.inr (by omega)))
 have HL:=hide hl
 have CL:=hide (memC_len hl s)
 have AL:=hide (BlkM.all s hl)
 have ZL:=hide (memC_len (zeros_len 101) false)
 have hz:=zero_mem
 clear hg hl
 generalize MemE w (siM l) (siS l s) (siL l) (siE l)=T at *
 unfold NsE at NZ
 unfold memV at hz F GD NZ ⊢
 generalize nzL (nth l 100) 8 40=N at *
 generalize sdN (nth l 100) 40=sd at *
 go_enter Tryz.func160,Tryz.ntmps160
 go_upto_region 1 with fail
 generalize (w.alloc (.cells (memC l s).toArray 53)).alloc (.cells (memC (zeros 101) false).toArray 53)=W0 at *
 clear hz
 go_wp2_with (refine wpList_load_v rfl 53 _ rfl w.heap.size 0 102 rfl 53 (memC l s) M0.out.1 _ Tryz.underlying53 rfl size102 (by rw[CL.out];omega) _ AL.out ?_)
 refine(GD.out W0).mono ?_
 rintro e W1 ⟨rfl,g1⟩
 have M1:=hide (M0.out.keep g1)
 have B1:=hide (show w.heap.size≤W1.heap.size from M1.out.2.2.size)
 have BL:=hide (show w.heap.size+1<W1.heap.size from M1.out.2.1.lt)
 clear M0 g1 GD
 have L1:=hide (show(l.set 100 sd).length=101 by rw[List.length_set];exact HL.out)
 have C3:=hide (memC_len L1.out s)
 have ON1:=hide (memC_one (l.set 100 sd) s)
 go_upto_region 3 with fail
 go_wp2_with (first|refine wpList_load_v rfl 53 _ rfl w.heap.size 0 102 rfl 53 (memC l s) M1.out.1 _ Tryz.underlying53 rfl size102 (by rw[CL.out];omega) _ AL.out ?_)
 refine(NZ.out W1).mono ?_
 rintro e W2 ⟨v2,rfl,o2,g2⟩
 have M2:=hide (M1.out.keep g2)
 have M3':=M2.out.putP (l.set 100 sd) s HL.out L1.out
 have M3:=hide M3'.1
 have O3:=hide (o2.keepLt M3'.2 (by have:=BL.out;omega))
 clear o2 g2 M1 NZ M3'
 go_upto_region 4 with(first|refine wpList_store_v rfl 53 _ _ rfl w.heap.size 0 53 (memC l s) (memC (l.set 100 sd) s) rfl rfl M2.out.1 (by rw[CL.out,C3.out];omega) (by rw[C3.out];exact size102) ON1.out ?_)
 (try simp only[Act.put])
 clear M2 ON1
 generalize putV W2 w.heap.size 0 (memC (l.set 100 sd) s)=W3 at *
 have P3:=hide (BlkM.part (l:=l.set 100 sd) s 16 80 (by rw[L1.out];omega))
 rw[PS.out]at P3
 have KK:=hide (KP.out v2 W3 O3.out.ints)
 clear KP PS
 go_wp2_with (first|refine wpList_load_v rfl 51 _ rfl w.heap.size 16 80 rfl 53 (memC (l.set 100 sd) s) M3.out.1 _ Tryz.underlying51 rfl size80c (by rw[C3.out];omega) _ P3.out ?_)
 refine KK.out.mono ?_
 rintro e W4 ⟨rfl,g4⟩
 have M4:=hide (M3.out.keep g4)
 have O4:=hide (O3.out.keep g4)
 clear KK M3 O3 g4 P3
 generalize kpA (prt l 16 80) N=R at *
 have M5:=hide (M4.out.put 16 R (by rw[KL.out,L1.out];omega))
 have O5:=hide (O4.out.keepLt (M4.out.1.put 16 R (by rw[KL.out,L1.out];omega)).2 (by have:=BL.out;omega))
 have I_:=hide (intsV_one R)
 have IL:=hide (show(intsV R).length=80 by rw[intsV_len];exact KL.out)
 clear O4
 go_upto_region 5 with(first|refine wpList_store_v rfl 51 _ _ rfl w.heap.size 16 53 (memC (l.set 100 sd) s) (intsV R) rfl rfl M4.out.1 (by rw[IL.out,C3.out];omega) (by rw[IL.out];exact size80c) I_.out ?_)
 (try simp only[Act.put])
 clear M4 I_ IL C3
 generalize putV W4 w.heap.size 16 (intsV R)=W5 at *
 have L5:=hide (show(ovr (l.set 100 sd) 16 R).length=101 by rw[ovr_len];exact L1.out)
 generalize ovr (l.set 100 sd) 16 R=m at *
 have A5:=hide (BlkM.all s L5.out)
 have C5:=hide (memC_len L5.out s)
 have ON:=hide (memC_one m s)
 have PB:=hide (M5.out.fin m s L5.out)
 have O6:=hide (O5.out.keepLt (M5.out.2.1.putAll (m:=m) (t:=s) (zeros_len 101) L5.out).2 BL.out)
 have FF:=hide (F.out _ _ (O6.out.base B1.out) PB.out.2)
 clear F O5 O6
 go_wp2_with (first|refine wpList_load_v rfl 53 _ rfl w.heap.size 0 102 rfl 53 (memC m s) M5.out.1 _ Tryz.underlying53 rfl size102 (by rw[C5.out];omega) _ A5.out ?_|refine wpList_store_v rfl 53 _ _ rfl (w.heap.size+1) 0 53 (memC (zeros 101) false) (memC m s) rfl rfl M5.out.2.1 (by rw[ZL.out,C5.out];omega) (by rw[C5.out];exact size102) ON.out ?_)
 have hlv:=loadVar_v PB.out.1 _ Tryz.underlying53 rfl (by rw[C5.out];exact size102)
 refine bodyPost_ret (v:=.tuple #[.agg (memC m s).toArray,_,.int .i64 0]) ?_ rfl FF.out
 simp[results,Tryz.results160,asAddr,Act.put,hlv]
theorem conSilent_any (l:List Int)(s:Bool)(hl:l.length=101)(w:World):Calls Tryz.prog 160 #[memV l s] w (MemE w (siM l) (siS l s) (siL l) (siE l)):=by
 rcases hg:goodM l with _|_
 ·exact conSilent_no l s hl hg w
 ·exact conSilent_yes l s hl hg w
end Go.Proofs.YtdejpongekicdaaGreatDoor

/- CodC -/
namespace Go.Proofs.YtdejpongekicdaaGreatDoor
open Go.RowKit
set_option linter.unusedVariables false
set_option linter.unusedSimpArgs false
set_option maxHeartbeats 2000000
theorem growsC_keep {w w':World}(h:Grows w)(g:w.grownBy w' none):Grows w':=fun i hi=>grown_keep g (h i hi)
theorem size8sub:(Tryz.prog.info? 79).map (·.size)=some 8:=by kernel_rfl
theorem size4c:(Tryz.prog.info? 77).map (·.size)=some 4:=by kernel_rfl
def HfS (w:World)(A u l:List Int)(s:Bool)(wr:World):Prop:=BlkM wr w.heap.size l s∧BlkV wr (w.heap.size+1) 95 (intsV A)∧BlkV wr (w.heap.size+1+1) 79 (intsV u)∧BlkM wr (w.heap.size+1+1+1) (zeros 101) false∧w.grownBy wr none
theorem HfS.new (w:World)(A u l:List Int)(s:Bool):HfS w A u l s ((((w.alloc (.cells (memC l s).toArray 53)).alloc (.cells (arrI A) 95)).alloc (.cells (arrI u) 79)).alloc (.cells (memC (zeros 101) false).toArray 53)):=by
 have g1:=grown_alloc (w.alloc (.cells (memC l s).toArray 53)) (.cells (arrI A) 95) none
 have g2:=grown_alloc ((w.alloc (.cells (memC l s).toArray 53)).alloc (.cells (arrI A) 95)) (.cells (arrI u) 79) none
 have g3:=grown_alloc (((w.alloc (.cells (memC l s).toArray 53)).alloc (.cells (arrI A) 95)).alloc (.cells (arrI u) 79)) (.cells (memC (zeros 101) false).toArray 53) none
 refine⟨(((BlkM.new w l s).keep g1).keep g2).keep g3,?_,?_,?_,grown_none (grown_none (grown_none (grown_alloc _ _ none) g1) g2) g3⟩
 ·have:=((BlkV.new (w.alloc (.cells (memC l s).toArray 53)) 95 (intsV A)).keep g2).keep g3
  simpa using this
 ·have:=(BlkV.new ((w.alloc (.cells (memC l s).toArray 53)).alloc (.cells (arrI A) 95)) 79 (intsV u)).keep g3
  simpa using this
 ·have:=BlkM.new (((w.alloc (.cells (memC l s).toArray 53)).alloc (.cells (arrI A) 95)).alloc (.cells (arrI u) 79)) (zeros 101) false
  simpa using this
theorem HfS.keep {w:World}{A u l:List Int}{s:Bool}{wr wr':World}(h:HfS w A u l s wr)(g:wr.grownBy wr' none):HfS w A u l s wr':=⟨h.1.keep g,h.2.1.keep g,h.2.2.1.keep g,h.2.2.2.1.keep g,grown_none h.2.2.2.2 g⟩
theorem HfS.mem {w:World}{A u l m:List Int}{s t:Bool}{wr wr':World}(h:HfS w A u l s wr)(hb:BlkM wr' w.heap.size m t)(g:wr.grownBy wr' (some w.heap.size)):HfS w A u m t wr':=⟨hb,h.2.1.keepBut g (by omega),h.2.2.1.keepBut g (by omega),h.2.2.2.1.keepBut g (by omega),grown_own h.2.2.2.2 g (Nat.le_refl _)⟩
theorem HfS.put {w:World}{A u l:List Int}{s:Bool}{wr:World}(h:HfS w A u l s wr)(o:Nat)(M:List Int)(hl:o+M.length≤l.length):HfS w A u (ovr l o M) s (putV wr w.heap.size o (intsV M))∧wr.grownBy (putV wr w.heap.size o (intsV M)) (some w.heap.size):=by
 have:=h.1.put o M hl
 exact⟨h.mem this.1 this.2,this.2⟩
theorem HfS.set {w:World}{A u l:List Int}{s:Bool}{wr:World}(h:HfS w A u l s wr)(k:Nat)(z:Int)(hk:k<l.length):HfS w A u (l.set k z) s (wr.setCell ⟨w.heap.size,k,none⟩ (.int .i64 z)):=h.mem (h.1.set k z hk) (grown_setCell wr ⟨w.heap.size,k,none⟩ _)
theorem HfS.fin {w:World}{A u l:List Int}{s:Bool}{wr:World}(h:HfS w A u l s wr)(m:List Int)(t:Bool)(hm:m.length=101):BlkM (putV wr (w.heap.size+1+1+1) 0 (memC m t)) (w.heap.size+1+1+1) m t∧w.grownBy (putV wr (w.heap.size+1+1+1) 0 (memC m t)) none∧wr.grownBy (putV wr (w.heap.size+1+1+1) 0 (memC m t)) (some (w.heap.size+1+1+1)):=by
 have:=h.2.2.2.1.putAll (m:=m) (t:=t) (zeros_len 101) hm
 exact⟨this.1,grown_own h.2.2.2.2 this.2 (by omega),this.2⟩
theorem HfS.sub {w:World}{A u l:List Int}{s:Bool}{wr:World}(h:HfS w A u l s wr)(i:Nat)(hi:i<u.length):wr.cell? ⟨w.heap.size+1+1,i,none⟩=some (.int .i64 (nth u i)):=(h.2.2.1.cell i).trans (ints_getC u i hi)
theorem fresh_memC (w:World)(m:List Int)(s:Bool)(hm:m.length=101):BlkM (w.alloc (.cells (memC (zeros 101) false).toArray 53)) w.heap.size (zeros 101) false∧BlkM (putV (w.alloc (.cells (memC (zeros 101) false).toArray 53)) w.heap.size 0 (memC m s)) w.heap.size m s∧w.grownBy (putV (w.alloc (.cells (memC (zeros 101) false).toArray 53)) w.heap.size 0 (memC m s)) none:=by
 have a:=BlkM.new w (zeros 101) false
 have b:=a.putAll (m:=m) (t:=s) (zeros_len 101) hm
 exact⟨a,b.1,grown_own (grown_alloc _ _ none) b.2 (Nat.le_refl _)⟩
set_option maxRecDepth 100000 in
theorem codHalf_sil (A l u:List Int)(s:Bool)(k:Int)(hA:A.length=9)(hl:l.length=101)(hg:goodM l=true)(hk:k=2)(w:World) :
  Calls Tryz.prog 69 #[memV l s,.agg (arrI A),.int .i64 k,.agg (arrI u)] w (MmL w (hfM A true l u) s (hfL A true l u)):=by
 have H0:=hide (HfS.new w A u l s)
 have SI:=hide (fun wr=>conSilent_any l s hl wr)
 rw[(si_yes (s:=s) hg).2.1,(si_yes (s:=s) hg).2.2.2]at SI
 have SL:=hide (show(siM l).length=101 from by have:=plP_len true hl u;rwa [plP_t]at this)
 have XL:=hide (show(siL l).length=40 from by rw[(si_yes (s:=true) hg).2.2.1,siX_len])
 have SP:=hide (fun v wr (h:Ints wr v (siL l)) (sh:Shp v (siL l))=>codSpoken_any A (siM l) (siL l) s hA SL.out v wr h sh (by rw[XL.out];omega))
 have F:=hide (show ∀v' w',Own w.heap.size w' v' (souL A (siM l) (siL l))→w.grownBy w' none→MmL w (hfM A true l u) s (hfL A true l u) (.returned (.tuple #[memV (souM A (siM l) (siL l)) s,v'])) w' from fun v' w' o q=>⟨v',by unfold hfM;rw[plP_t,plX_t],by unfold hfL;rw[plP_t,plX_t];exact o,q⟩)
 have ML:=hide (show(souM A (siM l) (siL l)).length=101 by rw[souM_len];exact SL.out)
 have HA:=hide hA
 have CL:=hide (memC_len hl s)
 have AL:=hide (BlkM.all s hl)
 have A8:=hide (show((intsV A).drop 0).take 9=intsV A from by rw[List.drop_zero,List.take_of_length_le (by rw[intsV_len,hA];omega)])
 have ZL:=hide (memC_len (zeros_len 101) false)
 have hz:=zero_mem
 have hk2:(k==2)=true:=beq_iff_eq.2 hk
 clear hA hl hg hk
 generalize MmL w (hfM A true l u) s (hfL A true l u)=T at *
 generalize souM A (siM l) (siL l)=m2 at *
 generalize souL A (siM l) (siL l)=L2 at *
 generalize siM l=m1 at *
 generalize siL l=X at *
 unfold MmL at SP
 unfold MemE at SI
 unfold memV at F hz SI SP ⊢
 go_enter Tryz.func69,Tryz.ntmps69
 go_upto_region 1 with fail
 generalize (((w.alloc (.cells (memC l s).toArray 53)).alloc (.cells (arrI A) 95)).alloc (.cells (arrI u) 79)).alloc (.cells (memC (zeros 101) false).toArray 53)=W0 at *
 have N0:=hide (show w.heap.size+1+1+1+1≤W0.heap.size from H0.out.2.2.2.1.lt)
 go_wp2_with (first|refine wpList_load_v rfl 53 _ rfl w.heap.size 0 102 rfl 53 (memC l s) H0.out.1 _ Tryz.underlying53 rfl size102 (by rw[CL.out];omega) _ AL.out ?_)
 refine(SI.out W0).mono ?_
 rintro e W1 ⟨v1,rfl,o1,g1⟩
 have FB:=hide (fresh_memC W1 m1 s SL.out)
 have H2:=hide ((H0.out.keep g1).keep FB.out.2.2)
 have O2:=hide ((o1.base N0.out).keep FB.out.2.2)
 have N1:=hide (Nat.le_trans N0.out g1.size)
 have C1:=hide (memC_len SL.out s)
 have ON:=hide (memC_one m1 s)
 clear H0 SI g1 o1 AL CL
 go_upto_region 3 with(first|refine wpList_store_v rfl 53 _ _ rfl W1.heap.size 0 53 (memC (zeros 101) false) (memC m1 s) rfl rfl FB.out.1 (by rw[ZL.out,C1.out];omega) (by rw[C1.out];exact size102) ON.out ?_)
 (try simp only[Act.put])
 have V2:=hide FB.out.2.1
 clear FB hz ON
 generalize putV (W1.alloc (.cells (memC (zeros 101) false).toArray 53)) W1.heap.size 0 (memC m1 s)=W2 at *
 generalize W1.heap.size=bm at *
 have A1:=hide (BlkM.all s SL.out)
 have SP2:=hide (SP.out v1 W2 O2.out.ints O2.out.shp)
 clear SP O2
 go_wp2_with (first|refine wpList_load_v rfl 53 _ rfl bm 0 102 rfl 53 (memC m1 s) V2.out _ Tryz.underlying53 rfl size102 (by rw[C1.out];omega) _ A1.out ?_|refine wpList_load_v rfl 95 _ rfl (w.heap.size+1) 0 9 rfl 95 (intsV A) H2.out.2.1 _ Tryz.underlying95 rfl size9' (by rw[intsV_len,HA.out];omega) _ A8.out ?_)
 refine SP2.out.mono ?_
 rintro e W3 ⟨v3,rfl,o3,g3⟩
 have H3:=hide (H2.out.keep g3)
 have PB:=hide (H3.out.fin m2 s ML.out)
 have O3:=hide ((o3.base (b':=w.heap.size+1+1+1+1) (show w.heap.size+1+1+1+1≤W2.heap.size from H2.out.2.2.2.1.lt)).keepLt PB.out.2.2 (by omega))
 have FF:=hide (F.out _ _ (O3.out.base (b':=w.heap.size) (by omega)) PB.out.2.1)
 have C3:=hide (memC_len ML.out s)
 have ON:=hide (memC_one m2 s)
 clear F O3 o3 g3 SP2 V2 H2
 go_wp2_with (first|refine wpList_store_v rfl 53 _ _ rfl (w.heap.size+1+1+1) 0 53 (memC (zeros 101) false) (memC m2 s) rfl rfl H3.out.2.2.2.1 (by rw[ZL.out,C3.out];omega) (by rw[C3.out];exact size102) ON.out ?_)
 have hlv:=loadVar_v PB.out.1 _ Tryz.underlying53 rfl (by rw[C3.out];exact size102)
 refine bodyPost_ret (v:=.tuple #[.agg (memC m2 s).toArray,_]) ?_ rfl FF.out
 simp[results,Tryz.results69,asAddr,Act.put,hlv]
set_option maxRecDepth 100000 in
theorem codHalf_voice (A l u:List Int)(s:Bool)(k:Int)(hA:A.length=9)(hl:l.length=101)(hu:GudS u)(hk:¬k=2)(w:World)(ht:TabA w 2 gains 8)(hG:Grows w) :
  Calls Tryz.prog 69 #[memV l s,.agg (arrI A),.int .i64 k,.agg (arrI u)] w (MmL w (hfM A false l u) s (hfL A false l u)):=by
 have H0:=hide (HfS.new w A u l s)
 have GA:=hide (fun wr (g:w.grownBy wr none)=>pitGain_any (nth u 1) wr (TabA_keep ht g))
 rw[show gaV (nth u 1)=spG u from rfl]at GA
 have GL:=hide (fun wr (g:w.grownBy wr none)=>gaiLevel_any (nth u 7) wr (growsC_keep hG g))
 rw[show glV (nth u 7)=spZ u from rfl]at GL
 have BU:=hide (fun wr=>pulBuild_any (prt u 2 4) (prt_len _ _ _) (nth u 6) (spZ u) wr)
 rw[show blL (prt u 2 4) (nth u 6) (spZ u)=spB u from rfl]at BU
 have MX:=hide (fun v wr (h:Ints wr v (spB u))=>conMix_any (prt l 16 80) (20+nth u 0) (spG u) v (spB u) wr (prt_len _ _ _) h (by rw[spB_len hu];omega))
 rw[show mxL (prt l 16 80) (20+nth u 0) (spG u) (spB u)=spX l u from rfl]at MX
 have XL:=hide (spX_len hu l)
 have KP:=hide (fun v wr (h:Ints wr v (spX l u))=>conKeep_any (prt l 16 80) v (spX l u) wr (prt_len _ _ _) h (by rw[XL.out];omega))
 have KL:=hide (kpL_len (prt l 16 80) (spX l u))
 have WY:=hide (spM_way l u hl)
 have SL:=hide (show(spM l u).length=101 by rw[spM_len];exact hl)
 have SP:=hide (fun v wr (h:Ints wr v (spX l u)) (sh:Shp v (spX l u))=>codSpoken_any A (spM l u) (spX l u) s hA SL.out v wr h sh (by rw[XL.out];omega))
 have F:=hide (show ∀v' w',Own w.heap.size w' v' (souL A (spM l u) (spX l u))→w.grownBy w' none→MmL w (hfM A false l u) s (hfL A false l u) (.returned (.tuple #[memV (souM A (spM l u) (spX l u)) s,v'])) w' from fun v' w' o q=>⟨v',by unfold hfM;rw[plP_f,plX_f],by unfold hfL;rw[plP_f,plX_f];exact o,q⟩)
 have ML:=hide (show(souM A (spM l u) (spX l u)).length=101 by rw[souM_len];exact SL.out)
 have HA:=hide hA
 have HU:=hide hu.len
 have lag:=hu.lag
 have A8:=hide (show((intsV A).drop 0).take 9=intsV A from by rw[List.drop_zero,List.take_of_length_le (by rw[intsV_len,hA];omega)])
 have U4:=hide (ints_partC u 2 4 (by rw[hu.len];omega))
 have ZL:=hide (memC_len (zeros_len 101) false)
 have hz:=zero_mem
 have hk2:(k==2)=false:=beq_eq_false_iff_ne.2 hk
 have L0:=hide hl
 obtain⟨l1,hl1⟩:∃l1,l.set 98 (20+nth u 0)=l1:=⟨_,rfl⟩
 have L1:=hide (show l1.length=101 by rw[←hl1,List.length_set];exact hl)
 obtain⟨l2,hl2⟩:∃l2,l1.set 97 (spG u)=l2:=⟨_,rfl⟩
 have L2:=hide (show l2.length=101 by rw[←hl2,List.length_set];exact L1.out)
 obtain⟨l3,hl3⟩:∃l3,l2.set 96 (spZ u)=l3:=⟨_,rfl⟩
 have L3:=hide (show l3.length=101 by rw[←hl3,List.length_set];exact L2.out)
 have e96:=hide (show nth l3 96=spZ u by rw[←hl3,setN _ _ _ (by rw[L2.out];omega),if_pos rfl])
 have e97:=hide (show nth l3 97=spG u by rw[←hl3,setN _ _ _ (by rw[L2.out];omega),if_neg (by omega),←hl2,setN _ _ _ (by rw[L1.out];omega),if_pos rfl])
 have e98:=hide (show nth l3 98=20+nth u 0 by rw[←hl3,setN _ _ _ (by rw[L2.out];omega),if_neg (by omega),←hl2,setN _ _ _ (by rw[L1.out];omega),if_neg (by omega),←hl1,setN _ _ _ (by omega),if_pos rfl])
 have e16:=hide (show prt l3 16 80=prt l 16 80 by rw[←hl3,prt_set _ _ _ _ _ (by rw[L2.out];omega) (.inr (by omega)),←hl2,prt_set _ _ _ _ _ (by rw[L1.out];omega) (.inr (by omega)),←hl1,prt_set _ _ _ _ _ (by omega) (.inr (by omega))])
 rw[hl1,hl2,hl3]at WY
 have HL1:=hide hl1
 have HL2:=hide hl2
 have HL3:=hide hl3
 clear hA hl hk hu ht hG hl1 hl2 hl3
 generalize MmL w (hfM A false l u) s (hfL A false l u)=T at *
 generalize souM A (spM l u) (spX l u)=m2 at *
 generalize souL A (spM l u) (spX l u)=Lx at *
 generalize kpE (spX l u)=ke at *
 generalize kpL (prt l 16 80) (spX l u)=KK at *
 generalize spM l u=m1 at *
 generalize spX l u=X at *
 generalize mxE (20+nth u 0) (spG u) (spB u)=me at *
 generalize blE (prt u 2 4) (nth u 6) (spZ u)=be at *
 generalize spB u=B at *
 generalize gaE (nth u 1)=ge at *
 generalize glE (nth u 7)=le at *
 generalize spG u=sg at *
 generalize spZ u=sz at *
 unfold MmL at SP
 unfold memV at F hz SP ⊢
 go_enter Tryz.func69,Tryz.ntmps69
 go_upto_region 1 with fail
 generalize (((w.alloc (.cells (memC l s).toArray 53)).alloc (.cells (arrI A) 95)).alloc (.cells (arrI u) 79)).alloc (.cells (memC (zeros 101) false).toArray 53)=W0 at *
 clear hz
 have cu:=H0.out.sub 0 (by rw[HU.out];omega)
 have cm:=H0.out.1.cell 98 (by rw[L0.out];omega)
 have fm:=H0.out.1.free 98
 have H1:=hide (show HfS w A u l1 s (W0.setCell ⟨w.heap.size,98,none⟩ (.int .i64 (20+nth u 0)))from by rw[←HL1.out];exact H0.out.set 98 _ (by rw[L0.out];omega))
 generalize nth u 0=lg at *
 go_upto_region 5 with fail
 clear cu cm fm H0
 generalize W0.setCell ⟨w.heap.size,98,none⟩ (.int .i64 (20+lg))=W1 at *
 have cu:=H1.out.sub 1 (by rw[HU.out];omega)
 have cm:=H1.out.1.cell 97 (by rw[L1.out];omega)
 have fm:=H1.out.1.free 97
 have H2:=hide (show HfS w A u l2 s (W1.setCell ⟨w.heap.size,97,none⟩ (.int .i64 sg))from by rw[←HL2.out];exact H1.out.set 97 _ (by rw[L1.out];omega))
 have GA1:=hide (GA.out W1 H1.out.2.2.2.2)
 clear GA
 generalize nth u 1=u1 at *
 go_wp2_with fail
 refine GA1.out.mono ?_
 rintro e w2 ⟨rfl,rfl⟩
 clear GA1
 go_upto_region 6 with fail
 clear cu cm fm H1
 generalize w2.setCell ⟨w.heap.size,97,none⟩ (.int .i64 sg)=W2 at *
 have cu:=H2.out.sub 7 (by rw[HU.out];omega)
 have cm:=H2.out.1.cell 96 (by rw[L2.out];omega)
 have fm:=H2.out.1.free 96
 have H3:=hide (show HfS w A u l3 s (W2.setCell ⟨w.heap.size,96,none⟩ (.int .i64 sz))from by rw[←HL3.out];exact H2.out.set 96 _ (by rw[L2.out];omega))
 have GL1:=hide (GL.out W2 H2.out.2.2.2.2)
 clear GL
 generalize nth u 7=u7 at *
 go_wp2_with fail
 refine GL1.out.mono ?_
 rintro e w3 ⟨rfl,rfl⟩
 clear GL1
 go_upto_region 7 with fail
 clear cu cm fm H2
 generalize w3.setCell ⟨w.heap.size,96,none⟩ (.int .i64 sz)=W3 at *
 have cu:=H3.out.sub 6 (by rw[HU.out];omega)
 have cm:=H3.out.1.cell 96 (by rw[L3.out];omega)
 rw[e96.out]at cm
 have BU1:=hide (BU.out W3)
 clear BU
 have N3:=hide (show w.heap.size+1+1+1+1≤W3.heap.size from H3.out.2.2.2.1.lt)
 generalize nth u 6=u6 at *
 go_wp2_with (first|refine wpList_load_v rfl 77 _ rfl (w.heap.size+1+1) 2 4 rfl 79 (intsV u) H3.out.2.2.1 _ Tryz.underlying77 rfl size4c (by rw[intsV_len,HU.out];omega) _ U4.out ?_)
 refine BU1.out.mono ?_
 rintro e W4 ⟨v4,rfl,o4,g4⟩
 have H4:=hide (H3.out.keep g4)
 have O4:=hide (o4.base N3.out)
 clear H3 o4 g4 BU1 cu cm
 go_upto_region 8 with fail
 have c98:=H4.out.1.cell 98 (by rw[L3.out];omega)
 rw[e98.out]at c98
 have c97:=H4.out.1.cell 97 (by rw[L3.out];omega)
 rw[e97.out]at c97
 have CE:=hide (memC_len L3.out s)
 have PE:=hide (BlkM.part (l:=l3) s 16 80 (by rw[L3.out];omega))
 rw[e16.out]at PE
 have MX1:=hide (MX.out v4 W4 O4.out.ints)
 clear MX
 go_wp2_with (first|refine wpList_load_v rfl 51 _ rfl w.heap.size 16 80 rfl 53 (memC l3 s) H4.out.1 _ Tryz.underlying51 rfl size80c (by rw[CE.out];omega) _ PE.out ?_)
 refine MX1.out.mono ?_
 rintro e W5 ⟨v5,rfl,o5,g5⟩
 have H5:=hide (H4.out.keep g5)
 have O5:=hide (o5.base (b':=w.heap.size+1+1+1+1) (show w.heap.size+1+1+1+1≤W4.heap.size from H4.out.2.2.2.1.lt))
 clear H4 O4 o5 g5 MX1 c98 c97
 go_upto_region 9 with fail
 have KP1:=hide (KP.out v5 W5 O5.out.ints)
 clear KP
 go_wp2_with (first|refine wpList_load_v rfl 51 _ rfl w.heap.size 16 80 rfl 53 (memC l3 s) H5.out.1 _ Tryz.underlying51 rfl size80c (by rw[CE.out];omega) _ PE.out ?_)
 refine KP1.out.mono ?_
 rintro e W6 ⟨rfl,g6⟩
 have H6:=hide (H5.out.keep g6)
 have O6:=hide (O5.out.keep g6)
 have PU:=H6.out.put 16 KK (by rw[KL.out,L3.out];omega)
 have H7:=hide PU.1
 have O7:=hide (O6.out.keepLt PU.2 (by omega))
 rw[WY.out]at H7
 have I_:=hide (intsV_one KK)
 have IL:=hide (show(intsV KK).length=80 by rw[intsV_len];exact KL.out)
 clear H5 O5 g6 KP1 PU O6 PE
 go_upto_region 10 with(first|refine wpList_store_v rfl 51 _ _ rfl w.heap.size 16 53 (memC l3 s) (intsV KK) rfl rfl H6.out.1 (by rw[IL.out,CE.out];omega) (by rw[IL.out];exact size80c) I_.out ?_)
 (try simp only[Act.put])
 clear H6 I_ IL
 generalize putV W6 w.heap.size 16 (intsV KK)=W7 at *
 have A1:=hide (BlkM.all s SL.out)
 have C1:=hide (memC_len SL.out s)
 have SP2:=hide (SP.out v5 W7 O7.out.ints O7.out.shp)
 clear SP O7
 go_wp2_with (first|refine wpList_load_v rfl 53 _ rfl w.heap.size 0 102 rfl 53 (memC m1 s) H7.out.1 _ Tryz.underlying53 rfl size102 (by rw[C1.out];omega) _ A1.out ?_|refine wpList_load_v rfl 95 _ rfl (w.heap.size+1) 0 9 rfl 95 (intsV A) H7.out.2.1 _ Tryz.underlying95 rfl size9' (by rw[intsV_len,HA.out];omega) _ A8.out ?_)
 refine SP2.out.mono ?_
 rintro e W8 ⟨v8,rfl,o8,g8⟩
 have H8:=hide (H7.out.keep g8)
 have PB:=hide (H8.out.fin m2 s ML.out)
 have O8:=hide ((o8.base (b':=w.heap.size+1+1+1+1) (show w.heap.size+1+1+1+1≤W7.heap.size from H7.out.2.2.2.1.lt)).keepLt PB.out.2.2 (by omega))
 have FF:=hide (F.out _ _ (O8.out.base (b':=w.heap.size) (by omega)) PB.out.2.1)
 have C3:=hide (memC_len ML.out s)
 have ON:=hide (memC_one m2 s)
 clear F O8 o8 g8 SP2 H7
 go_wp2_with (first|refine wpList_store_v rfl 53 _ _ rfl (w.heap.size+1+1+1) 0 53 (memC (zeros 101) false) (memC m2 s) rfl rfl H8.out.2.2.2.1 (by rw[ZL.out,C3.out];omega) (by rw[C3.out];exact size102) ON.out ?_)
 have hlv:=loadVar_v PB.out.1 _ Tryz.underlying53 rfl (by rw[C3.out];exact size102)
 refine bodyPost_ret (v:=.tuple #[.agg (memC m2 s).toArray,_]) ?_ rfl FF.out
 simp[results,Tryz.results69,asAddr,Act.put,hlv]
theorem codHalf_any (A l u:List Int)(s:Bool)(k:Int)(hA:A.length=9)(hl:l.length=101)(hg:goodM l=true)(hu:GudS u)(w:World)(ht:TabA w 2 gains 8)(hG:Grows w) :
  Calls Tryz.prog 69 #[memV l s,.agg (arrI A),.int .i64 k,.agg (arrI u)] w (MmL w (hfM A (decide (k=2)) l u) s (hfL A (decide (k=2)) l u)):=by
 by_cases hk:k=2
 ·rw[decide_eq_true hk];exact codHalf_sil A l u s k hA hl hg hk w
 ·rw[decide_eq_false hk];exact codHalf_voice A l u s k hA hl hu hk w ht hG
end Go.Proofs.YtdejpongekicdaaGreatDoor

/- CodD -/
namespace Go.Proofs.YtdejpongekicdaaGreatDoor
open Go.RowKit
set_option linter.unusedVariables false
set_option linter.unusedSimpArgs false
set_option maxHeartbeats 4000000
theorem make_roomD (n:Nat)(h1:n≤35184372088832)(u:World):(Instr.makeSlice 26 (.int .i64 0) (.int .i64 n)).run Tryz.prog u=.ok (.slice (some ⟨u.heap.size,0,none⟩) 0 n) (u.alloc (.cells (arrI (zeros n)) 3)):=by
 obtain⟨i0,hi,hz0,hz1,hz2⟩:=info_parts infoI64
 have h:=run_make (P:=Tryz.prog) u 26 3 i0 (.int .i64 0) Tryz.underlying26 hi hz0 .i64 .i64 0 n (Int.le_refl _) (by omega) (by rw[hz2];omega) (by omega)
 have m:=made_arrI (n:=n)
 rw[show zeros n=List.replicate n 0 by unfold zeros;rfl,←m]
 simpa [hz1,Value.cells] using h
theorem own_roomD {w:World}{b base n:Nat}(h:Blk w b 3 (zeros n))(hb:base≤b)(hl:n≤35184372088832):Own base w (.slice (some ⟨b,0,none⟩) 0 n) []:=
 ⟨by simp,.inr ⟨b,n,arrI (zeros n),rfl,hb,h,Nat.zero_le _,by unfold maxLen;omega,by simp[arrI,zeros_len],by simp⟩⟩
theorem size9x:(Tryz.prog.info? 95).map (·.size)=some 9:=by kernel_rfl
theorem index_prd (L:List Int)(hL:L.length=18)(k:Nat)(hk:k<2)(w:World):Sem.run Tryz.prog (Instr.index 113 (.agg (arrI L)) (.int .i64 k)) w=.ok (.agg (arrI (prt L (9*k) 9))) w:=by
 have hs:=size9x
 have hb:(0:Int)≤k∧(k:Int)<2:=by omega
 have he:(arrI L).extract (k*9) (k*9+9)=arrI (prt L (9*k) 9):=by
  apply Array.toList_inj.1
  rw[Array.toList_extract]
  have:=ints_partC L (9*k) 9 (by omega)
  rw[show(arrI L).toList=intsV L from rfl,show(arrI (prt L (9*k) 9)).toList=intsV (prt L (9*k) 9)from rfl,←this]
  rw[List.extract_eq_take_drop,Nat.mul_comm k 9,Nat.add_sub_cancel_left]
 cases hq:Tryz.prog.info? 95 with
 | none=>simp[hq]at hs
 | some i=>
  have hi:i.size=9:=by simpa [hq] using hs
  simp[Instr.index,run_underlying Tryz.underlying113,run_underlying Tryz.underlying95,asIntOf,hb,go_sem,sizeOf,typeInfo,hq,hi,part,isAgg,he]
  intro h
  omega
def CPy (f:Nat)(w:World):Prop:=∀(l:List Int) (s:Bool),l.length=101→goodM l=true→∀(p:List Int),p.length=25→gudP p=true→∀wr,w.grownBy wr none→Calls Tryz.prog f #[memV l s,.agg (arrI p)] wr (MmL wr (plyM l p) (plyS p) (plyL l p))
set_option maxRecDepth 100000 in
theorem codPlayed_any (w:World)(hW:Wide w)(hT:TabA w 2 gains 8)(hG:Grows w)(l:List Int)(s:Bool)(hl:l.length=101)(hg:goodM l=true)(p:List Int)(hp:p.length=25)(gp:gudP p=true) :
  Calls Tryz.prog 37 #[memV l s,.agg (arrI p)] w (MmL w (plyM l p) (plyS p) (plyL l p)):=by
 have M0:=hide (PlQ.new w l s p)
 obtain⟨kd,hkd⟩:∃kd,nth p 0=kd:=⟨_,rfl⟩
 obtain⟨l0,hl0⟩:∃l0,plF l p=l0:=⟨_,rfl⟩
 obtain⟨f1,f2⟩:=plF_good (p:=p) hl hg
 rw[hl0]at f1 f2
 obtain⟨now,hnow⟩:∃now,vlL p=now:=⟨_,rfl⟩
 have nl:now.length=8:=by rw[←hnow];exact vlL_len p
 have ns:steadyB now=true:=by rw[←hnow];exact vlL_steady p gp
 obtain⟨sil,hsil⟩:∃sil,plyS p=sil:=⟨_,rfl⟩
 have es:decide (kd=2)=sil:=by rw[←hsil,←hkd];rfl
 have AH:=hide (fun wr=>codAhead_any l s kd hl wr)
 rw[show(if kd=1 then freL else l)=l0 from by rw[←hl0,←hkd];rfl]at AH
 obtain⟨s0,hs0⟩:∃s0:Bool,(if kd=1 then false else s)=s0:=⟨_,rfl⟩
 rw[hs0]at AH
 have VA:=hide (fun wr (g:w.grownBy wr none)=>Values_any (prt p 1 8) (prt_len _ _ _) wr (Wide_keep hW g))
 rw[(vals_eq gp).1,(vals_eq gp).2,hnow]at VA
 have PR:=hide (fun wr=>codPredictors_any (prt l0 0 8) now (prt_len _ _ _) nl (reflM_steady f2) ns wr)
 have IX':=hide (fun k (hk:k<2) u=>index_prd (prL (prt l0 0 8) now 2) (prL_len _ _ 2) k hk u)
 have IE:=hide (fun k (hk:k<2)=>prL_part (prt l0 0 8) now k hk)
 have LL:=hide (fun k=>plM_len sil now p f1 k)
 have OL:=hide (fun k (hk:k≤2)=>(plO_right sil f1 f2 nl ns gp k hk).1)
 have AL':=hide (fun k=>prdP_len (prt l0 0 8) now k)
 have SP:=hide (show ∀(k:Nat),k<2→∀wr,w.grownBy wr none→Calls Tryz.prog 69 #[memV (plM sil now l0 p k) s0,.agg (arrI (prdP (prt l0 0 8) now k)),.int .i64 kd,.agg (arrI (subL p k))] wr (MmL wr (plM sil now l0 p (k+1)) s0 (hfL (prdP (prt l0 0 8) now k) sil (plM sil now l0 p k) (subL p k)))from fun k hk wr q=>by
  have c:=codHalf_any (prdP (prt l0 0 8) now k) (plM sil now l0 p k) (subL p k) s0 kd (AL'.out k) (LL.out k) (plM_good sil f1 f2 nl ns gp k (by omega)) (subL_good p gp k hk) wr (TabA_keep hT q) (growsC_keep hG q)
  rw[es,plM_half sil f1 f2 nl ns gp k hk]at c
  exact c)
 have SN:=hide (fun(k:Nat) (hk:k<2)=>hfL_le (prdP (prt l0 0 8) now k) sil (plM_good sil f1 f2 nl ns gp k (by omega)) (subL_good p gp k hk))
 have S2:=hide (fun(k:Nat) (hk:k<2)=>plO_half sil f1 f2 nl ns gp k hk)
 have E0:=hide (show plM sil now l0 p 0=l0 from rfl)
 have E1:=hide (show plO sil now l0 p 0=[]from rfl)
 have F:=hide (show ∀v' w',Own w.heap.size w' v' (plO sil now l0 p 2)→w.grownBy w' none→MmL w (plyM l p) (plyS p) (plyL l p) (.returned (.tuple #[memV ((ovr (plM sil now l0 p 2) 0 now).set 99 0) sil,v'])) w' from fun v' w' o q=>
  ⟨v',by unfold plyM;rw[hsil,hnow,hl0],by unfold plyL;rw[hsil,hnow,hl0];exact o,q⟩)
 have NL:=hide nl
 have HP:=hide hp
 have HL:=hide hl
 have HL0:=hide f1
 have CL:=hide (memC_len hl s)
 have C0:=hide (memC_len f1 s0)
 have AL0:=hide (BlkM.all s hl)
 have PS:=hide (fun k (hk:k<2)=>ints_partC p (9+8*k) 8 (by omega))
 have PV:=hide (ints_partC p 1 8 (by omega))
 have P0:=hide (BlkM.part (l:=l0) s0 0 8 (by omega))
 have ZL:=hide (memC_len (zeros_len 101) false)
 have hz:=zero_mem
 have hmk:=make_roomD 80 (by omega)
 rw[show((80:Nat):Int)=80 from rfl]at hmk
 have hk2:(kd==2)=sil:=by
  rw[←es]
  by_cases e:kd=2
  ·rw[decide_eq_true e];exact beq_iff_eq.2 e
  ·rw[decide_eq_false e];exact beq_eq_false_iff_ne.2 e
 have KD:=hide hkd
 clear hg hl gp hp f1 f2 nl ns hnow hsil hkd hl0 hs0 es hW hT hG
 generalize MmL w (plyM l p) (plyS p) (plyL l p)=T at *
 generalize plM sil now l0 p=LM at *
 generalize plO sil now l0 p=LO at *
 generalize prL (prt l0 0 8) now 2=PRL at *
 unfold AnsC at AH PR
 unfold memV at hz F SP AH ⊢
 go_enter Tryz.func37,Tryz.ntmps37
 go_upto_region 1 with fail
 generalize ((w.alloc (.cells (memC l s).toArray 53)).alloc (.cells (arrI p) 82)).alloc (.cells (memC (zeros 101) false).toArray 53)=W0 at *
 clear hz
 have cp:=M0.out.num 0 (by rw[HP.out];omega)
 rw[KD.out]at cp
 go_wp2_with (first|refine wpList_load_v rfl 53 _ rfl w.heap.size 0 102 rfl 53 (memC l s) M0.out.1 _ Tryz.underlying53 rfl size102 (by rw[CL.out];omega) _ AL0.out ?_)
 refine(AH.out W0).mono ?_
 rintro e W1 ⟨rfl,g1⟩
 have M1:=hide (M0.out.keep g1)
 have MA:=M1.out.all (m:=l0) (t:=s0) HL.out HL0.out
 have M2:=hide MA.1
 have I0:=hide (memC_one l0 s0)
 clear MA M0 g1 AH cp AL0
 go_upto_region 2 with(first|refine wpList_store_v rfl 53 _ _ rfl w.heap.size 0 53 (memC l s) (memC l0 s0) rfl rfl M1.out.1 (by rw[CL.out,C0.out];omega) (by rw[C0.out];exact size102) I0.out ?_)
 (try simp only[Act.put])
 clear M1 I0 CL
 generalize putV W1 w.heap.size 0 (memC l0 s0)=W2 at *
 go_wp2_with (first|refine wpList_load_v rfl 50 _ rfl (w.heap.size+1) 1 8 rfl 82 (intsV p) M2.out.2.1 _ Tryz.underlying50 rfl size8 (by rw[intsV_len,HP.out];omega) _ PV.out ?_)
 refine(VA.out _ M2.out.2.2.2).mono ?_
 rintro e W3 ⟨rfl,g3⟩
 obtain⟨b1,b2,b3⟩:=fresh_arr W3 50 8 now NL.out
 have B1:=hide b1
 have B2:=hide b2
 have M3:=hide ((M2.out.keep g3).keep b3)
 have NB:=hide (show w.heap.size+1+1+1≤W3.heap.size from(M2.out.keep g3).2.2.1.lt)
 rw[z8']at B1 B2 M3
 clear g3 VA b1 b2 b3 M2 PV
 go_upto_region 3 with(first|refine wpList_store_arr rfl 50 _ _ rfl _ (zeros 8) now rfl rfl B1.out (by rw[NL.out,zeros_len]) (by rw[zeros_len];exact size8) ?_)
 (try simp only[Act.put])
 clear B1
 generalize putArr _ W3.heap.size now=W4 at *
 generalize W3.heap.size=ba at *
 have N4:=hide (show ba+1≤W4.heap.size from B2.out.lt)
 have OZ:=hide (own_roomD (base:=ba+1) (n:=80) (Blk.new W4 3 (zeros 80)) N4.out (by omega))
 have GZ:=grown_alloc W4 (.cells (arrI (zeros 80)) 3) none
 have M5:=hide (M3.out.keep GZ)
 have B5:=hide (B2.out.keep GZ)
 have N5:=hide (Nat.le_trans N4.out GZ.size)
 clear GZ M3 B2 N4
 go_upto_region 4 with fail
 clear hmk
 generalize W4.alloc (.cells (arrI (zeros 80)) 3)=W5 at *
 generalize W4.heap.size=bo at *
 have PR1:=hide (PR.out W5)
 clear PR
 go_wp2_with (first|refine wpList_load_v rfl 50 _ rfl w.heap.size 0 8 rfl 53 (memC l0 s0) M5.out.1 _ Tryz.underlying50 rfl size8 (by rw[C0.out];omega) _ P0.out ?_|refine wpList_load_arr rfl 50 _ rfl _ rfl _ B5.out _ Tryz.underlying50 rfl (by rw[NL.out];exact size8) ?_)
 refine PR1.out.mono ?_
 rintro e W6 ⟨rfl,g6⟩
 have M6:=hide (M5.out.keep g6)
 have B6:=hide (B5.out.keep g6)
 have O6:=hide (OZ.out.keep g6)
 have N6:=hide (Nat.le_trans N5.out g6.size)
 clear g6 PR1 M5 B5 OZ N5 P0
 go_wp2_with fail
 go_loopw [8,27] (fun va i wr=>∃k:Nat,i=.int .i64 (k:Int)∧k≤2∧Hid (Own (ba+1) wr va (LO k))∧Hid (PlQ w (LM k) s0 p wr)∧Hid (Blk wr ba 50 now)∧Hid (ba+1≤wr.heap.size)) (fun _ i _=>2-(intOf i).toNat)
 case atStart=>exact⟨0,rfl,Nat.zero_le _,by rw[E1.out];exact O6.out,by rw[E0.out];exact M6.out,B6.out,N6.out⟩
 case round=>
  obtain⟨k,rfl,hk,hO,hM,hB,hN⟩:=hrel
  clear M6 B6 O6 N6
  by_cases hkl:k<2
  ·have hk3:(k:Int)<2:=by omega
   have A1:=hide (BlkM.all s0 (LL.out k))
   have C1:=hide (memC_len (LL.out k) s0)
   have CK:=hide (memC_len (LL.out (k+1)) s0)
   have IK:=hide (memC_one (LM (k+1)) s0)
   have Q2:=hide (S2.out k hkl)
   have OK:=hide (OL.out k hk)
   have SK:=hide (SN.out k hkl)
   have SP1:=hide (SP.out k hkl)
   have AL:=hide (AL'.out k)
   have PU:=hide (PS.out k hkl)
   have hix:=IX'.out k hkl
   rw[IE.out k hkl]at hix
   rw[show prt p (9+8*k) 8=subL p k from rfl]at PU
   clear S2 OL SN SP PS AL' F IX' IE hk2
   generalize hfL (prdP (prt l0 0 8) now k) sil (LM k) (subL p k)=LX at *
   generalize prdP (prt l0 0 8) now k=AK at *
   obtain⟨b1,b2,b3⟩:=fresh_arr wr 95 9 AK AL.out
   have B1:=hide b1
   have BA:=hide b2
   have M1:=hide (hM.out.keep b3)
   have O1:=hide (hO.out.keep b3)
   have BN:=hide (hB.out.keep b3)
   have N1:=hide (Nat.le_trans hN.out b3.size)
   rw[z9']at B1 BA M1 O1 BN N1
   clear b1 b2 b3 hM hO hB hN
   go_upto_region 7 with(first|refine wpList_store_arr rfl 95 _ _ rfl _ (zeros 9) AK rfl rfl B1.out (by rw[AL.out,zeros_len]) (by rw[zeros_len];exact size9') ?_)
   (try simp only[Act.put])
   clear B1 hix
   generalize putArr _ wr.heap.size AK=wq at *
   generalize wr.heap.size=bq at *
   go_upto_region 8 with fail
   have hM:=M1
   have hO:=O1
   have hB:=BN
   have hN:=N1
   clear M1 O1 BN N1
   refine wp_region_G 12 (GrownW wq) 14 (by rfl) #[false,false,false,false,false,false,false,false,false,false,false,false,false,false] (by rfl) (by kernel_rfl) (fun hcl=>?_)
   have hHeld:=(gw_start wq)
   refine wpAnyG_take (i:=0) (v:=.agg (memC (LM k) s0).toArray) rfl (by kernel_rfl) hcl (fun _ _ _ h=>h) (Or.inl ⟨by rfl,?ypa0⟩) hHeld (fun hcl=>?rpa0)
   case ypa0=>(intro w' hSw;(try dsimp only at hSw);exact yields_load_v rfl rfl (hM.out.1.keep hSw) _ Tryz.underlying53 rfl size102 (by rw[C1.out];omega) _ A1.out)
   (try simp only[Act.put,sL])
   refine wpAnyG_take (i:=1) (v:=.agg (arrI AK)) rfl (by kernel_rfl) hcl (fun _ _ _ h=>h) (Or.inl ⟨by rfl,?ypa1⟩) hHeld (fun hcl=>?rpa1)
   case ypa1=>(intro w' hSw;(try dsimp only at hSw);exact yields_load_arr rfl rfl (BA.out.keep hSw) _ Tryz.underlying95 rfl (by rw[AL.out];exact size9'))
   (try simp only[Act.put,sL])
   refine wpAnyG_take (i:=2) (v:=?vpa2) rfl (by kernel_rfl) hcl (fun _ _ _ h=>h) (Or.inl ⟨by rfl,?ypa2⟩) hHeld (fun hcl=>?rpa2)
   case ypa2=>(intro w' hSw;(try dsimp only at hSw);go_simp;(try with_reducible rfl))
   (try simp only[Act.put,sL])
   refine wpAnyG_take (i:=3) (v:=.int .i64 kd) rfl (by kernel_rfl) hcl (fun _ _ _ h=>h) (Or.inl ⟨by rfl,?ypa3⟩) hHeld (fun hcl=>?rpa3)
   case ypa3=>(intro w' hSw;(try dsimp only at hSw);have cc:=((hM.out.2.1.keep hSw).cell 0).trans (ints_getC p 0 (by rw[HP.out];omega));rw[KD.out]at cc;go_simp;(try with_reducible rfl))
   (try simp only[Act.put,sL])
   refine wpAnyG_take (i:=4) (v:=?vpa4) rfl (by kernel_rfl) hcl (fun _ _ _ h=>h) (Or.inl ⟨by rfl,?ypa4⟩) hHeld (fun hcl=>?rpa4)
   case ypa4=>(intro w' hSw;(try dsimp only at hSw);go_simp;(try with_reducible rfl))
   (try simp only[Act.put,sL])
   refine wpAnyG_take (i:=5) (v:=?vpa5) rfl (by kernel_rfl) hcl (fun _ _ _ h=>h) (Or.inl ⟨by rfl,?ypa5⟩) hHeld (fun hcl=>?rpa5)
   case ypa5=>(intro w' hSw;(try dsimp only at hSw);go_simp;(try with_reducible rfl))
   (try simp only[Act.put,sL])
   refine wpAnyG_take (i:=6) (v:=.pointer (some ⟨w.heap.size+1,9+8*k,none⟩)) rfl (by kernel_rfl) hcl (fun _ _ _ h=>h) (Or.inl ⟨by rfl,?ypa6⟩) hHeld (fun hcl=>?rpa6)
   case ypa6=>(intro w' hSw;(try dsimp only at hSw);go_simp;(try simp only[Nat.mul_comm]);(try with_reducible rfl))
   (try simp only[Act.put,sL])
   refine wpAnyG_take (i:=7) (v:=.agg (intsV (subL p k)).toArray) rfl (by kernel_rfl) hcl (fun _ _ _ h=>h) (Or.inl ⟨by rfl,?ypa7⟩) hHeld (fun hcl=>?rpa7)
   case ypa7=>(intro w' hSw;(try dsimp only at hSw);exact yields_load_v rfl rfl (hM.out.2.1.keep hSw) _ Tryz.underlying79 rfl size8sub (by rw[intsV_len,HP.out];omega) _ PU.out)
   (try simp only[Act.put,sL])
   refine wpAnyG_exec (i:=8) rfl (by kernel_rfl) hcl (fun K hK=>?_)
   (try simp only[Act.put,sL])
   go_simp
   refine(SP1.out _ (grown_none hM.out.2.2.2 hHeld)).mono ?_
   rintro e w2 ⟨v2,rfl,o2,q2⟩
   have Q2:=hide q2
   have X2:=hide (o2.base (Nat.le_trans hN.out hHeld.size))
   clear q2 o2
   unfold memV
   go_wp2_with fail
   have hNew:=(gw_trans hHeld Q2.out)
   refine hK.out _ _ (fun _=>hNew) (fun hcl=>?_)
   clear hK
   replace hHeld:=hNew
   clear hNew
   (try simp only[Act.put,sL])
   refine wpAnyG_take (i:=9) (v:=?vpa9) rfl (by kernel_rfl) hcl (fun _ _ _ h=>h) (Or.inl ⟨by rfl,?ypa9⟩) hHeld (fun hcl=>?rpa9)
   case ypa9=>(intro w' hSw;(try dsimp only at hSw);go_simp;(try with_reducible rfl))
   (try simp only[Act.put,sL])
   refine wpAnyG_take (i:=10) (v:=?vpa10) rfl (by kernel_rfl) hcl (fun _ _ _ h=>h) (Or.inl ⟨by rfl,?ypa10⟩) hHeld (fun hcl=>?rpa10)
   case ypa10=>(intro w' hSw;(try dsimp only at hSw);go_simp;(try with_reducible rfl))
   (try simp only[Act.put,sL])
   refine wpAnyG_takeF (i:=11) (v:=?vpa11) rfl (by kernel_rfl) hcl (fun _ _ _ h=>h) (Or.inl ⟨by rfl,?ypa11⟩) hHeld (fun hcl=>?rpa11)
   case ypa11=>(intro w' _;go_simp;(try with_reducible rfl))
   (try simp only[Act.put,sL])
   refine wpAnyG_exec (i:=12) rfl (by kernel_rfl) hcl (fun K hK=>?_)
   (try simp only[Act.put,sL])
   have M2:=hide (hM.out.keep hHeld)
   have MA:=M2.out.all (m:=LM (k+1)) (t:=s0) (LL.out k) (LL.out (k+1))
   have M3:=hide MA.1
   have O3:=hide ((hO.out.keep hHeld).keepLt MA.2 (by have:=NB.out;omega))
   have X3:=hide (X2.out.keepLt MA.2 (by have:=NB.out;omega))
   have B3:=hide ((hB.out.keep hHeld).keepBut MA.2 (by have:=NB.out;omega))
   have N3:=hide (Nat.le_trans (Nat.le_trans hN.out hHeld.size) MA.2.size)
   clear MA X2
   refine step_store_v rfl 53 _ _ rfl w.heap.size 0 53 (memC (LM k) s0) (memC (LM (k+1)) s0) rfl rfl M2.out.1 (by rw[C1.out,CK.out];omega) (by rw[CK.out];exact size102) IK.out ?_
   refine hK.out _ _ (fun h=>by cases h) (fun hcl=>?_)
   clear hK hHeld
   (try simp only[Act.put,sL])
   clear M2 Q2 hM hO hB
   generalize putV w2 w.heap.size 0 (memC (LM (k+1)) s0)=w3 at *
   refine wpAnyG_of_any _ _ _ _ (by rfl) ?_
   refine wpAny_take (i:=13) (v:=?vpa13) rfl (by kernel_rfl) (by kernel_rfl) (by kernel_rfl) (fun _ _ _ h=>h) (Or.inl ⟨by rfl,?ypa13⟩) ?rpa13
   case ypa13=>(intro w';go_simp;(try with_reducible rfl))
   (try simp only[Act.put,sL])
   refine wpAny_done (by kernel_rfl) ?_ _
   clear A1 C1 SP1 PU hkl BA
   go_upto_region 9 with fail
   have LB:=hide (show((LO k).length+LX.length)*8≤140737488355328 by rw[OK.out];have:=SK.out;omega)
   have XI:=hide X3.out.ints
   have XS:=hide X3.out.shp
   go_wp2_with (at_builtin;refine wpList_append_both (by rfl) _ _ rfl (ba+1) _ _ (LO k) LX rfl rfl O3.out XI.out XS.out LB.out N3.out ?_)
   intro v7 w7 h7 g7
   rw[Q2.out]at h7
   have O7:=hide h7
   have M7:=hide (M3.out.own g7 (fun x e=>by have:=(O3.out.lt x e).1;have:=NB.out;omega))
   have B7:=hide (BlkV.toBlk (BlkV.own (BlkV.ofBlk B3.out) g7 (fun x e=>by have:=(O3.out.lt x e).1;omega)))
   have N7:=hide (Nat.le_trans N3.out g7.size)
   clear h7 g7 O3 M3 B3 N3 X3 Q2 XI XS
   go_wp2_with fail
   go_roundw
   case rel=>exact⟨k+1,by go_num,by omega,O7.out,M7.out,B7.out,N7.out⟩
   case measure=>simp[intOf];omega
  ·obtain rfl:k=2:=by omega
   have C2:=hide (memC_len (LL.out 2) s0)
   clear S2 OL SN SP PS AL' IX' IE
   go_upto_region 11 with fail
   refine wp_region_held_drew (S:=fun u=>BlkV u (w.heap.size+1) 82 (intsV p)∧Blk u ba 50 now) (by kernel_rfl) ⟨hM.out.2.1.keep (gw_start wr),hB.out.keep (gw_start wr)⟩ (fun hHeld=>?_)
   refine wpAnyH_take (i:=0) (v:=.agg (arrI now)) rfl (by kernel_rfl) (by kernel_rfl) (by kernel_rfl) (fun _ _ _ h=>h) (Or.inl ⟨by rfl,?ypc0⟩) hHeld ?rpc0
   case ypc0=>(intro w' hSw;exact yields_load_arr rfl rfl hSw.2 _ Tryz.underlying50 rfl (by rw[NL.out];exact size8))
   (try simp only[Act.put,sL])
   refine wpAnyH_take (i:=1) (v:=?vpc1) rfl (by kernel_rfl) (by kernel_rfl) (by kernel_rfl) (fun _ _ _ h=>h) (Or.inl ⟨by rfl,?ypc1⟩) hHeld ?rpc1
   case ypc1=>(intro w' hSw;go_simp;(try with_reducible rfl))
   (try simp only[Act.put,sL])
   refine wpAnyH_take (i:=2) (v:=.int .i64 kd) rfl (by kernel_rfl) (by kernel_rfl) (by kernel_rfl) (fun _ _ _ h=>h) (Or.inl ⟨by rfl,?ypc2⟩) hHeld ?rpc2
   case ypc2=>(intro w' hSw;have cc:=(hSw.1.cell 0).trans (ints_getC p 0 (by rw[HP.out];omega));rw[KD.out]at cc;go_simp;(try with_reducible rfl))
   (try simp only[Act.put,sL])
   refine wpAnyH_take (i:=3) (v:=.bool sil) rfl (by kernel_rfl) (by kernel_rfl) (by kernel_rfl) (fun _ _ _ h=>h) (Or.inl ⟨by rfl,?ypc3⟩) hHeld ?rpc3
   case ypc3=>(intro w' hSw;go_simp;(try simp only[hk2]);(try with_reducible rfl))
   (try simp only[Act.put,sL])
   refine wpAnyH_take (i:=4) (v:=?vpc4) rfl (by kernel_rfl) (by kernel_rfl) (by kernel_rfl) (fun _ _ _ h=>h) (Or.inl ⟨by rfl,?ypc4⟩) hHeld ?rpc4
   case ypc4=>(intro w' hSw;go_simp;(try with_reducible rfl))
   (try simp only[Act.put,sL])
   refine wpAnyH_ready (rs:=[5]) (by kernel_rfl) (by simp) (AllReadyH.cons rfl (fun K hK=>?_) AllReadyH.nil)
   (try simp only[Act.put,sL])
   have MD:=hide (hM.out.keep (gw_start wr))
   have MA:=MD.out.put 0 now (by rw[NL.out,LL.out];omega)
   have M6:=hide MA.1
   have O6:=hide ((hO.out.keep (gw_start wr)).keepLt MA.2 (by have:=NB.out;omega))
   have HS6:=And.intro (hHeld.1.keepBut MA.2 (by omega)) (hHeld.2.keepBut MA.2 (by have:=NB.out;omega))
   clear MA
   refine step_store_v rfl 50 _ _ rfl w.heap.size 0 53 (memC (LM 2) s0) (intsV now) rfl rfl MD.out.1 (by rw[intsV_len,NL.out,C2.out];omega) (by rw[intsV_len,NL.out];exact size8) (intsV_one _) ?_
   refine hK.out _ _ HS6 (fun hHeld=>?_)
   clear hK
   (try simp only[Act.put,sL])
   clear MD HS6
   generalize putV wr.drew w.heap.size 0 (intsV now)=w6 at *
   have L6:=hide (show(ovr (LM 2) 0 now).length=101 by rw[ovr_len];exact LL.out 2)
   generalize ovr (LM 2) 0 now=m6 at *
   refine wpAnyH_take (i:=6) (v:=?vpc6) rfl (by kernel_rfl) (by kernel_rfl) (by kernel_rfl) (fun _ _ _ h=>h) (Or.inl ⟨by rfl,?ypc6⟩) hHeld ?rpc6
   case ypc6=>(intro w' hSw;go_simp;(try with_reducible rfl))
   (try simp only[Act.put,sL])
   refine wpAnyH_ready (rs:=[7]) (by kernel_rfl) (by simp) (AllReadyH.cons rfl (fun K hK=>?_) AllReadyH.nil)
   (try simp only[Act.put,sL])
   have ck:=M6.out.1.cell 99 (by rw[L6.out];omega)
   have fk:=M6.out.1.free 99
   have M7:=hide (M6.out.set 99 0 (by rw[L6.out];omega))
   have O7:=hide (O6.out.keepLt (grown_setCell w6 ⟨w.heap.size,99,none⟩ (.int .i64 0)) (by have:=NB.out;simp;omega))
   have HS7:=And.intro (hHeld.1.keepBut (grown_setCell w6 ⟨w.heap.size,99,none⟩ (.int .i64 0)) (by simp)) (hHeld.2.keepBut (grown_setCell w6 ⟨w.heap.size,99,none⟩ (.int .i64 0)) (by have:=NB.out;simp;omega))
   go_simp
   go_wp2_with fail
   refine hK.out _ _ HS7 (fun hHeld=>?_)
   clear hK
   (try simp only[Act.put,sL])
   clear ck fk M6 O6 HS7
   generalize w6.setCell ⟨w.heap.size,99,none⟩ (.int .i64 0)=w7 at *
   have L7:=hide (show(m6.set 99 0).length=101 by rw[List.length_set];exact L6.out)
   generalize m6.set 99 0=m7 at *
   refine wpAnyH_take (i:=8) (v:=?vpc8) rfl (by kernel_rfl) (by kernel_rfl) (by kernel_rfl) (fun _ _ _ h=>h) (Or.inl ⟨by rfl,?ypc8⟩) hHeld ?rpc8
   case ypc8=>(intro w' hSw;go_simp;(try with_reducible rfl))
   (try simp only[Act.put,sL])
   refine wpAnyH_ready (rs:=[9]) (by kernel_rfl) (by simp) (AllReadyH.cons rfl (fun K hK=>?_) AllReadyH.nil)
   (try simp only[Act.put,sL])
   have ck:=M7.out.1.cellS L7.out
   have fk:=M7.out.1.free 101
   have M8:=hide (M7.out.setS L7.out sil)
   have O8:=hide (O7.out.keepLt (grown_setCell w7 ⟨w.heap.size,101,none⟩ (.bool sil)) (by have:=NB.out;simp;omega))
   have HS8:=And.intro (hHeld.1.keepBut (grown_setCell w7 ⟨w.heap.size,101,none⟩ (.bool sil)) (by simp)) (hHeld.2.keepBut (grown_setCell w7 ⟨w.heap.size,101,none⟩ (.bool sil)) (by have:=NB.out;simp;omega))
   go_simp
   go_wp2_with fail
   refine hK.out _ _ HS8 (fun hHeld=>?_)
   clear hK
   (try simp only[Act.put,sL])
   clear ck fk M7 O7 HS8
   generalize w7.setCell ⟨w.heap.size,101,none⟩ (.bool sil)=w8 at *
   refine wpAnyH_done (by kernel_rfl) ?_ _
   clear hHeld
   go_upto_region 12 with fail
   have A8:=hide (BlkM.all sil L7.out)
   have C8:=hide (memC_len L7.out sil)
   have ON:=hide (memC_one m7 sil)
   have PB:=hide (M8.out.fin m7 sil L7.out)
   have O9:=hide (O8.out.keepLt PB.out.2.2 (by have:=NB.out;omega))
   have FF:=hide (F.out _ _ (O9.out.base (b':=w.heap.size) (by have:=NB.out;omega)) PB.out.2.1)
   clear F O8 O9
   go_wp2_with (first|refine wpList_load_v rfl 53 _ rfl w.heap.size 0 102 rfl 53 (memC m7 sil) M8.out.1 _ Tryz.underlying53 rfl size102 (by rw[C8.out];omega) _ A8.out ?_|refine wpList_store_v rfl 53 _ _ rfl (w.heap.size+1+1) 0 53 (memC (zeros 101) false) (memC m7 sil) rfl rfl M8.out.2.2.1 (by rw[ZL.out,C8.out];omega) (by rw[C8.out];exact size102) ON.out ?_)
   have hlv:=loadVar_v PB.out.1 _ Tryz.underlying53 rfl (by rw[C8.out];exact size102)
   refine bodyPost_ret (v:=.tuple #[.agg (memC m7 sil).toArray,_]) ?_ rfl FF.out
   simp[results,Tryz.results37,asAddr,Act.put,hlv]
theorem cpy_of {W:World}(hW:Wide W)(hT:TabA W 2 gains 8)(hG:Grows W):CPy 37 W:=fun l s hl hg p hp gp wr g=>codPlayed_any wr (Wide_keep hW g) (TabA_keep hT g) (growsC_keep hG g) l s hl hg p hp gp
end Go.Proofs.YtdejpongekicdaaGreatDoor

/- CodG -/
namespace Go.Proofs.YtdejpongekicdaaGreatDoor
open Go.RowKit
set_option linter.unusedVariables false
set_option linter.unusedSimpArgs false
set_option maxHeartbeats 4000000
theorem zero_pktC (w:World):Sem.run Tryz.prog (zeroValue 82) w=.ok (.agg (arrI (zeros 25))) w:=by
 have hz:=zPkt
 cases hq:Tryz.prog.info? 82 with
 | none=>simp[hq]at hz
 | some i=>
  have hi:i.zero=some (.agg (arrI (zeros 25))):=by simpa [hq] using hz
  simp[zeroValue,typeInfo,hq,hi]
theorem unpL_lenC (b:List Int):(unpL b).length=25:=by
 unfold unpL
 split
 ·exact tab_len _ _
 ·exact tab_len _ _
theorem MmS.ownG {w:World}{l m:List Int}{s t:Bool}{wr:World}(h:MmS w l s wr)(hl:l.length=101)(hm:m.length=101):MmS w m t (putV wr w.heap.size 0 (memC m t))∧wr.grownBy (putV wr w.heap.size 0 (memC m t)) (some w.heap.size):=by
 have:=h.1.putAll (m:=m) (t:=t) hl hm
 exact⟨⟨this.1,h.2.1.keepBut this.2 (by omega),grown_own h.2.2 this.2 (Nat.le_refl _)⟩,this.2⟩
set_option maxRecDepth 100000 in
theorem codDecode_no (v:Value)(b:List Int)(l:List Int)(s:Bool)(hl:l.length=101)(h64:In64 l)(hg:goodM l=false)(w:World):Calls Tryz.prog 22 #[memV l s,v] w (MemE w (decM l b) (decS l b) (decL l b) (decE l b)):=by
 have M0:=hide (MmS.new w l s)
 have GD:=hide (fun wr=>conGood_any l s hl wr)
 rw[hg]at GD
 have F:=hide (show ∀w',w.grownBy w' none→MemE w (decM l b) (decS l b) (decL l b) (decE l b) (.returned (.tuple #[memV (zeros 101) false,.slice none 0 0,.int .i64 2])) w' from fun w' q=>⟨_,by rw[(dec_bad (b:=b) hg).1,(dec_bad (b:=b) hg).2.1,(dec_bad (b:=b) hg).2.2.2],by rw[(dec_bad (b:=b) hg).2.2.1];exact Own_nil _ _,q⟩)
 have CL:=hide (memC_len hl s)
 have AL:=hide (BlkM.all s hl)
 have ZL:=hide (memC_len (zeros_len 101) false)
 have ZO:=hide (memC_one (zeros 101) false)
 have hz:=zero_mem
 have ZB:=hide (fun wr (h:MmS w l s wr)=>h.fin (zeros 101) false (zeros_len 101))
 clear hg h64
 generalize MemE w (decM l b) (decS l b) (decL l b) (decE l b)=T at *
 unfold memV at hz F GD ⊢
 go_enter Tryz.func22,Tryz.ntmps22
 go_upto_region 1 with fail
 generalize (w.alloc (.cells (memC l s).toArray 53)).alloc (.cells (memC (zeros 101) false).toArray 53)=W0 at *
 go_wp2_with (refine wpList_load_v rfl 53 _ rfl w.heap.size 0 102 rfl 53 (memC l s) M0.out.1 _ Tryz.underlying53 rfl size102 (by rw[CL.out];omega) _ AL.out ?_)
 refine(GD.out W0).mono ?_
 rintro e W1 ⟨rfl,g1⟩
 have M1:=hide (M0.out.keep g1)
 have PB:=hide (ZB.out W1 M1.out)
 have FF:=hide (F.out _ PB.out.2)
 clear M0 g1 GD ZB F
 go_wp2_with (first|refine wpList_store_v rfl 53 _ _ rfl (w.heap.size+1) 0 53 (memC (zeros 101) false) (memC (zeros 101) false) rfl rfl M1.out.2.1 (by rw[ZL.out];omega) (by rw[ZL.out];exact size102) ZO.out ?_)
 have hlv:=loadVar_v PB.out.1 _ Tryz.underlying53 rfl (by rw[ZL.out];exact size102)
 refine bodyPost_ret (v:=.tuple #[.agg (memC (zeros 101) false).toArray,.slice none 0 0,.int .i64 2]) ?_ rfl FF.out
 simp[results,Tryz.results22,asAddr,Act.put,hlv]
set_option maxRecDepth 100000 in
theorem codDecode_err (w:World)(pl:CPy 37 w)(pu:∀(v:Value) (b:List Int) wr,w.grownBy wr none→Byts wr v b→byB b→b.length≤140737488351232→Calls Tryz.prog 39 #[v] wr (UnP wr b))(v:Value)(b:List Int)(hv:Byts w v b)(hb:byB b)(hbl:b.length≤140737488351232)(l:List Int)(s:Bool)(hl:l.length=101)(h64:In64 l)(hg:goodM l=true)(hu:unE b≠0):Calls Tryz.prog 22 #[memV l s,v] w (MemE w (decM l b) (decS l b) (decL l b) (decE l b)):=by
 have M0:=hide (MmS.new w l s)
 have GD:=hide (fun wr=>conGood_any l s hl wr)
 rw[hg]at GD
 have UN:=hide (fun wr (g:w.grownBy wr none)=>pu v b wr g (Byts_keep hv g) hb hbl)
 unfold UnP at UN
 have UL:=hide (unpL_lenC b)
 have F:=hide (show ∀w',w.grownBy w' none→MemE w (decM l b) (decS l b) (decL l b) (decE l b) (.returned (.tuple #[memV (zeros 101) false,.slice none 0 0,.int .i64 (unE b)])) w' from fun w' q=>⟨_,by rw[(dec_no hg hu).1,(dec_no hg hu).2.1,(dec_no hg hu).2.2.2],by rw[(dec_no hg hu).2.2.1];exact Own_nil _ _,q⟩)
 have ZO:=hide (memC_one (zeros 101) false)
 clear hg
 have HL:=hide hl
 have CL:=hide (memC_len hl s)
 have AL:=hide (BlkM.all s hl)
 have ZL:=hide (memC_len (zeros_len 101) false)
 have hz:=zero_mem
 have hzp:=zero_pktC
 clear h64 hl pl pu hv hb hbl
 generalize MemE w (decM l b) (decS l b) (decL l b) (decE l b)=T at *
 unfold memV at hz F GD ⊢
 generalize unpL b=P at *
 generalize unE b=x at *
 go_enter Tryz.func22,Tryz.ntmps22
 go_upto_region 1 with fail
 generalize (w.alloc (.cells (memC l s).toArray 53)).alloc (.cells (memC (zeros 101) false).toArray 53)=W0 at *
 go_wp2_with (refine wpList_load_v rfl 53 _ rfl w.heap.size 0 102 rfl 53 (memC l s) M0.out.1 _ Tryz.underlying53 rfl size102 (by rw[CL.out];omega) _ AL.out ?_)
 refine(GD.out W0).mono ?_
 rintro e W1 ⟨rfl,g1⟩
 have M1:=hide (M0.out.keep g1)
 clear M0 g1 GD
 go_wp2_with fail
 refine(UN.out W1 M1.out.2.2).mono ?_
 rintro e W2 ⟨rfl,g2⟩
 obtain⟨b1,b2,b3⟩:=fresh_arr W2 82 25 P UL.out
 have B1:=hide b1
 have B2:=hide b2
 have M3:=hide ((M1.out.keep g2).keep b3)
 have N2:=hide (show w.heap.size+1+1≤W2.heap.size from(M1.out.keep g2).2.1.lt)
 clear UN g2 b1 b2 b3 M1
 go_upto_region 5 with(first|refine wpList_store_arr rfl 82 _ _ rfl _ (zeros 25) P rfl rfl B1.out (by rw[UL.out,zeros_len]) (by rw[zeros_len];exact size25) ?_)
 clear B1 hzp
 generalize putArr _ W2.heap.size P=W3 at *
 have PB:=hide (M3.out.fin (zeros 101) false (zeros_len 101))
 have FF:=hide (F.out _ PB.out.2)
 clear F
 go_wp2_with (first|refine wpList_store_v rfl 53 _ _ rfl (w.heap.size+1) 0 53 (memC (zeros 101) false) (memC (zeros 101) false) rfl rfl M3.out.2.1 (by rw[ZL.out];omega) (by rw[ZL.out];exact size102) ZO.out ?_)
 have hlv:=loadVar_v PB.out.1 _ Tryz.underlying53 rfl (by rw[ZL.out];exact size102)
 refine bodyPost_ret (v:=.tuple #[.agg (memC (zeros 101) false).toArray,.slice none 0 0,.int .i64 x]) ?_ rfl FF.out
 simp[results,Tryz.results22,asAddr,Act.put,hlv]
set_option maxRecDepth 100000 in
theorem codDecode_yes (w:World)(pl:CPy 37 w)(pu:∀(v:Value) (b:List Int) wr,w.grownBy wr none→Byts wr v b→byB b→b.length≤140737488351232→Calls Tryz.prog 39 #[v] wr (UnP wr b))(v:Value)(b:List Int)(hv:Byts w v b)(hb:byB b)(hbl:b.length≤140737488351232)(l:List Int)(s:Bool)(hl:l.length=101)(h64:In64 l)(hg:goodM l=true)(hu:unE b=0):Calls Tryz.prog 22 #[memV l s,v] w (MemE w (decM l b) (decS l b) (decL l b) (decE l b)):=by
 have M0:=hide (MmS.new w l s)
 have GD:=hide (fun wr=>conGood_any l s hl wr)
 rw[hg]at GD
 have UN:=hide (fun wr (g:w.grownBy wr none)=>pu v b wr g (Byts_keep hv g) hb hbl)
 unfold UnP at UN
 have UL:=hide (unpL_lenC b)
 have PL:=hide (fun wr (g:w.grownBy wr none)=>pl l s hl hg (unpL b) (unpL_lenC b) (unpL_good b hu) wr g)
 have F:=hide (show ∀v' w',Own w.heap.size w' v' (plyL l (unpL b))→w.grownBy w' none→MemE w (decM l b) (decS l b) (decL l b) (decE l b) (.returned (.tuple #[memV (plyM l (unpL b)) (plyS (unpL b)),v',.int .i64 0])) w' from fun v' w' o q=>
  ⟨v',by rw[(dec_yes hg hu).1,(dec_yes hg hu).2.1,(dec_yes hg hu).2.2.2],by rw[(dec_yes hg hu).2.2.1];exact o,q⟩)
 have ML:=hide (plyM_len (unpL b) hl)
 rw[hu]at UN
 clear hg hu
 have HL:=hide hl
 have CL:=hide (memC_len hl s)
 have AL:=hide (BlkM.all s hl)
 have ZL:=hide (memC_len (zeros_len 101) false)
 have hz:=zero_mem
 have hzp:=zero_pktC
 clear h64 hl pl pu hv hb hbl
 generalize MemE w (decM l b) (decS l b) (decL l b) (decE l b)=T at *
 unfold MmL at PL
 unfold memV at hz F GD PL ⊢
 generalize unpL b=P at *
 go_enter Tryz.func22,Tryz.ntmps22
 go_upto_region 1 with fail
 generalize (w.alloc (.cells (memC l s).toArray 53)).alloc (.cells (memC (zeros 101) false).toArray 53)=W0 at *
 go_wp2_with (refine wpList_load_v rfl 53 _ rfl w.heap.size 0 102 rfl 53 (memC l s) M0.out.1 _ Tryz.underlying53 rfl size102 (by rw[CL.out];omega) _ AL.out ?_)
 refine(GD.out W0).mono ?_
 rintro e W1 ⟨rfl,g1⟩
 have M1:=hide (M0.out.keep g1)
 clear M0 g1 GD
 go_wp2_with fail
 refine(UN.out W1 M1.out.2.2).mono ?_
 rintro e W2 ⟨rfl,g2⟩
 obtain⟨b1,b2,b3⟩:=fresh_arr W2 82 25 P UL.out
 have B1:=hide b1
 have B2:=hide b2
 have M3:=hide ((M1.out.keep g2).keep b3)
 have N2:=hide (show w.heap.size+1+1≤W2.heap.size from(M1.out.keep g2).2.1.lt)
 clear UN g2 b1 b2 b3 M1
 go_upto_region 4 with(first|refine wpList_store_arr rfl 82 _ _ rfl _ (zeros 25) P rfl rfl B1.out (by rw[UL.out,zeros_len]) (by rw[zeros_len];exact size25) ?_)
 clear B1 hz hzp
 generalize putArr _ W2.heap.size P=W3 at *
 generalize W2.heap.size=bp at *
 go_wp2_with (first|refine wpList_load_v rfl 53 _ rfl w.heap.size 0 102 rfl 53 (memC l s) M3.out.1 _ Tryz.underlying53 rfl size102 (by rw[CL.out];omega) _ AL.out ?_|refine wpList_load_arr rfl 82 _ rfl _ rfl _ B2.out _ Tryz.underlying82 rfl (by rw[UL.out];exact size25) ?_)
 refine(PL.out W3 M3.out.2.2).mono ?_
 rintro e W4 ⟨v4,rfl,o4,g4⟩
 (try unfold memV)
 generalize plyM l P=m at *
 generalize plyS P=t at *
 generalize plyL l P=L at *
 have M4:=hide (M3.out.keep g4)
 have O4:=hide (o4.base (b':=w.heap.size+1+1) (show w.heap.size+1+1≤W3.heap.size from M3.out.2.1.lt))
 have MA:=M4.out.ownG (m:=m) (t:=t) HL.out ML.out
 have M5:=hide MA.1
 have O5:=hide (O4.out.keepLt MA.2 (by omega))
 have I_:=hide (memC_one m t)
 have CM:=hide (memC_len ML.out t)
 clear g4 o4 M3 B2 MA O4 PL
 go_upto_region 7 with(first|refine wpList_store_v rfl 53 _ _ rfl w.heap.size 0 53 (memC l s) (memC m t) rfl rfl M4.out.1 (by rw[CM.out,CL.out];omega) (by rw[CM.out];exact size102) I_.out ?_)
 clear M4
 generalize putV W4 w.heap.size 0 (memC m t)=W5 at *
 have A5:=hide (BlkM.all t ML.out)
 have PB:=hide (M5.out.fin m t ML.out)
 have O6:=hide (O5.out.keepLt (M5.out.2.1.putAll (m:=m) (t:=t) (zeros_len 101) ML.out).2 (by omega))
 have FF:=hide (F.out _ _ (O6.out.base (b':=w.heap.size) (by omega)) PB.out.2)
 clear F O5 O6
 go_wp2_with (first|refine wpList_load_v rfl 53 _ rfl w.heap.size 0 102 rfl 53 (memC m t) M5.out.1 _ Tryz.underlying53 rfl size102 (by rw[CM.out];omega) _ A5.out ?_|refine wpList_store_v rfl 53 _ _ rfl (w.heap.size+1) 0 53 (memC (zeros 101) false) (memC m t) rfl rfl M5.out.2.1 (by rw[ZL.out,CM.out];omega) (by rw[CM.out];exact size102) I_.out ?_)
 have hlv:=loadVar_v PB.out.1 _ Tryz.underlying53 rfl (by rw[CM.out];exact size102)
 refine bodyPost_ret (v:=.tuple #[.agg (memC m t).toArray,_,.int .i64 0]) ?_ rfl FF.out
 simp[results,Tryz.results22,asAddr,Act.put,hlv]
theorem codDecode_any (w:World)(pl:CPy 37 w)(pu:∀(v:Value) (b:List Int) wr,w.grownBy wr none→Byts wr v b→byB b→b.length≤140737488351232→Calls Tryz.prog 39 #[v] wr (UnP wr b))(v:Value)(b:List Int)(hv:Byts w v b)(hb:byB b)(hbl:b.length≤140737488351232)(l:List Int)(s:Bool)(hl:l.length=101)(h64:In64 l):Calls Tryz.prog 22 #[memV l s,v] w (MemE w (decM l b) (decS l b) (decL l b) (decE l b)):=by
 rcases hg:goodM l with _|_
 ·exact codDecode_no v b l s hl h64 hg w
 ·by_cases hu:unE b=0
  ·exact codDecode_yes w pl pu v b hv hb hbl l s hl h64 hg hu
  ·exact codDecode_err w pl pu v b hv hb hbl l s hl h64 hg hu
end Go.Proofs.YtdejpongekicdaaGreatDoor

/- LCdT -/
namespace Go.Proofs.YtdejpongekicdaaGreatDoor
open Go.RowKit
set_option linter.unusedVariables false
theorem wide_tab {W:World}(t:TabA W 3 widq 8):Wide W:=fun i hi=>by
 have e:∀i:Fin 8,widq.getD i.val 0=(wid i.val:Int):=by decide
 rw[t i hi]
 exact congrArg (fun z=>some (Value.int .i64 z)) (e ⟨i,hi⟩)
theorem grows_tab {W:World}(t:TabA W 5 gro 15):Grows W:=t
theorem cde_of {W:World}(t0:TabA W 5 gro 15)(t1:TabA W 3 widq 8)(t2:TabA W 2 gains 8):CDe 22 W:=
 fun l s hl h64 v b wr g hb sh hby hsz=>codDecode_any wr (cpy_of (wide_tab (TabA_keep t1 g)) (TabA_keep t2 g) (grows_tab (TabA_keep t0 g))) (fun v b wx q hv hy hz=>pkUnpack_any v b wx hv hy (by omega) (TabA_keep (TabA_keep t1 g) q)) v b hb hby hsz l s hl h64
end Go.Proofs.YtdejpongekicdaaGreatDoor

/- CodK -/
namespace Go.Proofs.YtdejpongekicdaaGreatDoor
open Go.RowKit
set_option linter.unusedVariables false
set_option linter.unusedSimpArgs false
set_option maxHeartbeats 4000000
theorem codKind_any (v:Value)(x:List Int)(r:Bool)(w:World)(hx:Ints w v x)(xl:x.length=80)(xr:rightB x=true) :
  Calls Tryz.prog 34 #[v,.bool r] w (Ans w (.int .i64 (if r=true then 1 else if dotS x x 80<1280 then 2 else 0))):=by
 have D:=hide (codProduct_any v v x x w hx hx (Nat.le_refl _) (by omega) xr xr)
 rw[xl]at D
 have F:=hide (show ∀z,z=(if r=true then 1 else if dotS x x 80<1280 then 2 else 0)→Ans w (.int .i64 (if r=true then 1 else if dotS x x 80<1280 then 2 else 0)) (.returned (.int .i64 z)) w from fun z hz=>⟨by rw[hz],rfl⟩)
 generalize Ans w (.int .i64 (if r=true then 1 else if dotS x x 80<1280 then 2 else 0))=T at *
 clear hx xl xr
 cases r with
 | true=>
  have FF:=hide (F.out 1 rfl)
  clear F D
  go_enter Tryz.func34,Tryz.ntmps34
  go_wp2_with fail
  exact FF.out
 | false=>
  by_cases h:dotS x x 80<1280
  ·have FF:=hide (F.out 2 (by rw[if_neg (by decide),if_pos h]))
   clear F
   generalize dotS x x 80=d at *
   go_enter Tryz.func34,Tryz.ntmps34
   go_wp2_with fail
   refine D.out.mono ?_
   rintro e w1 ⟨rfl,rfl⟩
   clear D
   go_wp2_with fail
   exact FF.out
  ·have FF:=hide (F.out 0 (by rw[if_neg (by decide),if_neg h]))
   clear F
   generalize dotS x x 80=d at *
   go_enter Tryz.func34,Tryz.ntmps34
   go_wp2_with fail
   refine D.out.mono ?_
   rintro e w1 ⟨rfl,rfl⟩
   clear D
   go_wp2_with fail
   exact FF.out
theorem step_copyV {y:Nat→Option Bool}{o:Oper}{a:Act}{w:World}{K:Act→World→Prop}{Q:Exit→Act→World→Prop}{E:Prop}(hg:o.guard=none)(d s:Operand)
  (hop:o.op=Op.call { callee:=Callee.builtin Builtin.copy,args:=#[d,s],argTypes:=#[26,26] }) (b off dn n dc sc:Nat) (T:TypeId) (cs:List Value) (L:List Int) (ad:Addr) (hb:BlkV w b T cs)
  (hd:a.eval d=.slice (some ⟨b,off,none⟩) dn dc) (hs:a.eval s=.slice (some ad) n sc) (hL:L.length=n) (hdn:n≤dn) (hsrc:∀j,j<n→w.cell? (ad.add j)=some (.int .i64 (nth L j))) (hfit:off+n≤cs.length)
  (hK:∀w',BlkV w' b T (splV cs off (intsV L))→w.grownBy w' (some b)→K (a.put o.dst (goInt n)) w'):if Region.wanted o y=true then Oper.wp Tryz.prog o a w K Q else E:=by
 have hw:Region.wanted o y=true:=by simp[Region.wanted,hg]
 rw[if_pos hw]
 have hsz:(Tryz.prog.info? 3).map (·.size)=some 1:=by kernel_rfl
 have hrun:=run_copy_row (P:=Tryz.prog) w 26 26 o.type 3 b off dn dc ad n sc cs.toArray T (L.map (Value.int .i64)) Tryz.underlying26 hsz hb (by rw[List.length_map,hL];exact(Nat.min_eq_left hdn).symm)
  (fun j v hv=>by
   have hj:j<L.length:=by
    by_cases hj:j<L.length
    ·exact hj
    ·rw[List.getElem?_eq_none (by simp;omega)]at hv;cases hv
   rw[hsrc j (by omega)]
   simpa [nth,List.getD,hj] using hv)
  (by simp[hL];omega) (fun v hv=>by
   obtain⟨x,_,rfl⟩:=List.mem_map.1 hv
   rfl)
 have e:(cs.toArray.toList.take off++L.map (Value.int .i64)++cs.toArray.toList.drop (off+(L.map (Value.int .i64)).length)).toArray=(splV cs off (intsV L)).toArray:=by simp[splV,intsV]
 rw[e,List.length_map,hL]at hrun
 unfold Oper.wp
 simp[execOp,hop,resolve,invoke,builtin,hd,hs,hrun,Result.andThen]
 exact hK _ (setRow_heap _ _ _ _ _ _ hb) (grown_setRowE _ _ _)
theorem BlkE.put {w:World}{b:Nat}{e:List Int}{s:Bool}(h:BlkE w b e s)(o:Nat)(M:List Int)(hl:o+M.length≤e.length):BlkE (putV w b o (intsV M)) b (ovr e o M) s∧w.grownBy (putV w b o (intsV M)) (some b):=by
 have:=put_v h o (intsV M) (by rw[intsV_len];unfold encC;rw[mixC_len];omega)
 unfold encC at this
 rw[mixC_spl _ _ _ _ hl]at this
 exact this
def LisS (w:World)(e:List Int)(s:Bool)(wr:World):Prop:=BlkE wr w.heap.size e s∧BlkE wr (w.heap.size+1) (zeros 225) false∧Blk wr (w.heap.size+1+1) 50 (zeros 8)∧Blk wr (w.heap.size+1+1+1) 50 (zeros 8)∧w.grownBy wr none
theorem LisS.new (w:World)(e:List Int)(s:Bool):LisS w e s ((((w.alloc (.cells (encC e s).toArray 55)).alloc (.cells (encC (zeros 225) false).toArray 55)).alloc (.cells #[.int .i64 0,.int .i64 0,.int .i64 0,.int .i64 0,.int .i64 0,.int .i64 0,.int .i64 0,.int .i64 0] 50)).alloc (.cells #[.int .i64 0,.int .i64 0,.int .i64 0,.int .i64 0,.int .i64 0,.int .i64 0,.int .i64 0,.int .i64 0] 50)):=by
 rw[←z8']
 have g1:=grown_alloc (w.alloc (.cells (encC e s).toArray 55)) (.cells (encC (zeros 225) false).toArray 55) none
 have g2:=grown_alloc ((w.alloc (.cells (encC e s).toArray 55)).alloc (.cells (encC (zeros 225) false).toArray 55)) (.cells (arrI (zeros 8)) 50) none
 have g3:=grown_alloc (((w.alloc (.cells (encC e s).toArray 55)).alloc (.cells (encC (zeros 225) false).toArray 55)).alloc (.cells (arrI (zeros 8)) 50)) (.cells (arrI (zeros 8)) 50) none
 refine⟨(((BlkE.new w e s).keep g1).keep g2).keep g3,?_,?_,?_,grown_none (grown_none (grown_none (grown_alloc _ _ none) g1) g2) g3⟩
 ·have:=((BlkE.new (w.alloc (.cells (encC e s).toArray 55)) (zeros 225) false).keep g2).keep g3
  simpa using this
 ·have:=(Blk.new ((w.alloc (.cells (encC e s).toArray 55)).alloc (.cells (encC (zeros 225) false).toArray 55)) 50 (zeros 8)).keep g3
  simpa using this
 ·have:=Blk.new (((w.alloc (.cells (encC e s).toArray 55)).alloc (.cells (encC (zeros 225) false).toArray 55)).alloc (.cells (arrI (zeros 8)) 50)) 50 (zeros 8)
  simpa using this
theorem LisS.keep {w:World}{e:List Int}{s:Bool}{wr wr':World}(h:LisS w e s wr)(g:wr.grownBy wr' none):LisS w e s wr':=⟨h.1.keep g,h.2.1.keep g,h.2.2.1.keep g,h.2.2.2.1.keep g,grown_none h.2.2.2.2 g⟩
theorem LisS.sess {w:World}{e m:List Int}{s t:Bool}{wr wr':World}(h:LisS w e s wr)(hb:BlkE wr' w.heap.size m t)(g:wr.grownBy wr' (some w.heap.size)):LisS w m t wr':=⟨hb,h.2.1.keepBut g (by omega),h.2.2.1.keepBut g (by omega),h.2.2.2.1.keepBut g (by omega),grown_own h.2.2.2.2 g (Nat.le_refl _)⟩
theorem LisS.putE {w:World}{e:List Int}{s:Bool}{wr:World}(h:LisS w e s wr)(o:Nat)(M:List Int)(hl:o+M.length≤e.length):LisS w (ovr e o M) s (putV wr w.heap.size o (intsV M))∧wr.grownBy (putV wr w.heap.size o (intsV M)) (some w.heap.size):=by
 have:=h.1.put o M hl
 exact⟨h.sess this.1 this.2,this.2⟩
def LisE (w:World)(en:Int)(x:Ending)(w':World):Prop:=∃m s,m.length=225∧x=.returned (.tuple #[encV m s,.agg (arrI (zeros 8)),.int .i64 en])∧w.grownBy w' none
def LisY (w:World)(e:List Int)(s:Bool)(l:List Int)(x:Ending)(w':World):Prop:=x=.returned (.tuple #[encV (enHp e l++(enI e l++enMm e)) s,.agg (arrI (enQ e l)),.int .i64 0])∧w.grownBy w' none
set_option maxRecDepth 100000 in
theorem fcorr_one (v:Value)(l:List Int)(w:World)(h:Ints w v l)(hl:l.length=120)(hr:rightB l=true) :
  Calls Tryz.prog 61 #[v] w fun x w'=>x=.returned (.tuple #[.agg (arrI (corL l)),.int .i64 ((corB l:Int)-31),.int .i64 0])∧w.grownBy w' none:=by
 refine(fcorr_yes v l w h hl hr).mono ?_
 rintro x w' ⟨n,hn,hx,hg⟩
 have hp:=first_pos (f:=wN l)
 have hb:=firstV_bd (wN_all l hl hr) 0 (by omega)
 have e:n=corB l:=bits_unique (by omega) hn (bits_len _ (by omega) (by omega))
 subst e
 exact⟨by rw[hx,corrL_agg];rfl,hg⟩
set_option maxRecDepth 100000 in
theorem codListened_size (w:World)(e:List Int)(s:Bool)(he:e.length=225)(v:Value)(l:List Int)(hi:Ints w v l)(hsz:l.length*8≤140737488351232)(hl:l.length≠80):Calls Tryz.prog 33 #[encV e s,v] w (LisE w (encE e l)):=by
 have L0:=hide (LisS.new w e s)
 have HE:=hide he
 have CE:=hide (encC_len he s)
 have AE:=hide (BlkE.all s he)
 have ZC:=hide (encC_len (zeros_len 225) false)
 have hz:=zero_enc
 have F:=hide (show ∀m w',m.length=225→w.grownBy w' none→LisE w (encE e l) (.returned (.tuple #[encV m s,.agg (arrI (zeros 8)),.int .i64 1])) w' from fun m w' hm q=>⟨m,s,hm,by rw[(show encE e l=1 from if_neg hl)],q⟩)
 obtain⟨ad,c,rfl,hc,_⟩:=hi
 have hne:((l.length:Int)==80)=false:=beq_eq_false_iff_ne.2 (by omega)
 clear hl
 generalize LisE w (encE e l)=T at *
 unfold encV at hz ⊢
 go_enter Tryz.func33,Tryz.ntmps33
 go_upto_region 2 with fail
 generalize (((w.alloc (.cells (encC e s).toArray 55)).alloc (.cells (encC (zeros 225) false).toArray 55)).alloc (.cells #[.int .i64 0,.int .i64 0,.int .i64 0,.int .i64 0,.int .i64 0,.int .i64 0,.int .i64 0,.int .i64 0] 50)).alloc (.cells #[.int .i64 0,.int .i64 0,.int .i64 0,.int .i64 0,.int .i64 0,.int .i64 0,.int .i64 0,.int .i64 0] 50)=W0 at *
 clear hz
 have LE1:=hide (show(e).length=225 from HE.out)
 have CE1:=hide (encC_len LE1.out s)
 have AE1:=hide (BlkE.all s LE1.out)
 have QL:=hide (zeros_len 8)
 have NQ:=hide (Nat.le_refl (w.heap.size+1+1+1))
 have LS:=L0
 replace F:=hide (fun w' q=>F.out _ w' LE1.out q)
 unfold encV at F
 go_upto_region 3 with fail
 refine wp_region_held_drew (S:=fun u=>BlkE u w.heap.size (e) s∧Blk u (w.heap.size+1+1+1) 50 (zeros 8)) (by kernel_rfl) ⟨LS.out.1.keep (gw_start _),LS.out.2.2.2.1.keep (gw_start _)⟩ (fun hHeld=>?_)
 refine wpAnyH_take (i:=0) (v:=.agg (encC (e) s).toArray) rfl (by kernel_rfl) (by kernel_rfl) (by kernel_rfl) (fun _ _ _ h=>h) (Or.inl ⟨by rfl,?yla0⟩) hHeld ?rla0
 case yla0=>(intro w' hSw;exact yields_load_v rfl rfl hSw.1 _ Tryz.underlying55 rfl size226 (by rw[CE1.out];omega) _ AE1.out)
 (try simp only[Act.put,sL])
 refine wpAnyH_take (i:=1) (v:=.agg (arrI (zeros 8))) rfl (by kernel_rfl) (by kernel_rfl) (by kernel_rfl) (fun _ _ _ h=>h) (Or.inl ⟨by rfl,?yla1⟩) hHeld ?rla1
 case yla1=>(intro w' hSw;exact yields_load_arr rfl rfl hSw.2 _ Tryz.underlying50 rfl (by rw[QL.out];exact size8))
 (try simp only[Act.put,sL])
 refine wpAnyH_ready (rs:=[2]) (by kernel_rfl) (by simp) (AllReadyH.cons rfl (fun K hK=>?_) AllReadyH.nil)
 (try simp only[Act.put,sL])
 have LD:=hide (LS.out.keep (gw_start _))
 have PU:=LD.out.2.1.putAll (m:=(e)) (t:=s) (zeros_len 225) LE1.out
 have R1:=hide (LD.out.2.2.1.keepBut PU.2 (by omega))
 have P1:=hide PU.1
 have G1:=hide (grown_own LD.out.2.2.2.2 PU.2 (by omega))
 have HS1:=And.intro (hHeld.1.keepBut PU.2 (by omega)) (hHeld.2.keepBut PU.2 (by have:=NQ.out;omega))
 clear PU
 refine step_store_v rfl 55 _ _ rfl (w.heap.size+1) 0 55 (encC (zeros 225) false) (encC (e) s) rfl rfl LD.out.2.1 (by rw[ZC.out,CE1.out];omega) (by rw[CE1.out];exact size226) (encC_one _ _) ?_
 refine hK.out _ _ HS1 (fun hHeld=>?_)
 clear hK
 (try simp only[Act.put,sL])
 clear LD HS1
 generalize putV _ (w.heap.size+1) 0 (encC (e) s)=wa at *
 refine wpAnyH_ready (rs:=[3]) (by kernel_rfl) (by simp) (AllReadyH.cons rfl (fun K hK=>?_) AllReadyH.nil)
 (try simp only[Act.put,sL])
 have PU:=put_arr (rs':=(zeros 8)) R1.out (QL.out.trans (zeros_len 8).symm)
 have R2:=hide PU.1
 have P2:=hide (P1.out.keepBut PU.2 (by omega))
 have G2:=hide (grown_own G1.out PU.2 (by omega))
 have HS2:=And.intro (hHeld.1.keepBut PU.2 (by omega)) (hHeld.2.keepBut PU.2 (by have:=NQ.out;omega))
 clear PU
 refine step_store_arr rfl 50 _ _ rfl (w.heap.size+1+1) (zeros 8) (zeros 8) rfl rfl R1.out (QL.out.trans (zeros_len 8).symm) (by rw[zeros_len];exact size8) ?_
 refine hK.out _ _ HS2 (fun hHeld=>?_)
 clear hK
 (try simp only[Act.put,sL])
 clear HS2 R1 P1 G1
 generalize putArr wa (w.heap.size+1+1) (zeros 8)=wb at *
 refine wpAnyH_take (i:=4) (v:=?vla4) rfl (by kernel_rfl) (by kernel_rfl) (by kernel_rfl) (fun _ _ _ h=>h) (Or.inl ⟨by rfl,?yla4⟩) hHeld ?rla4
 case yla4=>(intro w' hSw;go_simp;(try with_reducible rfl))
 (try simp only[Act.put,sL])
 refine wpAnyH_done (by kernel_rfl) ?_ _
 clear hHeld
 have FF:=hide (F.out _ G2.out)
 clear F
 have hlv:=loadVar_v P2.out _ Tryz.underlying55 rfl (by rw[CE1.out];exact size226)
 have hlw:=loadVar_arr R2.out _ Tryz.underlying50 rfl (by rw[QL.out];exact size8)
 go_wp2_with fail
 refine bodyPost_ret (v:=.tuple #[.agg (encC (e) s).toArray,.agg (arrI (zeros 8)),.int .i64 1]) ?_ rfl FF.out
 simp[results,Tryz.results33,asAddr,Act.put,hlv,hlw]
set_option maxRecDepth 100000 in
theorem codListened_bad (w:World)(e:List Int)(s:Bool)(he:e.length=225)(v:Value)(l:List Int)(hi:Ints w v l)(hsz:l.length*8≤140737488351232)(hl:l.length=80)(hg:goodM (enMm e)=false):Calls Tryz.prog 33 #[encV e s,v] w (LisE w (encE e l)):=by
 have L0:=hide (LisS.new w e s)
 have HE:=hide he
 have CE:=hide (encC_len he s)
 have AE:=hide (BlkE.all s he)
 have ZC:=hide (encC_len (zeros_len 225) false)
 have hz:=zero_enc
 have hno:¬enOk e l:=fun k=>by have:=k.2.1;rw[hg]at this;cases this
 have F:=hide (show ∀m w',m.length=225→w.grownBy w' none→LisE w (encE e l) (.returned (.tuple #[encV m s,.agg (arrI (zeros 8)),.int .i64 2])) w' from fun m w' hm q=>⟨m,s,hm,by rw[enc_err hno hl],q⟩)
 obtain⟨al,cl,rfl⟩:=shp_pos hi (by omega)
 have HI:=hide (fun wr (g:w.grownBy wr none)=>Ints_keep hi g)
 rw[hl]at HI ⊢
 have HL:=hide hl
 have GD:=hide (fun wr=>conGood_any (enMm e) s (prt_len _ _ _) wr)
 rw[hg]at GD
 have PM:=hide (encC_mem s he)
 rw[show prt e 124 101=enMm e from rfl]at PM
 clear hno hl hg
 generalize LisE w (encE e l)=T at *
 unfold memV at GD
 unfold encV at hz ⊢
 go_enter Tryz.func33,Tryz.ntmps33
 go_upto_region 2 with fail
 generalize (((w.alloc (.cells (encC e s).toArray 55)).alloc (.cells (encC (zeros 225) false).toArray 55)).alloc (.cells #[.int .i64 0,.int .i64 0,.int .i64 0,.int .i64 0,.int .i64 0,.int .i64 0,.int .i64 0,.int .i64 0] 50)).alloc (.cells #[.int .i64 0,.int .i64 0,.int .i64 0,.int .i64 0,.int .i64 0,.int .i64 0,.int .i64 0,.int .i64 0] 50)=W0 at *
 clear hz
 go_wp2_with (first|refine wpList_load_v rfl 53 _ rfl w.heap.size 124 102 rfl 55 (encC e s) L0.out.1 _ Tryz.underlying53 rfl size102 (by rw[CE.out];omega) _ PM.out ?_)
 refine(GD.out W0).mono ?_
 rintro x W1 ⟨rfl,g1⟩
 have L1:=hide (L0.out.keep g1)
 clear L0 g1 GD
 have LE1:=hide (show(e).length=225 from HE.out)
 have CE1:=hide (encC_len LE1.out s)
 have AE1:=hide (BlkE.all s LE1.out)
 have QL:=hide (zeros_len 8)
 have NQ:=hide (Nat.le_refl (w.heap.size+1+1+1))
 have LS:=L1
 replace F:=hide (fun w' q=>F.out _ w' LE1.out q)
 unfold encV at F
 go_upto_region 5 with fail
 refine wp_region_held_drew (S:=fun u=>BlkE u w.heap.size (e) s∧Blk u (w.heap.size+1+1+1) 50 (zeros 8)) (by kernel_rfl) ⟨LS.out.1.keep (gw_start _),LS.out.2.2.2.1.keep (gw_start _)⟩ (fun hHeld=>?_)
 refine wpAnyH_take (i:=0) (v:=.agg (encC (e) s).toArray) rfl (by kernel_rfl) (by kernel_rfl) (by kernel_rfl) (fun _ _ _ h=>h) (Or.inl ⟨by rfl,?ylb0⟩) hHeld ?rlb0
 case ylb0=>(intro w' hSw;exact yields_load_v rfl rfl hSw.1 _ Tryz.underlying55 rfl size226 (by rw[CE1.out];omega) _ AE1.out)
 (try simp only[Act.put,sL])
 refine wpAnyH_take (i:=1) (v:=.agg (arrI (zeros 8))) rfl (by kernel_rfl) (by kernel_rfl) (by kernel_rfl) (fun _ _ _ h=>h) (Or.inl ⟨by rfl,?ylb1⟩) hHeld ?rlb1
 case ylb1=>(intro w' hSw;exact yields_load_arr rfl rfl hSw.2 _ Tryz.underlying50 rfl (by rw[QL.out];exact size8))
 (try simp only[Act.put,sL])
 refine wpAnyH_ready (rs:=[2]) (by kernel_rfl) (by simp) (AllReadyH.cons rfl (fun K hK=>?_) AllReadyH.nil)
 (try simp only[Act.put,sL])
 have LD:=hide (LS.out.keep (gw_start _))
 have PU:=LD.out.2.1.putAll (m:=(e)) (t:=s) (zeros_len 225) LE1.out
 have R1:=hide (LD.out.2.2.1.keepBut PU.2 (by omega))
 have P1:=hide PU.1
 have G1:=hide (grown_own LD.out.2.2.2.2 PU.2 (by omega))
 have HS1:=And.intro (hHeld.1.keepBut PU.2 (by omega)) (hHeld.2.keepBut PU.2 (by have:=NQ.out;omega))
 clear PU
 refine step_store_v rfl 55 _ _ rfl (w.heap.size+1) 0 55 (encC (zeros 225) false) (encC (e) s) rfl rfl LD.out.2.1 (by rw[ZC.out,CE1.out];omega) (by rw[CE1.out];exact size226) (encC_one _ _) ?_
 refine hK.out _ _ HS1 (fun hHeld=>?_)
 clear hK
 (try simp only[Act.put,sL])
 clear LD HS1
 generalize putV _ (w.heap.size+1) 0 (encC (e) s)=wa at *
 refine wpAnyH_ready (rs:=[3]) (by kernel_rfl) (by simp) (AllReadyH.cons rfl (fun K hK=>?_) AllReadyH.nil)
 (try simp only[Act.put,sL])
 have PU:=put_arr (rs':=(zeros 8)) R1.out (QL.out.trans (zeros_len 8).symm)
 have R2:=hide PU.1
 have P2:=hide (P1.out.keepBut PU.2 (by omega))
 have G2:=hide (grown_own G1.out PU.2 (by omega))
 have HS2:=And.intro (hHeld.1.keepBut PU.2 (by omega)) (hHeld.2.keepBut PU.2 (by have:=NQ.out;omega))
 clear PU
 refine step_store_arr rfl 50 _ _ rfl (w.heap.size+1+1) (zeros 8) (zeros 8) rfl rfl R1.out (QL.out.trans (zeros_len 8).symm) (by rw[zeros_len];exact size8) ?_
 refine hK.out _ _ HS2 (fun hHeld=>?_)
 clear hK
 (try simp only[Act.put,sL])
 clear HS2 R1 P1 G1
 generalize putArr wa (w.heap.size+1+1) (zeros 8)=wb at *
 refine wpAnyH_take (i:=4) (v:=?vlb4) rfl (by kernel_rfl) (by kernel_rfl) (by kernel_rfl) (fun _ _ _ h=>h) (Or.inl ⟨by rfl,?ylb4⟩) hHeld ?rlb4
 case ylb4=>(intro w' hSw;go_simp;(try with_reducible rfl))
 (try simp only[Act.put,sL])
 refine wpAnyH_done (by kernel_rfl) ?_ _
 clear hHeld
 have FF:=hide (F.out _ G2.out)
 clear F
 have hlv:=loadVar_v P2.out _ Tryz.underlying55 rfl (by rw[CE1.out];exact size226)
 have hlw:=loadVar_arr R2.out _ Tryz.underlying50 rfl (by rw[QL.out];exact size8)
 go_wp2_with fail
 refine bodyPost_ret (v:=.tuple #[.agg (encC (e) s).toArray,.agg (arrI (zeros 8)),.int .i64 2]) ?_ rfl FF.out
 simp[results,Tryz.results33,asAddr,Act.put,hlv,hlw]
set_option maxRecDepth 100000 in
theorem codListened_high (w:World)(e:List Int)(s:Bool)(he:e.length=225)(v:Value)(l:List Int)(hi:Ints w v l)(hsz:l.length*8≤140737488351232)(hl:l.length=80)(hg:goodM (enMm e)=true)(hh:enHE e l=false):Calls Tryz.prog 33 #[encV e s,v] w (LisE w (encE e l)):=by
 have L0:=hide (LisS.new w e s)
 have HE:=hide he
 have CE:=hide (encC_len he s)
 have AE:=hide (BlkE.all s he)
 have ZC:=hide (encC_len (zeros_len 225) false)
 have hz:=zero_enc
 have hno:¬enOk e l:=fun k=>by have:=k.2.2.1;rw[hh]at this;cases this
 have F:=hide (show ∀m w',m.length=225→w.grownBy w' none→LisE w (encE e l) (.returned (.tuple #[encV m s,.agg (arrI (zeros 8)),.int .i64 2])) w' from fun m w' hm q=>⟨m,s,hm,by rw[enc_err hno hl],q⟩)
 obtain⟨al,cl,rfl⟩:=shp_pos hi (by omega)
 have HI:=hide (fun wr (g:w.grownBy wr none)=>Ints_keep hi g)
 rw[hl]at HI ⊢
 have HL:=hide hl
 have GD:=hide (fun wr=>conGood_any (enMm e) s (prt_len _ _ _) wr)
 rw[hg]at GD
 have PM:=hide (encC_mem s he)
 rw[show prt e 124 101=enMm e from rfl]at PM
 have PH:=hide (show((encC e s).drop 0).take 4=intsV [nth e 0,nth e 1,nth e 2,nth e 3]from by
  rw[encC_part s 0 4 (by omega)];rfl)
 have HG:=hide (fun wr (h:Ints wr (.slice (some al) 80 cl) l)=>high_any (nth e 0) (nth e 1) (nth e 2) (nth e 3) (.slice (some al) 80 cl) l wr h (by omega))
 rw[show hiL (nth e 0) (nth e 1) (nth e 2) (nth e 3) l=enC e l from rfl]at HG
 unfold hiT at HG
 generalize hh0:hiM (nth e 0) (nth e 1) (nth e 2) (nth e 3) l 0=h0 at HG
 generalize hh1:hiM (nth e 0) (nth e 1) (nth e 2) (nth e 3) l 1=h1 at HG
 generalize hh2:hiM (nth e 0) (nth e 1) (nth e 2) (nth e 3) l 2=h2 at HG
 generalize hh3:hiM (nth e 0) (nth e 1) (nth e 2) (nth e 3) l 3=h3 at HG
 have hE:hiE (nth e 0) (nth e 1) (nth e 2) (nth e 3) l=2:=by unfold hiE;unfold enHE at hh;rw[if_neg (by rw[hh];decide)]
 rw[hE]at HG
 clear hno hl hg hh hE hh0 hh1 hh2 hh3
 generalize LisE w (encE e l)=T at *
 unfold memV at GD
 unfold encV at hz ⊢
 go_enter Tryz.func33,Tryz.ntmps33
 go_upto_region 2 with fail
 generalize (((w.alloc (.cells (encC e s).toArray 55)).alloc (.cells (encC (zeros 225) false).toArray 55)).alloc (.cells #[.int .i64 0,.int .i64 0,.int .i64 0,.int .i64 0,.int .i64 0,.int .i64 0,.int .i64 0,.int .i64 0] 50)).alloc (.cells #[.int .i64 0,.int .i64 0,.int .i64 0,.int .i64 0,.int .i64 0,.int .i64 0,.int .i64 0,.int .i64 0] 50)=W0 at *
 clear hz
 go_wp2_with (first|refine wpList_load_v rfl 53 _ rfl w.heap.size 124 102 rfl 55 (encC e s) L0.out.1 _ Tryz.underlying53 rfl size102 (by rw[CE.out];omega) _ PM.out ?_)
 refine(GD.out W0).mono ?_
 rintro x W1 ⟨rfl,g1⟩
 have L1:=hide (L0.out.keep g1)
 clear L0 g1 GD
 go_wp2_with (first|refine wpList_load_v rfl 48 _ rfl w.heap.size 0 4 rfl 55 (encC e s) L1.out.1 _ Tryz.underlying48 rfl size4h (by rw[CE.out];omega) _ PH.out ?_)
 refine(HG.out W1 (HI.out W1 L1.out.2.2.2.2)).mono ?_
 rintro x W2 ⟨vc,rfl,oc,g2⟩
 have L2:=hide ((L1.out.keep g2).keep (grown_alloc W2 (.cells #[.int .i64 h0,.int .i64 h1,.int .i64 h2,.int .i64 h3] 48) none))
 clear L1 g2 HG oc
 go_upto_region 7 with fail
 generalize W2.alloc (.cells #[.int .i64 h0,.int .i64 h1,.int .i64 h2,.int .i64 h3] 48)=W3 at *
 have LE1:=hide (show(e).length=225 from HE.out)
 have CE1:=hide (encC_len LE1.out s)
 have AE1:=hide (BlkE.all s LE1.out)
 have QL:=hide (zeros_len 8)
 have NQ:=hide (Nat.le_refl (w.heap.size+1+1+1))
 have LS:=L2
 replace F:=hide (fun w' q=>F.out _ w' LE1.out q)
 unfold encV at F
 go_upto_region 8 with fail
 refine wp_region_held_drew (S:=fun u=>BlkE u w.heap.size (e) s∧Blk u (w.heap.size+1+1+1) 50 (zeros 8)) (by kernel_rfl) ⟨LS.out.1.keep (gw_start _),LS.out.2.2.2.1.keep (gw_start _)⟩ (fun hHeld=>?_)
 refine wpAnyH_take (i:=0) (v:=.agg (encC (e) s).toArray) rfl (by kernel_rfl) (by kernel_rfl) (by kernel_rfl) (fun _ _ _ h=>h) (Or.inl ⟨by rfl,?ylc0⟩) hHeld ?rlc0
 case ylc0=>(intro w' hSw;exact yields_load_v rfl rfl hSw.1 _ Tryz.underlying55 rfl size226 (by rw[CE1.out];omega) _ AE1.out)
 (try simp only[Act.put,sL])
 refine wpAnyH_take (i:=1) (v:=.agg (arrI (zeros 8))) rfl (by kernel_rfl) (by kernel_rfl) (by kernel_rfl) (fun _ _ _ h=>h) (Or.inl ⟨by rfl,?ylc1⟩) hHeld ?rlc1
 case ylc1=>(intro w' hSw;exact yields_load_arr rfl rfl hSw.2 _ Tryz.underlying50 rfl (by rw[QL.out];exact size8))
 (try simp only[Act.put,sL])
 refine wpAnyH_take (i:=2) (v:=?vlc2) rfl (by kernel_rfl) (by kernel_rfl) (by kernel_rfl) (fun _ _ _ h=>h) (Or.inl ⟨by rfl,?ylc2⟩) hHeld ?rlc2
 case ylc2=>(intro w' hSw;go_simp;(try with_reducible rfl))
 (try simp only[Act.put,sL])
 refine wpAnyH_ready (rs:=[3]) (by kernel_rfl) (by simp) (AllReadyH.cons rfl (fun K hK=>?_) AllReadyH.nil)
 (try simp only[Act.put,sL])
 have LD:=hide (LS.out.keep (gw_start _))
 have PU:=LD.out.2.1.putAll (m:=(e)) (t:=s) (zeros_len 225) LE1.out
 have R1:=hide (LD.out.2.2.1.keepBut PU.2 (by omega))
 have P1:=hide PU.1
 have G1:=hide (grown_own LD.out.2.2.2.2 PU.2 (by omega))
 have HS1:=And.intro (hHeld.1.keepBut PU.2 (by omega)) (hHeld.2.keepBut PU.2 (by have:=NQ.out;omega))
 clear PU
 refine step_store_v rfl 55 _ _ rfl (w.heap.size+1) 0 55 (encC (zeros 225) false) (encC (e) s) rfl rfl LD.out.2.1 (by rw[ZC.out,CE1.out];omega) (by rw[CE1.out];exact size226) (encC_one _ _) ?_
 refine hK.out _ _ HS1 (fun hHeld=>?_)
 clear hK
 (try simp only[Act.put,sL])
 clear LD HS1
 generalize putV _ (w.heap.size+1) 0 (encC (e) s)=wa at *
 refine wpAnyH_ready (rs:=[4]) (by kernel_rfl) (by simp) (AllReadyH.cons rfl (fun K hK=>?_) AllReadyH.nil)
 (try simp only[Act.put,sL])
 have PU:=put_arr (rs':=(zeros 8)) R1.out (QL.out.trans (zeros_len 8).symm)
 have R2:=hide PU.1
 have P2:=hide (P1.out.keepBut PU.2 (by omega))
 have G2:=hide (grown_own G1.out PU.2 (by omega))
 have HS2:=And.intro (hHeld.1.keepBut PU.2 (by omega)) (hHeld.2.keepBut PU.2 (by have:=NQ.out;omega))
 clear PU
 refine step_store_arr rfl 50 _ _ rfl (w.heap.size+1+1) (zeros 8) (zeros 8) rfl rfl R1.out (QL.out.trans (zeros_len 8).symm) (by rw[zeros_len];exact size8) ?_
 refine hK.out _ _ HS2 (fun hHeld=>?_)
 clear hK
 (try simp only[Act.put,sL])
 clear HS2 R1 P1 G1
 generalize putArr wa (w.heap.size+1+1) (zeros 8)=wb at *
 refine wpAnyH_take (i:=5) (v:=?vlc5) rfl (by kernel_rfl) (by kernel_rfl) (by kernel_rfl) (fun _ _ _ h=>h) (Or.inl ⟨by rfl,?ylc5⟩) hHeld ?rlc5
 case ylc5=>(intro w' hSw;go_simp;(try with_reducible rfl))
 (try simp only[Act.put,sL])
 refine wpAnyH_done (by kernel_rfl) ?_ _
 clear hHeld
 have FF:=hide (F.out _ G2.out)
 clear F
 have hlv:=loadVar_v P2.out _ Tryz.underlying55 rfl (by rw[CE1.out];exact size226)
 have hlw:=loadVar_arr R2.out _ Tryz.underlying50 rfl (by rw[QL.out];exact size8)
 go_wp2_with fail
 refine bodyPost_ret (v:=.tuple #[.agg (encC (e) s).toArray,.agg (arrI (zeros 8)),.int .i64 2]) ?_ rfl FF.out
 simp[results,Tryz.results33,asAddr,Act.put,hlv,hlw]
set_option maxRecDepth 100000 in
theorem codListened_corr (w:World)(e:List Int)(s:Bool)(he:e.length=225)(v:Value)(l:List Int)(hi:Ints w v l)(hsz:l.length*8≤140737488351232)(hl:l.length=80)(hg:goodM (enMm e)=true)(hh:enHE e l=true)(hc:rightB (enI e l)=false):Calls Tryz.prog 33 #[encV e s,v] w (LisE w (encE e l)):=by
 have L0:=hide (LisS.new w e s)
 have HE:=hide he
 have CE:=hide (encC_len he s)
 have AE:=hide (BlkE.all s he)
 have ZC:=hide (encC_len (zeros_len 225) false)
 have hz:=zero_enc
 have hno:¬enOk e l:=fun k=>by have:=k.2.2.2;rw[hc]at this;cases this
 have F:=hide (show ∀m w',m.length=225→w.grownBy w' none→LisE w (encE e l) (.returned (.tuple #[encV m s,.agg (arrI (zeros 8)),.int .i64 2])) w' from fun m w' hm q=>⟨m,s,hm,by rw[enc_err hno hl],q⟩)
 have CLN:=hide (show(enC e l).length=80 from(enC_len hh).trans hl)
 have ILN:=hide (enI_len hl hh)
 obtain⟨al,cl,rfl⟩:=shp_pos hi (by omega)
 have HI:=hide (fun wr (g:w.grownBy wr none)=>Ints_keep hi g)
 rw[hl]at HI ⊢
 have HL:=hide hl
 have GD:=hide (fun wr=>conGood_any (enMm e) s (prt_len _ _ _) wr)
 rw[hg]at GD
 have PM:=hide (encC_mem s he)
 rw[show prt e 124 101=enMm e from rfl]at PM
 have PH:=hide (show((encC e s).drop 0).take 4=intsV [nth e 0,nth e 1,nth e 2,nth e 3]from by
  rw[encC_part s 0 4 (by omega)];rfl)
 have HG:=hide (fun wr (h:Ints wr (.slice (some al) 80 cl) l)=>high_any (nth e 0) (nth e 1) (nth e 2) (nth e 3) (.slice (some al) 80 cl) l wr h (by omega))
 rw[show hiL (nth e 0) (nth e 1) (nth e 2) (nth e 3) l=enC e l from rfl]at HG
 unfold hiT at HG
 generalize hh0:hiM (nth e 0) (nth e 1) (nth e 2) (nth e 3) l 0=h0 at HG
 generalize hh1:hiM (nth e 0) (nth e 1) (nth e 2) (nth e 3) l 1=h1 at HG
 generalize hh2:hiM (nth e 0) (nth e 1) (nth e 2) (nth e 3) l 2=h2 at HG
 generalize hh3:hiM (nth e 0) (nth e 1) (nth e 2) (nth e 3) l 3=h3 at HG
 have hE:hiE (nth e 0) (nth e 1) (nth e 2) (nth e 3) l=0:=by unfold hiE;unfold enHE at hh;rw[if_pos hh]
 rw[hE]at HG
 have CO:=hide (fun v wr (h:Ints wr v (enI e l))=>fcorr_range v (enI e l) wr h ILN.out hc)
 obtain⟨e1,he1⟩:∃e1,ovr e 0 [h0,h1,h2,h3]=e1:=⟨_,rfl⟩
 have le1:e1.length=225:=by rw[←he1,ovr_len];exact he
 obtain⟨e2,he2⟩:∃e2,ovr e1 4 (prt e 84 40)=e2:=⟨_,rfl⟩
 have le2:e2.length=225:=by rw[←he2,ovr_len];exact le1
 obtain⟨e3,he3⟩:∃e3,ovr e2 44 (enC e l)=e3:=⟨_,rfl⟩
 have le3:e3.length=225:=by rw[←he3,ovr_len];exact le2
 have EE1:=hide he1
 have CE1':=hide (encC_len le1 s)
 have S84:=hide (show ∀j,j<40→(encC e1 s)[84+j]?=some (.int .i64 (nth (prt e 84 40) j))from fun j hj=>by
  unfold encC
  rw[mixC_get _ _ _ (by omega),prt_nth _ _ _ _ hj,←he1,ovr_nth _ _ _ _ (by omega),if_neg (fun k=>by have:=k.2;simp at this;omega)])
 have E2:=hide (show splV (encC e1 s) 4 (intsV (prt e 84 40))=encC e2 s from by unfold encC;rw[mixC_spl _ _ _ _ (by rw[prt_len];omega),he2])
 have CE2:=hide (encC_len le2 s)
 have E3:=hide (show splV (encC e2 s) 44 (intsV (enC e l))=encC e3 s from by unfold encC;rw[mixC_spl _ _ _ _ (by rw[CLN.out];omega),he3])
 have LE3:=hide le3
 have EI:=hide (show prt e3 4 120=enI e l from by
  refine(tab_ext ILN.out (fun i hi=>?_)).symm
  rw[←he3,ovr_nth _ _ _ _ (by omega),CLN.out,←he2]
  unfold enI
  by_cases h:i<40
  ·rw[if_neg (by omega),ovr_nth _ _ _ _ (by omega),prt_len,if_pos (by omega),nth_app_l _ _ _ (by rw[prt_len];exact h),Nat.add_sub_cancel_left]
  ·rw[if_pos (by omega),nth_app_r _ _ _ (by rw[prt_len];omega),prt_len,show 4+i-44=i-40 by omega])
 clear hno hl hg hh hE hc hh0 hh1 hh2 hh3 he1 he2 he3 le1 le2 le3 he
 generalize LisE w (encE e l)=T at *
 unfold memV at GD
 unfold encV at hz ⊢
 go_enter Tryz.func33,Tryz.ntmps33
 go_upto_region 2 with fail
 generalize (((w.alloc (.cells (encC e s).toArray 55)).alloc (.cells (encC (zeros 225) false).toArray 55)).alloc (.cells #[.int .i64 0,.int .i64 0,.int .i64 0,.int .i64 0,.int .i64 0,.int .i64 0,.int .i64 0,.int .i64 0] 50)).alloc (.cells #[.int .i64 0,.int .i64 0,.int .i64 0,.int .i64 0,.int .i64 0,.int .i64 0,.int .i64 0,.int .i64 0] 50)=W0 at *
 clear hz
 go_wp2_with (first|refine wpList_load_v rfl 53 _ rfl w.heap.size 124 102 rfl 55 (encC e s) L0.out.1 _ Tryz.underlying53 rfl size102 (by rw[CE.out];omega) _ PM.out ?_)
 refine(GD.out W0).mono ?_
 rintro x W1 ⟨rfl,g1⟩
 have L1:=hide (L0.out.keep g1)
 clear L0 g1 GD
 go_wp2_with (first|refine wpList_load_v rfl 48 _ rfl w.heap.size 0 4 rfl 55 (encC e s) L1.out.1 _ Tryz.underlying48 rfl size4h (by rw[CE.out];omega) _ PH.out ?_)
 refine(HG.out W1 (HI.out W1 L1.out.2.2.2.2)).mono ?_
 rintro x W2 ⟨vc,rfl,oc,g2⟩
 have L3:=hide ((L1.out.keep g2).keep (grown_alloc W2 (.cells #[.int .i64 h0,.int .i64 h1,.int .i64 h2,.int .i64 h3] 48) none))
 have BH:=hide (show BlkV (W2.alloc (.cells #[.int .i64 h0,.int .i64 h1,.int .i64 h2,.int .i64 h3] 48)) W2.heap.size 48 (intsV [h0,h1,h2,h3])from BlkV.new W2 48 (intsV [h0,h1,h2,h3]))
 have N2:=hide (show w.heap.size+1+1+1+1≤W2.heap.size from(L1.out.keep g2).2.2.2.1.lt)
 have OC3:=hide ((oc.base (b':=w.heap.size+1+1+1+1) (show w.heap.size+1+1+1+1≤W1.heap.size from L1.out.2.2.2.1.lt)).keep (grown_alloc W2 (.cells #[.int .i64 h0,.int .i64 h1,.int .i64 h2,.int .i64 h3] 48) none))
 obtain⟨ac,cc,rfl,_,_,_⟩:=oc.form (by rw[CLN.out];omega)
 rw[CLN.out]at OC3 ⊢
 clear L1 g2 HG oc
 go_upto_region 7 with fail
 generalize W2.alloc (.cells #[.int .i64 h0,.int .i64 h1,.int .i64 h2,.int .i64 h3] 48)=W3 at *
 generalize W2.heap.size=bh at *
 go_upto_region 9 with fail
 have I_:=hide (intsV_one [h0,h1,h2,h3])
 have PU:=L3.out.putE 0 [h0,h1,h2,h3] (by rw[HE.out];show 0+4≤225;omega)
 have L4:=hide PU.1
 have OC:=hide (OC3.out.keepLt PU.2 (by omega))
 rw[EE1.out]at L4
 clear PU OC3
 go_upto_region 10 with(first|refine wpList_load_v rfl 48 _ rfl bh 0 4 rfl 48 (intsV [h0,h1,h2,h3]) BH.out _ Tryz.underlying48 rfl size4h (by rw[intsV_len];exact Nat.le_refl _) _ rfl ?_|refine wpList_store_v rfl 48 _ _ rfl w.heap.size 0 55 (encC e s) (intsV [h0,h1,h2,h3]) rfl rfl L3.out.1 (by rw[CE.out,intsV_len];show 0+4≤226;omega) (by rw[intsV_len];exact size4h) I_.out ?_)
 (try simp only[Act.put])
 clear L3 BH I_
 generalize putV W3 w.heap.size 0 (intsV [h0,h1,h2,h3])=W4 at *
 refine wp_region_held_drew (S:=fun u=>True) (by kernel_rfl) trivial (fun hHeld=>?_)
 refine wpAnyH_take (i:=0) (v:=?vlx0) rfl (by kernel_rfl) (by kernel_rfl) (by kernel_rfl) (fun _ _ _ h=>h) (Or.inl ⟨by rfl,?ylx0⟩) hHeld ?rlx0
 case ylx0=>(intro w' hSw;go_simp;(try with_reducible rfl))
 (try simp only[Act.put,sL])
 refine wpAnyH_take (i:=1) (v:=?vlx1) rfl (by kernel_rfl) (by kernel_rfl) (by kernel_rfl) (fun _ _ _ h=>h) (Or.inl ⟨by rfl,?ylx1⟩) hHeld ?rlx1
 case ylx1=>(intro w' hSw;go_simp;(try with_reducible rfl))
 (try simp only[Act.put,sL])
 refine wpAnyH_take (i:=2) (v:=?vlx2) rfl (by kernel_rfl) (by kernel_rfl) (by kernel_rfl) (fun _ _ _ h=>h) (Or.inl ⟨by rfl,?ylx2⟩) hHeld ?rlx2
 case ylx2=>(intro w' hSw;go_simp;(try with_reducible rfl))
 (try simp only[Act.put,sL])
 refine wpAnyH_take (i:=3) (v:=?vlx3) rfl (by kernel_rfl) (by kernel_rfl) (by kernel_rfl) (fun _ _ _ h=>h) (Or.inl ⟨by rfl,?ylx3⟩) hHeld ?rlx3
 case ylx3=>(intro w' hSw;go_simp;(try with_reducible rfl))
 (try simp only[Act.put,sL])
 refine wpAnyH_ready (rs:=[4]) (by kernel_rfl) (by simp) (AllReadyH.cons rfl (fun K hK=>?_) AllReadyH.nil)
 (try simp only[Act.put,sL])
 have LD:=hide (L4.out.keep (gw_start W4))
 refine step_copyV rfl _ _ rfl w.heap.size 4 120 40 120 40 55 (encC e1 s) (prt e 84 40) ⟨w.heap.size,84,none⟩ LD.out.1 rfl rfl (prt_len _ _ _) (by omega) (fun j hj=>by rw[Addr.add_mid];have cc:=BlkV.cell LD.out.1 (84+j);rw[cc];have:=S84.out j hj;exact this) (by rw[CE1'.out];omega) ?_
 intro w5 b5 g5
 rw[E2.out]at b5
 have L5:=hide (LD.out.sess b5 g5)
 have O5:=hide ((OC.out.keep (gw_start W4)).keepLt g5 (by omega))
 clear b5 LD
 refine hK.out _ _ trivial (fun hHeld=>?_)
 clear hK
 (try simp only[Act.put,sL])
 clear L4 OC g5
 refine wpAnyH_take (i:=5) (v:=?vlx5) rfl (by kernel_rfl) (by kernel_rfl) (by kernel_rfl) (fun _ _ _ h=>h) (Or.inl ⟨by rfl,?ylx5⟩) hHeld ?rlx5
 case ylx5=>(intro w' hSw;go_simp;(try with_reducible rfl))
 (try simp only[Act.put,sL])
 refine wpAnyH_done (by kernel_rfl) ?_ _
 clear hHeld
 go_upto_region 11 with fail
 have IC5:=hide O5.out.ints
 have HAC:=hide (ints_some IC5.out).2.2
 go_wp2_with (refine wpList_copyV rfl _ _ rfl w.heap.size 44 80 80 80 cc 55 (encC e2 s) (enC e l) ⟨ac,0,none⟩ L5.out.1 rfl rfl CLN.out (by omega) (fun j hj=>HAC.out j (by rw[CLN.out];exact hj)) (by rw[CE2.out];omega) ?_)
 intro w6 b6 g6
 rw[E3.out]at b6
 have L6:=hide (L5.out.sess b6 g6)
 clear L5 O5 IC5 HAC b6 g6
 go_upto_region 12 with fail
 have IN6:=hide (L6.out.1.input 4 120 120 (by rw[LE3.out];omega) (by omega))
 rw[EI.out]at IN6
 go_wp2_with fail
 refine(CO.out _ _ IN6.out).mono ?_
 rintro x W7 ⟨rfl,g7⟩
 rw[show zeroAgg=.agg (arrI (zeros 9))from rfl]
 obtain⟨b1,b2,b3⟩:=fresh_arr W7 95 9 (zeros 9) (zeros_len 9)
 have B1:=hide b1
 have L8:=hide ((L6.out.keep g7).keep b3)
 rw[z9']at B1 L8
 clear g7 CO b1 b2 b3 L6 IN6
 have SZ9:=hide (show(Tryz.prog.info? 95).map (·.size)=some (zeros 9).length by rw[zeros_len];exact size9')
 generalize zeros 9=Z9 at *
 go_upto_region 13 with(first|refine wpList_store_arr rfl 95 _ _ rfl _ Z9 Z9 rfl rfl B1.out rfl SZ9.out ?_)
 (try simp only[Act.put])
 clear B1
 generalize putArr _ W7.heap.size Z9=W8 at *
 have LE1:=hide (show(e3).length=225 from LE3.out)
 have CE1:=hide (encC_len LE1.out s)
 have AE1:=hide (BlkE.all s LE1.out)
 have QL:=hide (zeros_len 8)
 have NQ:=hide (Nat.le_refl (w.heap.size+1+1+1))
 have LS:=L8
 replace F:=hide (fun w' q=>F.out _ w' LE1.out q)
 unfold encV at F
 go_upto_region 14 with fail
 refine wp_region_held_drew (S:=fun u=>BlkE u w.heap.size (e3) s∧Blk u (w.heap.size+1+1+1) 50 (zeros 8)) (by kernel_rfl) ⟨LS.out.1.keep (gw_start _),LS.out.2.2.2.1.keep (gw_start _)⟩ (fun hHeld=>?_)
 refine wpAnyH_take (i:=0) (v:=.agg (encC (e3) s).toArray) rfl (by kernel_rfl) (by kernel_rfl) (by kernel_rfl) (fun _ _ _ h=>h) (Or.inl ⟨by rfl,?yld0⟩) hHeld ?rld0
 case yld0=>(intro w' hSw;exact yields_load_v rfl rfl hSw.1 _ Tryz.underlying55 rfl size226 (by rw[CE1.out];omega) _ AE1.out)
 (try simp only[Act.put,sL])
 refine wpAnyH_take (i:=1) (v:=.agg (arrI (zeros 8))) rfl (by kernel_rfl) (by kernel_rfl) (by kernel_rfl) (fun _ _ _ h=>h) (Or.inl ⟨by rfl,?yld1⟩) hHeld ?rld1
 case yld1=>(intro w' hSw;exact yields_load_arr rfl rfl hSw.2 _ Tryz.underlying50 rfl (by rw[QL.out];exact size8))
 (try simp only[Act.put,sL])
 refine wpAnyH_take (i:=2) (v:=?vld2) rfl (by kernel_rfl) (by kernel_rfl) (by kernel_rfl) (fun _ _ _ h=>h) (Or.inl ⟨by rfl,?yld2⟩) hHeld ?rld2
 case yld2=>(intro w' hSw;go_simp;(try with_reducible rfl))
 (try simp only[Act.put,sL])
 refine wpAnyH_ready (rs:=[3]) (by kernel_rfl) (by simp) (AllReadyH.cons rfl (fun K hK=>?_) AllReadyH.nil)
 (try simp only[Act.put,sL])
 have LD:=hide (LS.out.keep (gw_start _))
 have PU:=LD.out.2.1.putAll (m:=(e3)) (t:=s) (zeros_len 225) LE1.out
 have R1:=hide (LD.out.2.2.1.keepBut PU.2 (by omega))
 have P1:=hide PU.1
 have G1:=hide (grown_own LD.out.2.2.2.2 PU.2 (by omega))
 have HS1:=And.intro (hHeld.1.keepBut PU.2 (by omega)) (hHeld.2.keepBut PU.2 (by have:=NQ.out;omega))
 clear PU
 refine step_store_v rfl 55 _ _ rfl (w.heap.size+1) 0 55 (encC (zeros 225) false) (encC (e3) s) rfl rfl LD.out.2.1 (by rw[ZC.out,CE1.out];omega) (by rw[CE1.out];exact size226) (encC_one _ _) ?_
 refine hK.out _ _ HS1 (fun hHeld=>?_)
 clear hK
 (try simp only[Act.put,sL])
 clear LD HS1
 generalize putV _ (w.heap.size+1) 0 (encC (e3) s)=wa at *
 refine wpAnyH_ready (rs:=[4]) (by kernel_rfl) (by simp) (AllReadyH.cons rfl (fun K hK=>?_) AllReadyH.nil)
 (try simp only[Act.put,sL])
 have PU:=put_arr (rs':=(zeros 8)) R1.out (QL.out.trans (zeros_len 8).symm)
 have R2:=hide PU.1
 have P2:=hide (P1.out.keepBut PU.2 (by omega))
 have G2:=hide (grown_own G1.out PU.2 (by omega))
 have HS2:=And.intro (hHeld.1.keepBut PU.2 (by omega)) (hHeld.2.keepBut PU.2 (by have:=NQ.out;omega))
 clear PU
 refine step_store_arr rfl 50 _ _ rfl (w.heap.size+1+1) (zeros 8) (zeros 8) rfl rfl R1.out (QL.out.trans (zeros_len 8).symm) (by rw[zeros_len];exact size8) ?_
 refine hK.out _ _ HS2 (fun hHeld=>?_)
 clear hK
 (try simp only[Act.put,sL])
 clear HS2 R1 P1 G1
 generalize putArr wa (w.heap.size+1+1) (zeros 8)=wb at *
 refine wpAnyH_take (i:=5) (v:=?vld5) rfl (by kernel_rfl) (by kernel_rfl) (by kernel_rfl) (fun _ _ _ h=>h) (Or.inl ⟨by rfl,?yld5⟩) hHeld ?rld5
 case yld5=>(intro w' hSw;go_simp;(try with_reducible rfl))
 (try simp only[Act.put,sL])
 refine wpAnyH_done (by kernel_rfl) ?_ _
 clear hHeld
 have FF:=hide (F.out _ G2.out)
 clear F
 have hlv:=loadVar_v P2.out _ Tryz.underlying55 rfl (by rw[CE1.out];exact size226)
 have hlw:=loadVar_arr R2.out _ Tryz.underlying50 rfl (by rw[QL.out];exact size8)
 go_wp2_with fail
 refine bodyPost_ret (v:=.tuple #[.agg (encC (e3) s).toArray,.agg (arrI (zeros 8)),.int .i64 2]) ?_ rfl FF.out
 simp[results,Tryz.results33,asAddr,Act.put,hlv,hlw]
set_option maxRecDepth 100000 in
theorem codListened_yes (w:World)(e:List Int)(s:Bool)(he:e.length=225)(v:Value)(l:List Int)(hi:Ints w v l)(hsz:l.length*8≤140737488351232)(hW:Wide w)(hk:enOk e l):Calls Tryz.prog 33 #[encV e s,v] w fun x w'=>x=.returned (.tuple #[encV (enHp e l++(enI e l++enMm e)) s,.agg (arrI (enQ e l)),.int .i64 0])∧w.grownBy w' none:=by
 have L0:=hide (LisS.new w e s)
 have HE:=hide he
 have CE:=hide (encC_len he s)
 have AE:=hide (BlkE.all s he)
 have ZC:=hide (encC_len (zeros_len 225) false)
 have hz:=zero_enc
 obtain⟨hl,hg,hh,hc⟩:=hk
 have CLN:=hide (show(enC e l).length=80 from(enC_len hh).trans hl)
 have ILN:=hide (enI_len hl hh)
 obtain⟨al,cl,rfl⟩:=shp_pos hi (by omega)
 have HI:=hide (fun wr (g:w.grownBy wr none)=>Ints_keep hi g)
 rw[hl]at HI ⊢
 have HL:=hide hl
 have GD:=hide (fun wr=>conGood_any (enMm e) s (prt_len _ _ _) wr)
 rw[hg]at GD
 have PM:=hide (encC_mem s he)
 rw[show prt e 124 101=enMm e from rfl]at PM
 have PH:=hide (show((encC e s).drop 0).take 4=intsV [nth e 0,nth e 1,nth e 2,nth e 3]from by
  rw[encC_part s 0 4 (by omega)];rfl)
 have HG:=hide (fun wr (h:Ints wr (.slice (some al) 80 cl) l)=>high_any (nth e 0) (nth e 1) (nth e 2) (nth e 3) (.slice (some al) 80 cl) l wr h (by omega))
 rw[show hiL (nth e 0) (nth e 1) (nth e 2) (nth e 3) l=enC e l from rfl]at HG
 unfold hiT at HG
 generalize hh0:hiM (nth e 0) (nth e 1) (nth e 2) (nth e 3) l 0=h0 at HG
 generalize hh1:hiM (nth e 0) (nth e 1) (nth e 2) (nth e 3) l 1=h1 at HG
 generalize hh2:hiM (nth e 0) (nth e 1) (nth e 2) (nth e 3) l 2=h2 at HG
 generalize hh3:hiM (nth e 0) (nth e 1) (nth e 2) (nth e 3) l 3=h3 at HG
 have hE:hiE (nth e 0) (nth e 1) (nth e 2) (nth e 3) l=0:=by unfold hiE;unfold enHE at hh;rw[if_pos hh]
 rw[hE]at HG
 have CO:=hide (fun v wr (h:Ints wr v (enI e l))=>fcorr_one v (enI e l) wr h ILN.out hc)
 have RL:=hide (corL_len (enI e l))
 have LV:=hide (fun wr=>levinson_any (corL (enI e l)) (corL_len _) wr)
 have KL:=hide (levK_len (corL (enI e l)))
 have QA:=hide (fun wr (g:w.grownBy wr none)=>All_any (levK (corL (enI e l))) (levK_len _) wr (Wide_keep hW g))
 rw[(eachOne _ (lev_q (corL (enI e l)))).1,(eachOne _ (lev_q (corL (enI e l)))).2]at QA
 rw[show quL (levK (corL (enI e l)))=enQ e l from rfl]at QA
 have QL:=hide (show(enQ e l).length=8 from quL_len _)
 obtain⟨e1,he1⟩:∃e1,ovr e 0 [h0,h1,h2,h3]=e1:=⟨_,rfl⟩
 have le1:e1.length=225:=by rw[←he1,ovr_len];exact he
 obtain⟨e2,he2⟩:∃e2,ovr e1 4 (prt e 84 40)=e2:=⟨_,rfl⟩
 have le2:e2.length=225:=by rw[←he2,ovr_len];exact le1
 obtain⟨e3,he3⟩:∃e3,ovr e2 44 (enC e l)=e3:=⟨_,rfl⟩
 have le3:e3.length=225:=by rw[←he3,ovr_len];exact le2
 have EE1:=hide he1
 have CE1':=hide (encC_len le1 s)
 have S84:=hide (show ∀j,j<40→(encC e1 s)[84+j]?=some (.int .i64 (nth (prt e 84 40) j))from fun j hj=>by
  unfold encC
  rw[mixC_get _ _ _ (by omega),prt_nth _ _ _ _ hj,←he1,ovr_nth _ _ _ _ (by omega),if_neg (fun k=>by have:=k.2;simp at this;omega)])
 have E2:=hide (show splV (encC e1 s) 4 (intsV (prt e 84 40))=encC e2 s from by unfold encC;rw[mixC_spl _ _ _ _ (by rw[prt_len];omega),he2])
 have CE2:=hide (encC_len le2 s)
 have E3:=hide (show splV (encC e2 s) 44 (intsV (enC e l))=encC e3 s from by unfold encC;rw[mixC_spl _ _ _ _ (by rw[CLN.out];omega),he3])
 have LE3:=hide le3
 have EI:=hide (show prt e3 4 120=enI e l from by
  refine(tab_ext ILN.out (fun i hi=>?_)).symm
  rw[←he3,ovr_nth _ _ _ _ (by omega),CLN.out,←he2]
  unfold enI
  by_cases h:i<40
  ·rw[if_neg (by omega),ovr_nth _ _ _ _ (by omega),prt_len,if_pos (by omega),nth_app_l _ _ _ (by rw[prt_len];exact h),Nat.add_sub_cancel_left]
  ·rw[if_pos (by omega),nth_app_r _ _ _ (by rw[prt_len];omega),prt_len,show 4+i-44=i-40 by omega])
 have EF:e3=enHp e l++(enI e l++enMm e):=by
  have mm:(enMm e).length=101:=prt_len _ _ _
  have hp:enHp e l=[h0,h1,h2,h3]:=by unfold enHp;rw[hh0,hh1,hh2,hh3]
  rw[hp]
  refine list_nth (by rw[le3,List.length_append,List.length_append,ILN.out,mm];rfl) (fun i hi=>?_)
  rw[le3]at hi
  by_cases h4:i<4
  ·rw[nth_app_l _ _ _ h4,←he3,ovr_nth _ _ _ _ (by omega),if_neg (by omega),←he2,ovr_nth _ _ _ _ (by omega),if_neg (by omega),←he1,ovr_nth _ _ _ _ (by omega),if_pos (by simp;omega),Nat.sub_zero]
  ·rw[nth_app_r _ _ _ (by simp;omega),show([h0,h1,h2,h3]:List Int).length=4 from rfl]
   by_cases h5:i<124
   ·rw[nth_app_l _ _ _ (by rw[ILN.out];omega),←EI.out,prt_nth _ _ _ _ (by omega),show 4+(i-4)=i by omega]
   ·rw[nth_app_r _ _ _ (by rw[ILN.out];omega),ILN.out]
    unfold enMm
    rw[prt_nth _ _ _ _ (by omega),show 124+(i-4-120)=i by omega,←he3,ovr_nth _ _ _ _ (by omega),CLN.out,if_neg (by omega),←he2,ovr_nth _ _ _ _ (by omega),prt_len,if_neg (by omega),←he1,ovr_nth _ _ _ _ (by omega),if_neg (fun k=>by have:=k.2;simp at this;omega)]
 have F:=hide (show ∀w',w.grownBy w' none→LisY w e s l (.returned (.tuple #[encV e3 s,.agg (arrI (enQ e l)),.int .i64 0])) w' from fun w' q=>⟨by rw[EF],q⟩)
 show Calls Tryz.prog 33 _ w (LisY w e s l)
 clear hl hg hh hE hc hh0 hh1 hh2 hh3 he1 he2 he3 le1 le2 le3 he EF hW
 generalize LisY w e s l=T at *
 generalize levE (corL (enI e l))=le at *
 generalize levG (corL (enI e l))=lg at *
 generalize levK (corL (enI e l))=KK at *
 generalize hcx:((corB (enI e l):Int)-31)=cx at CO
 clear hcx
 generalize corL (enI e l)=R at *
 generalize enQ e l=QQ at *
 unfold memV at GD
 unfold encV at hz F ⊢
 go_enter Tryz.func33,Tryz.ntmps33
 go_upto_region 2 with fail
 generalize (((w.alloc (.cells (encC e s).toArray 55)).alloc (.cells (encC (zeros 225) false).toArray 55)).alloc (.cells #[.int .i64 0,.int .i64 0,.int .i64 0,.int .i64 0,.int .i64 0,.int .i64 0,.int .i64 0,.int .i64 0] 50)).alloc (.cells #[.int .i64 0,.int .i64 0,.int .i64 0,.int .i64 0,.int .i64 0,.int .i64 0,.int .i64 0,.int .i64 0] 50)=W0 at *
 clear hz
 go_wp2_with (first|refine wpList_load_v rfl 53 _ rfl w.heap.size 124 102 rfl 55 (encC e s) L0.out.1 _ Tryz.underlying53 rfl size102 (by rw[CE.out];omega) _ PM.out ?_)
 refine(GD.out W0).mono ?_
 rintro x W1 ⟨rfl,g1⟩
 have L1:=hide (L0.out.keep g1)
 clear L0 g1 GD
 go_wp2_with (first|refine wpList_load_v rfl 48 _ rfl w.heap.size 0 4 rfl 55 (encC e s) L1.out.1 _ Tryz.underlying48 rfl size4h (by rw[CE.out];omega) _ PH.out ?_)
 refine(HG.out W1 (HI.out W1 L1.out.2.2.2.2)).mono ?_
 rintro x W2 ⟨vc,rfl,oc,g2⟩
 have L3:=hide ((L1.out.keep g2).keep (grown_alloc W2 (.cells #[.int .i64 h0,.int .i64 h1,.int .i64 h2,.int .i64 h3] 48) none))
 have BH:=hide (show BlkV (W2.alloc (.cells #[.int .i64 h0,.int .i64 h1,.int .i64 h2,.int .i64 h3] 48)) W2.heap.size 48 (intsV [h0,h1,h2,h3])from BlkV.new W2 48 (intsV [h0,h1,h2,h3]))
 have N2:=hide (show w.heap.size+1+1+1+1≤W2.heap.size from(L1.out.keep g2).2.2.2.1.lt)
 have OC3:=hide ((oc.base (b':=w.heap.size+1+1+1+1) (show w.heap.size+1+1+1+1≤W1.heap.size from L1.out.2.2.2.1.lt)).keep (grown_alloc W2 (.cells #[.int .i64 h0,.int .i64 h1,.int .i64 h2,.int .i64 h3] 48) none))
 obtain⟨ac,cc,rfl,_,_,_⟩:=oc.form (by rw[CLN.out];omega)
 rw[CLN.out]at OC3 ⊢
 clear L1 g2 HG oc
 go_upto_region 7 with fail
 generalize W2.alloc (.cells #[.int .i64 h0,.int .i64 h1,.int .i64 h2,.int .i64 h3] 48)=W3 at *
 generalize W2.heap.size=bh at *
 go_upto_region 9 with fail
 have I_:=hide (intsV_one [h0,h1,h2,h3])
 have PU:=L3.out.putE 0 [h0,h1,h2,h3] (by rw[HE.out];show 0+4≤225;omega)
 have L4:=hide PU.1
 have OC:=hide (OC3.out.keepLt PU.2 (by omega))
 rw[EE1.out]at L4
 clear PU OC3
 go_upto_region 10 with(first|refine wpList_load_v rfl 48 _ rfl bh 0 4 rfl 48 (intsV [h0,h1,h2,h3]) BH.out _ Tryz.underlying48 rfl size4h (by rw[intsV_len];exact Nat.le_refl _) _ rfl ?_|refine wpList_store_v rfl 48 _ _ rfl w.heap.size 0 55 (encC e s) (intsV [h0,h1,h2,h3]) rfl rfl L3.out.1 (by rw[CE.out,intsV_len];show 0+4≤226;omega) (by rw[intsV_len];exact size4h) I_.out ?_)
 (try simp only[Act.put])
 clear L3 BH I_
 generalize putV W3 w.heap.size 0 (intsV [h0,h1,h2,h3])=W4 at *
 refine wp_region_held_drew (S:=fun u=>True) (by kernel_rfl) trivial (fun hHeld=>?_)
 refine wpAnyH_take (i:=0) (v:=?vlx0) rfl (by kernel_rfl) (by kernel_rfl) (by kernel_rfl) (fun _ _ _ h=>h) (Or.inl ⟨by rfl,?ylx0⟩) hHeld ?rlx0
 case ylx0=>(intro w' hSw;go_simp;(try with_reducible rfl))
 (try simp only[Act.put,sL])
 refine wpAnyH_take (i:=1) (v:=?vlx1) rfl (by kernel_rfl) (by kernel_rfl) (by kernel_rfl) (fun _ _ _ h=>h) (Or.inl ⟨by rfl,?ylx1⟩) hHeld ?rlx1
 case ylx1=>(intro w' hSw;go_simp;(try with_reducible rfl))
 (try simp only[Act.put,sL])
 refine wpAnyH_take (i:=2) (v:=?vlx2) rfl (by kernel_rfl) (by kernel_rfl) (by kernel_rfl) (fun _ _ _ h=>h) (Or.inl ⟨by rfl,?ylx2⟩) hHeld ?rlx2
 case ylx2=>(intro w' hSw;go_simp;(try with_reducible rfl))
 (try simp only[Act.put,sL])
 refine wpAnyH_take (i:=3) (v:=?vlx3) rfl (by kernel_rfl) (by kernel_rfl) (by kernel_rfl) (fun _ _ _ h=>h) (Or.inl ⟨by rfl,?ylx3⟩) hHeld ?rlx3
 case ylx3=>(intro w' hSw;go_simp;(try with_reducible rfl))
 (try simp only[Act.put,sL])
 refine wpAnyH_ready (rs:=[4]) (by kernel_rfl) (by simp) (AllReadyH.cons rfl (fun K hK=>?_) AllReadyH.nil)
 (try simp only[Act.put,sL])
 have LD:=hide (L4.out.keep (gw_start W4))
 refine step_copyV rfl _ _ rfl w.heap.size 4 120 40 120 40 55 (encC e1 s) (prt e 84 40) ⟨w.heap.size,84,none⟩ LD.out.1 rfl rfl (prt_len _ _ _) (by omega) (fun j hj=>by rw[Addr.add_mid];have cc:=BlkV.cell LD.out.1 (84+j);rw[cc];have:=S84.out j hj;exact this) (by rw[CE1'.out];omega) ?_
 intro w5 b5 g5
 rw[E2.out]at b5
 have L5:=hide (LD.out.sess b5 g5)
 have O5:=hide ((OC.out.keep (gw_start W4)).keepLt g5 (by omega))
 clear b5 LD
 refine hK.out _ _ trivial (fun hHeld=>?_)
 clear hK
 (try simp only[Act.put,sL])
 clear L4 OC g5
 refine wpAnyH_take (i:=5) (v:=?vlx5) rfl (by kernel_rfl) (by kernel_rfl) (by kernel_rfl) (fun _ _ _ h=>h) (Or.inl ⟨by rfl,?ylx5⟩) hHeld ?rlx5
 case ylx5=>(intro w' hSw;go_simp;(try with_reducible rfl))
 (try simp only[Act.put,sL])
 refine wpAnyH_done (by kernel_rfl) ?_ _
 clear hHeld
 go_upto_region 11 with fail
 have IC5:=hide O5.out.ints
 have HAC:=hide (ints_some IC5.out).2.2
 go_wp2_with (refine wpList_copyV rfl _ _ rfl w.heap.size 44 80 80 80 cc 55 (encC e2 s) (enC e l) ⟨ac,0,none⟩ L5.out.1 rfl rfl CLN.out (by omega) (fun j hj=>HAC.out j (by rw[CLN.out];exact hj)) (by rw[CE2.out];omega) ?_)
 intro w6 b6 g6
 rw[E3.out]at b6
 have L6:=hide (L5.out.sess b6 g6)
 clear L5 O5 IC5 HAC b6 g6
 go_upto_region 12 with fail
 have IN6:=hide (L6.out.1.input 4 120 120 (by rw[LE3.out];omega) (by omega))
 rw[EI.out]at IN6
 go_wp2_with fail
 refine(CO.out _ _ IN6.out).mono ?_
 rintro x W7 ⟨rfl,g7⟩
 obtain⟨b1,b2,b3⟩:=fresh_arr W7 95 9 R RL.out
 have B1:=hide b1
 have B2:=hide b2
 have L8:=hide ((L6.out.keep g7).keep b3)
 rw[z9']at B1 B2 L8
 clear g7 CO b1 b2 b3 L6 IN6
 go_upto_region 13 with(first|refine wpList_store_arr rfl 95 _ _ rfl _ (zeros 9) R rfl rfl B1.out (by rw[RL.out,zeros_len]) (by rw[zeros_len];exact size9') ?_)
 (try simp only[Act.put])
 clear B1
 generalize putArr _ W7.heap.size R=W8 at *
 generalize W7.heap.size=b9 at *
 go_upto_region 15 with fail
 go_wp2_with (first|refine wpList_load_arr rfl 95 _ rfl _ rfl _ B2.out _ Tryz.underlying95 rfl (by rw[RL.out];exact size9') ?_)
 refine(LV.out _).mono ?_
 rintro x W9 ⟨rfl,g9⟩
 obtain⟨b1,b2,b3⟩:=fresh_arr W9 50 8 KK KL.out
 have B3:=hide b1
 have B4:=hide b2
 have L10:=hide ((L8.out.keep g9).keep b3)
 rw[z8']at B3 B4 L10
 clear g9 LV b1 b2 b3 L8 B2
 go_upto_region 16 with(first|refine wpList_store_arr rfl 50 _ _ rfl _ (zeros 8) KK rfl rfl B3.out (by rw[KL.out,zeros_len]) (by rw[zeros_len];exact size8) ?_)
 (try simp only[Act.put])
 clear B3
 generalize putArr _ W9.heap.size KK=W10 at *
 generalize W9.heap.size=b10 at *
 go_wp2_with (first|refine wpList_load_arr rfl 50 _ rfl _ rfl _ B4.out _ Tryz.underlying50 rfl (by rw[KL.out];exact size8) ?_)
 refine(QA.out _ L10.out.2.2.2.2).mono ?_
 rintro x W11 ⟨rfl,g11⟩
 obtain⟨b1,b2,b3⟩:=fresh_arr W11 50 8 QQ QL.out
 have B5:=hide b1
 have B6:=hide b2
 have L12:=hide ((L10.out.keep g11).keep b3)
 have NQ:=hide (show w.heap.size+1+1+1≤W11.heap.size from Nat.le_of_lt (L10.out.keep g11).2.2.2.1.lt)
 rw[z8']at B5 B6 L12
 clear g11 QA b1 b2 b3 L10 B4
 go_upto_region 17 with(first|refine wpList_store_arr rfl 50 _ _ rfl _ (zeros 8) QQ rfl rfl B5.out (by rw[QL.out,zeros_len]) (by rw[zeros_len];exact size8) ?_)
 (try simp only[Act.put])
 clear B5
 generalize putArr _ W11.heap.size QQ=W12 at *
 generalize W11.heap.size=bq at *
 have LE1:=LE3
 have CE1:=hide (encC_len LE1.out s)
 have AE1:=hide (BlkE.all s LE1.out)
 have LS:=L12
 refine wp_region_held_drew (S:=fun u=>BlkE u w.heap.size e3 s∧Blk u bq 50 QQ) (by kernel_rfl) ⟨LS.out.1.keep (gw_start _),B6.out.keep (gw_start _)⟩ (fun hHeld=>?_)
 refine wpAnyH_take (i:=0) (v:=.agg (encC e3 s).toArray) rfl (by kernel_rfl) (by kernel_rfl) (by kernel_rfl) (fun _ _ _ h=>h) (Or.inl ⟨by rfl,?yly0⟩) hHeld ?rly0
 case yly0=>(intro w' hSw;exact yields_load_v rfl rfl hSw.1 _ Tryz.underlying55 rfl size226 (by rw[CE1.out];omega) _ AE1.out)
 (try simp only[Act.put,sL])
 refine wpAnyH_take (i:=1) (v:=.agg (arrI QQ)) rfl (by kernel_rfl) (by kernel_rfl) (by kernel_rfl) (fun _ _ _ h=>h) (Or.inl ⟨by rfl,?yly1⟩) hHeld ?rly1
 case yly1=>(intro w' hSw;exact yields_load_arr rfl rfl hSw.2 _ Tryz.underlying50 rfl (by rw[QL.out];exact size8))
 (try simp only[Act.put,sL])
 refine wpAnyH_take (i:=2) (v:=?vly2) rfl (by kernel_rfl) (by kernel_rfl) (by kernel_rfl) (fun _ _ _ h=>h) (Or.inl ⟨by rfl,?yly2⟩) hHeld ?rly2
 case yly2=>(intro w' hSw;go_simp;(try with_reducible rfl))
 (try simp only[Act.put,sL])
 refine wpAnyH_ready (rs:=[3]) (by kernel_rfl) (by simp) (AllReadyH.cons rfl (fun K hK=>?_) AllReadyH.nil)
 (try simp only[Act.put,sL])
 have LD:=hide (LS.out.keep (gw_start _))
 have PU:=LD.out.2.1.putAll (m:=e3) (t:=s) (zeros_len 225) LE1.out
 have R1:=hide (LD.out.2.2.1.keepBut PU.2 (by omega))
 have P1:=hide PU.1
 have G1:=hide (grown_own LD.out.2.2.2.2 PU.2 (by omega))
 have HS1:=And.intro (hHeld.1.keepBut PU.2 (by omega)) (hHeld.2.keepBut PU.2 (by have:=NQ.out;omega))
 clear PU
 refine step_store_v rfl 55 _ _ rfl (w.heap.size+1) 0 55 (encC (zeros 225) false) (encC e3 s) rfl rfl LD.out.2.1 (by rw[ZC.out,CE1.out];omega) (by rw[CE1.out];exact size226) (encC_one _ _) ?_
 refine hK.out _ _ HS1 (fun hHeld=>?_)
 clear hK
 (try simp only[Act.put,sL])
 clear LD HS1
 generalize putV _ (w.heap.size+1) 0 (encC e3 s)=wa at *
 refine wpAnyH_ready (rs:=[4]) (by kernel_rfl) (by simp) (AllReadyH.cons rfl (fun K hK=>?_) AllReadyH.nil)
 (try simp only[Act.put,sL])
 have PU:=put_arr (rs':=QQ) R1.out (QL.out.trans (zeros_len 8).symm)
 have R2:=hide PU.1
 have P2:=hide (P1.out.keepBut PU.2 (by omega))
 have G2:=hide (grown_own G1.out PU.2 (by omega))
 have HS2:=And.intro (hHeld.1.keepBut PU.2 (by omega)) (hHeld.2.keepBut PU.2 (by have:=NQ.out;omega))
 clear PU
 refine step_store_arr rfl 50 _ _ rfl (w.heap.size+1+1) (zeros 8) QQ rfl rfl R1.out (QL.out.trans (zeros_len 8).symm) (by rw[zeros_len];exact size8) ?_
 refine hK.out _ _ HS2 (fun hHeld=>?_)
 clear hK
 (try simp only[Act.put,sL])
 clear HS2 R1 P1 G1
 generalize putArr wa (w.heap.size+1+1) QQ=wb at *
 refine wpAnyH_take (i:=5) (v:=?vly5) rfl (by kernel_rfl) (by kernel_rfl) (by kernel_rfl) (fun _ _ _ h=>h) (Or.inl ⟨by rfl,?yly5⟩) hHeld ?rly5
 case yly5=>(intro w' hSw;go_simp;(try with_reducible rfl))
 (try simp only[Act.put,sL])
 refine wpAnyH_done (by kernel_rfl) ?_ _
 clear hHeld
 have FF:=hide (F.out _ G2.out)
 clear F
 have hlv:=loadVar_v P2.out _ Tryz.underlying55 rfl (by rw[CE1.out];exact size226)
 have hlw:=loadVar_arr R2.out _ Tryz.underlying50 rfl (by rw[QL.out];exact size8)
 go_wp2_with fail
 refine bodyPost_ret (v:=.tuple #[.agg (encC e3 s).toArray,.agg (arrI QQ),.int .i64 0]) ?_ rfl FF.out
 simp[results,Tryz.results33,asAddr,Act.put,hlv,hlw]
theorem codListened_err (w:World)(e:List Int)(s:Bool)(he:e.length=225)(v:Value)(l:List Int)(hi:Ints w v l)(hsz:l.length*8≤140737488351232)(hk:¬enOk e l):Calls Tryz.prog 33 #[encV e s,v] w (LisE w (encE e l)):=by
 by_cases hl:l.length=80
 ·rcases hg:goodM (enMm e)with _|_
  ·exact codListened_bad w e s he v l hi hsz hl hg
  ·rcases hh:enHE e l with _|_
   ·exact codListened_high w e s he v l hi hsz hl hg hh
   ·rcases hc:rightB (enI e l)with _|_
    ·exact codListened_corr w e s he v l hi hsz hl hg hh hc
    ·exact absurd ⟨hl,hg,hh,hc⟩ hk
 ·exact codListened_size w e s he v l hi hsz hl
end Go.Proofs.YtdejpongekicdaaGreatDoor

/- CodI -/
namespace Go.Proofs.YtdejpongekicdaaGreatDoor
open Go.RowKit
set_option linter.unusedVariables false
set_option linter.unusedSimpArgs false
set_option maxHeartbeats 4000000
theorem ints40C {w:World}{b:Nat}{l:List Int}(h:Blk w b 3 l)(hl:l.length=40):Ints w (.slice (some ⟨b,0,none⟩) 40 40) l:=by
 refine⟨some ⟨b,0,none⟩,40,by rw[hl],by omega,fun _=>⟨_,rfl,fun i hi=>?_⟩⟩
 rw[Addr.add_mid,Nat.zero_add,h.cell i hi]
theorem tabXC (U X:List Int)(s:Int)(hU:U.length=8)(hX:X.length=4):prt ((ovr U 2 X).set 6 s) 2 4=X:=by
 refine(tab_ext hX (fun i hi=>?_)).symm
 rw[setN _ _ _ (by rw[ovr_len,hU];omega),if_neg (by omega),ovr_nth _ _ _ _ (by rw[hU];omega),if_pos (by omega),show 2+i-2=i by omega]
theorem ch_lastC (X:List Int)(hX:X.length=4)(p g s l:Int):(((ovr [p,g,0,0,0,0,0,0] 2 X).set 6 s).set 7 l)=[p,g,nth X 0,nth X 1,nth X 2,nth X 3,s,l]:=by
 match X,hX with
 | [a,b,c,d],_=>rfl
theorem codCf_any (b:Nat)(vr:Value)(r:List Int)(v:Value)(l:List Int)(w:World)(hc:w.cell? ⟨b,0,none⟩=some vr)(hr:Ints w vr r)(hl:Ints w v l)(br:r.length≤1000000000000000000)(bl:l.length≤1000000000000000000) :
  Calls Tryz.prog 149 #[v,.pointer (some ⟨b,0,none⟩)] w fun e w'=>∃v',e=.returned v'∧Own w.heap.size w' v' (foL r l)∧w.grownBy w' none:=by
 have F:=hide (fold_any vr v r l w hr hl br bl)
 obtain⟨ad,c,rfl,_,_⟩:=hr
 generalize foL r l=L at *
 generalize foE r l=en at *
 clear hl
 go_enter Tryz.func149,Tryz.ntmps149
 go_wp2_with fail
 refine F.out.mono ?_
 rintro e w1 ⟨v1,rfl,o1,g1⟩
 have I:=hide o1
 have G:=hide g1
 clear o1 g1 F hc
 go_wp2_with fail
 go_ret
 exact⟨_,rfl,I.out,G.out⟩
theorem enters_num (args:Array Value)(u:World):(callFunc 149 args).run Tryz.prog u=.ok (.enter 149 args) u:=by kernel_rfl
structure NuB (w W:World) (m a:List Int) (s:Bool) (br:Nat) (vr:Value):Prop where
 mem:BlkM W w.heap.size m s
 prd:BlkV W (w.heap.size+1) 95 (intsV a)
 res:BlkI W (w.heap.size+1+1) 79 (zeros 8)
 rng:W.cell? ⟨br,0,none⟩=some vr
 ring:Ints W vr (chR a)
 grw:w.grownBy W none
theorem NuB.keep {w W W':World}{m a:List Int}{s:Bool}{br:Nat}{vr:Value}(h:NuB w W m a s br vr)(g:W.grownBy W' none):NuB w W' m a s br vr:=⟨h.mem.keep g,h.prd.keep g,h.res.keep g,grown_keep g h.rng,Ints_keep h.ring g,grown_none h.grw g⟩
def NuR1 (W0:World)(L:List Int)(v:Value)(wx:World):Prop:=Own W0.heap.size wx v L∧W0.grownBy wx none
def NuS (W:World)(bu:Nat)(u:List Int)(wr:World):Prop:=W.grownBy wr none∧BlkI wr bu 79 u
theorem NuS.keep {W:World}{bu:Nat}{u:List Int}{wr wr':World}(h:NuS W bu u wr)(g:wr.grownBy wr' none):NuS W bu u wr':=⟨grown_none h.1 g,h.2.keep g⟩
theorem NuS.setU {W:World}{bu:Nat}{u:List Int}{wr:World}(h:NuS W bu u wr)(hw:W.heap.size≤bu)(k:Nat)(z:Int)(hk:k<u.length):NuS W bu (u.set k z) (wr.setCell ⟨bu,k,none⟩ (.int .i64 z)):=
 ⟨grown_own h.1 (grown_setCell wr ⟨bu,k,none⟩ _) hw,h.2.set k z hk⟩
theorem NuS.putU {W:World}{bu:Nat}{u:List Int}{wr:World}(h:NuS W bu u wr)(hw:W.heap.size≤bu)(o:Nat)(M:List Int)(hl:o+M.length≤u.length):NuS W bu (ovr u o M) (putV wr bu o (intsV M)):=by
 have:=h.2.put o M hl
 exact⟨grown_own h.1 this.2 hw,this.1⟩
set_option maxRecDepth 100000 in
theorem codNumbers_any (w:World)(hT:TabA w 2 gains 8)(hG:Grows w)(m:List Int)(s:Bool)(hm:m.length=101)(hg:goodM m=true)(a:List Int)(hA:WideP a)(vx:Value)(x:List Int)(hx:Ints w vx x)(xl:x.length=40)(xr:rightB x=true) :
  Calls Tryz.prog 68 #[memV m s,.agg (arrI a),vx] w (AnsC w (.agg (arrI (chW m a x)))):=by
 have F:=hide (show ∀w',w.grownBy w' none→AnsC w (.agg (arrI (chW m a x))) (.returned (.agg (arrI (chW m a x)))) w' from fun w' q=>⟨rfl,q⟩)
 have B0:=hide (show BlkM (((w.alloc (.cells (memC m s).toArray 53)).alloc (.cells (arrI a) 95)).alloc (.cells #[.int .i64 0,.int .i64 0,.int .i64 0,.int .i64 0,.int .i64 0,.int .i64 0,.int .i64 0,.int .i64 0] 79)) w.heap.size m s∧BlkV (((w.alloc (.cells (memC m s).toArray 53)).alloc (.cells (arrI a) 95)).alloc (.cells #[.int .i64 0,.int .i64 0,.int .i64 0,.int .i64 0,.int .i64 0,.int .i64 0,.int .i64 0,.int .i64 0] 79)) (w.heap.size+1) 95 (intsV a)∧BlkI (((w.alloc (.cells (memC m s).toArray 53)).alloc (.cells (arrI a) 95)).alloc (.cells #[.int .i64 0,.int .i64 0,.int .i64 0,.int .i64 0,.int .i64 0,.int .i64 0,.int .i64 0,.int .i64 0] 79)) (w.heap.size+1+1) 79 (zeros 8)∧w.grownBy (((w.alloc (.cells (memC m s).toArray 53)).alloc (.cells (arrI a) 95)).alloc (.cells #[.int .i64 0,.int .i64 0,.int .i64 0,.int .i64 0,.int .i64 0,.int .i64 0,.int .i64 0,.int .i64 0] 79)) none from by
  refine⟨((BlkM.new w m s).keep (grown_alloc _ _ none)).keep (grown_alloc _ _ none),?_,?_,grown_none (grown_none (grown_alloc _ _ none) (grown_alloc _ _ none)) (grown_alloc _ _ none)⟩
  ·have:=(BlkV.new (w.alloc (.cells (memC m s).toArray 53)) 95 (intsV a)).keep (grown_alloc _ (.cells #[.int .i64 0,.int .i64 0,.int .i64 0,.int .i64 0,.int .i64 0,.int .i64 0,.int .i64 0,.int .i64 0] 79) none)
   rw[intsV_arr]at this
   simpa using this
  ·have:=BlkI.new ((w.alloc (.cells (memC m s).toArray 53)).alloc (.cells (arrI a) 95)) 79 (zeros 8)
   rw[z8']at this
   simpa using this)
 have HX:=hide (fun wr (g:w.grownBy wr none)=>Ints_keep hx g)
 have SPK:=hide (fun v wr (h:Ints wr v (zeros 40)) (sh:Shp v (zeros 40))=>codSpoken_any a m (zeros 40) s hA.len hm v wr h sh (by rw[zeros_len];omega))
 rw[show souL a m (zeros 40)=chZ m a from rfl]at SPK
 have LZ:=hide (show(souM a m (zeros 40)).length=101 by rw[souM_len];exact hm)
 have SH40:=hide (fun b=>show Shp (.slice (some ⟨b,0,none⟩) 40 40) (zeros 40)from .inr ⟨_,_,by rw[zeros_len]⟩)
 have RG:=hide (fun wr=>ring_any a hA.len 40 wr)
 rw[show rgL a 40=chR a from rfl]at RG
 have ZK:=hide (chZ_ok hg hA)
 have RK:=hide (chR_ok hA)
 have TK:=hide (chT_ok m a x)
 have UK:=hide (chU_ok m a x)
 have LT:=hide (fun v u wr (h1:Ints wr v x) (h2:Ints wr u (chZ m a))=>codLess_any v u x (chZ m a) wr h1 h2 xl (chZ_ok hg hA).1)
 rw[chT_les hg hA xl xr]at LT
 have CF:=hide (fun W br vr (h:NuB w W m a s br vr) v (l:List Int) (hl:Ints W v l) (ll:l.length=40)=>codCf_any br vr (chR a) v l W h.rng h.ring hl (by rw[(chR_ok hA).1];omega) (by omega))
 have PK:=hide (fun W br vr (h:NuB w W m a s br vr) vt (it:Ints W vt (chT m a x))=>pitPick_any (prt m 16 80) (chT m a x) (prt_len _ _ _) 149 #[.pointer (some ⟨br,0,none⟩)] (chF a) vt W enters_num (fun wx v l g il sl ll rl=>(CF.out wx br vr (h.keep g) v l il ll).mono (fun e w' ⟨v',e1,o,g'⟩=>⟨v',e1,o.ints,by rw[(chF_ok hA ll rl).1];omega,g'⟩)) it (by rw[(chT_ok m a x).1];omega))
 rw[ch_pick x hg hA]at PK
 have PB:=chP_lag m a x
 have PC:=chP_sums m a x
 have NE:=hide (fun wr (g:w.grownBy wr none)=>pitNear_any (chP m a x).2.1 (chP m a x).2.2 wr (TabA_keep hT g) (by omega) (by omega))
 rw[show neV (chP m a x).2.1 (chP m a x).2.2=chG m a x from rfl]at NE
 have PA:=hide (fun wr=>pitPast_any (prt m 16 80) (prt_len _ _ _) ((chP m a x).1:Int) wr)
 have PAL:=hide (show(pasL (prt m 16 80) ((chP m a x).1:Int)).length=40 by rw[(chPas m a x).1];exact pasV_len _ _)
 have PAV:=hide (show foL (chR a) (pasL (prt m 16 80) ((chP m a x).1:Int))=chV m a x from rfl)
 have VK:=hide (chV_ok x hg hA)
 have LO:=hide (fun v wr (h:Ints wr v (chV m a x)) (g:w.grownBy wr none)=>codLouder_any v (chV m a x) (chG m a x) wr h (chV_ok x hg hA).1 (chV_ok x hg hA).2.1 (TabA_keep hT g))
 have LU:=hide (fun v u wr (h1:Ints wr v (chT m a x)) (h2:Ints wr u (louL (chV m a x) (gaV (chG m a x))))=>codLess_any v u (chT m a x) (louL (chV m a x) (gaV (chG m a x))) wr h1 h2 (chT_ok m a x).1 (by rw[louL_len];exact(chV_ok x hg hA).1))
 rw[chU_les x hg hA]at LU
 have TG:=hide (fun vt vr wr (h1:Ints wr vt (chU m a x)) (sh:Shp vt (chU m a x)) (h2:Ints wr vr (chR a))=>pulTarget_any vt vr (chU m a x) (chR a) wr h1 h2 sh (by rw[(chU_ok m a x).1];omega) (by rw[(chR_ok hA).1];omega))
 rw[show tgV (chU m a x) (chR a)=chD m a x from rfl]at TG
 have DK:=hide (chD_ok (m:=m) x hA)
 have FW:=hide (fun vd vr wr (h1:Ints wr vd (chD m a x)) (h2:Ints wr vr (chR a))=>pulFew_any vd vr (chD m a x) (chR a) wr h1 h2 (by rw[(chD_ok (m:=m) x hA).2.2.1];omega) (by rw[(chR_ok hA).1];omega))
 rw[show seX (chD m a x) (chR a) (fewX (chD m a x) (chR a))=chX m a x from rfl,show seG (chD m a x) (chR a) (fewX (chD m a x) (chR a))=chS m a x from rfl]at FW
 have XK:=hide (chX_ok (m:=m) x hA)
 have BU:=hide (fun wr=>pulBuild_any (chX m a x) (chX_ok (m:=m) x hA).1 (chS m a x) 4096 wr)
 rw[show blL (chX m a x) (chS m a x) 4096=chO m a x from rfl]at BU
 have OK:=hide (chO_ok (m:=m) x hA)
 have KO:=hide (show foL (chR a) (chO m a x)=chK m a x from rfl)
 have KK:=hide (chK_ok (m:=m) x hA)
 have D1:=hide (fun vt vf wr (h1:Ints wr vt (chU m a x)) (h2:Ints wr vf (chK m a x))=>codProduct_any vt vf (chU m a x) (chK m a x) wr h1 h2 (by rw[(chU_ok m a x).1,(chK_ok (m:=m) x hA).1];omega) (by rw[(chU_ok m a x).1];omega) (chU_ok m a x).2 (chK_ok (m:=m) x hA).2.1)
 rw[(chU_ok m a x).1]at D1
 have D2:=hide (fun vf wr (h2:Ints wr vf (chK m a x))=>codProduct_any vf vf (chK m a x) (chK m a x) wr h2 h2 (Nat.le_refl _) (by rw[(chK_ok (m:=m) x hA).1];omega) (chK_ok (m:=m) x hA).2.1 (chK_ok (m:=m) x hA).2.1)
 rw[(chK_ok (m:=m) x hA).1]at D2
 have DB1:=dot40_bd (chU m a x) (chK m a x) (chU_ok m a x).2 (chK_ok (m:=m) x hA).2.1
 have DB2:=dot40_bd (chK m a x) (chK m a x) (chK_ok (m:=m) x hA).2.1 (chK_ok (m:=m) x hA).2.1
 have GO:=hide (fun wr (g:w.grownBy wr none)=>gaiOne_any (4096*dotS (chU m a x) (chK m a x) 40) (dotS (chK m a x) (chK m a x) 40) wr (growsC_keep hG g) (by omega) (by omega))
 rw[show goV (4096*dotS (chU m a x) (chK m a x) 40) (dotS (chK m a x) (chK m a x) 40)=chL m a x from rfl]at GO
 have FIN:=hide (ch_lastC (chX m a x) XK.out.1 (((chP m a x).1:Int)-20) (chG m a x) (chS m a x) (chL m a x))
 rw[show[((chP m a x).1:Int)-20,chG m a x,nth (chX m a x) 0,nth (chX m a x) 1,nth (chX m a x) 2,nth (chX m a x) 3,chS m a x,chL m a x]=chW m a x from rfl]at FIN
 have GB:0≤chG m a x∧chG m a x≤7:=neV_bd _ _
 obtain⟨pn,hpn⟩:∃pn:Nat,chG m a x=(pn:Int):=⟨(chG m a x).toNat,by omega⟩
 have LA:=hide hA.len
 have CM:=hide (memC_len hm s)
 have AM:=hide (BlkM.all s hm)
 have AA:=hide (BlkI.all a 9 hA.len)
 have PX:=hide (BlkM.part (l:=m) s 16 80 (by omega))
 have ZL:=hide (memC_len (zeros_len 101) false)
 have hz:=zero_mem
 have hmk:=make_zeros 40 (by omega)
 rw[show((40:Nat):Int)=40 from rfl]at hmk
 have hmf:∀(fn:Fn) (first cap:Array Value) (w:World),(Instr.makeFunc fn first cap).run Tryz.prog w=.ok (.func fn first cap) w:=fun _ _ _ _=>rfl
 rw[hpn]at NE FIN LO LU
 clear hT hG hm hg hA xl xr hpn GB hx
 generalize AnsC w (.agg (arrI (chW m a x)))=T at *
 unfold pickV at PK
 generalize chW m a x=CW at *
 generalize souM a m (zeros 40)=MZ at *
 have CZ:=hide (memC_len LZ.out s)
 generalize rgE a 40=en2 at *
 generalize chP m a x=PP at *
 obtain⟨lag,pc,pe⟩:=PP
 simp only at PK NE PA PAL PAV PB PC FIN VK
 generalize pasE (lag:Int)=en3 at *
 generalize pasL (prt m 16 80) (lag:Int)=PL at *
 generalize chZ m a=Z at *
 generalize tgE (chU m a x) (chR a)=en4 at *
 generalize seE (chD m a x) (chR a)=en5 at *
 generalize blE (chX m a x) (chS m a x) 4096=en6 at *
 generalize louL (chV m a x) (gaV (pn:Int))=LQ at *
 unfold MmL at SPK
 unfold LstE at LT LO LU
 unfold memV at *
 go_enter Tryz.func68,Tryz.ntmps68
 go_upto_region 1 with fail
 generalize ((w.alloc (.cells (memC m s).toArray 53)).alloc (.cells (arrI a) 95)).alloc (.cells #[.int .i64 0,.int .i64 0,.int .i64 0,.int .i64 0,.int .i64 0,.int .i64 0,.int .i64 0,.int .i64 0] 79)=W0 at *
 go_wp2_with (first|refine wpList_load_v rfl 95 _ rfl (w.heap.size+1) 0 9 rfl 95 (intsV a) B0.out.2.1 _ Tryz.underlying95 rfl size9' (by rw[intsV_len,LA.out];omega) _ AA.out ?_)
 refine(RG.out _).mono ?_
 rintro e W2 ⟨vr,rfl,o2,g2⟩
 have N2:=hide (show w.heap.size+1+1+1≤W2.heap.size from by have:=(B0.out.2.2.1.keep g2).lt;omega)
 have BB:=hide (show NuB w (W2.alloc (.cells #[vr] 26)) m a s W2.heap.size vr from by
  have g:=grown_none g2 (grown_alloc W2 (.cells #[vr] 26) none)
  exact⟨B0.out.1.keep g,B0.out.2.1.keep g,B0.out.2.2.1.keep g,by rw[cell_of_heap (heap_new W2 (.cells #[vr] 26))];rfl,Ints_keep o2.ints (grown_alloc W2 _ none),grown_none B0.out.2.2.2 g⟩)
 obtain⟨gr,cr',hvr,_,_,_⟩:=o2.form (by rw[RK.out.1];omega)
 rw[RK.out.1]at hvr
 subst hvr
 clear o2 g2 RG B0
 go_upto_region 2 with fail
 generalize W2.alloc (.cells #[.slice (some ⟨gr,0,none⟩) 40 cr'] 26)=W3 at *
 generalize W2.heap.size=br at *
 go_upto_region 3 with fail
 clear hmf
 go_cut [10,11]from 26 (fun s10 s11 wx=>NuR1 W3 Z s11 wx)
 case first=>
  refine wp_region_held_drew (S:=GrownW W3) (by kernel_rfl) (gw_start _) (fun hHeld=>?_)
  refine wpAnyH_take (i:=0) (v:=.agg (memC m s).toArray) rfl (by kernel_rfl) (by kernel_rfl) (by kernel_rfl) (fun _ _ _ h=>h) (Or.inl ⟨by rfl,?yna1⟩) hHeld ?rna1
  case yna1=>(intro w' hSw;exact yields_load_v rfl rfl (BB.out.mem.keep hSw) _ Tryz.underlying53 rfl size102 (by rw[CM.out];omega) _ AM.out)
  (try simp only[Act.put,sL])
  refine wpAnyH_take (i:=1) (v:=.agg (intsV a).toArray) rfl (by kernel_rfl) (by kernel_rfl) (by kernel_rfl) (fun _ _ _ h=>h) (Or.inl ⟨by rfl,?yna2⟩) hHeld ?rna2
  case yna2=>(intro w' hSw;exact yields_load_v rfl rfl (BB.out.prd.keep hSw) _ Tryz.underlying95 rfl size9' (by rw[intsV_len,LA.out];omega) _ AA.out)
  (try simp only[Act.put,sL])
  refine wpAnyH_ready (rs:=[2,7]) (by kernel_rfl) (by simp) (AllReadyH.cons rfl (fun K hK=>?gna3) (AllReadyH.cons rfl (fun K hK=>?gna4) AllReadyH.nil))
  case gna3=>
   (try simp only[Act.put,sL])
   go_simp
   go_wp2_with fail
   refine hK.out _ _ (gw_alloc hHeld (.cells (arrI (zeros 40)) 3)) (fun hHeld=>?_)
   clear hK
   have OM:=hide (show Blk ((W3.alloc (.cells (arrI (zeros 40)) 3)).drew) W3.heap.size 3 (zeros 40)from Blk.new W3.drew 3 (zeros 40))
   generalize (W3.alloc (.cells (arrI (zeros 40)) 3)).drew=wzna5 at *
   (try simp only[Act.put,sL])
   refine wpAnyH_ready (rs:=[3,7]) (by kernel_rfl) (by simp) (AllReadyH.cons rfl (fun K hK=>?gna6) (AllReadyH.cons rfl (fun K hK=>?gna7) AllReadyH.nil))
   case gna6=>
    (try simp only[Act.put,sL])
    go_simp
    refine(SPK.out _ _ (ints40C OM.out (zeros_len 40)) (SH40.out _)).mono ?_
    rintro e wna8 ⟨vx',rfl,ox,gna8⟩
    have Gna8:=hide gna8
    have OX:=hide (ox.base (b':=W3.heap.size) (World.grownBy.size hHeld))
    clear gna8 ox
    (try unfold memV)
    (try unfold encV)
    go_wp2_with fail
    refine hK.out _ _ (gw_trans hHeld Gna8.out) (fun hHeld=>?_)
    clear hK
    have OM:=hide (OM.out.keep Gna8.out)
    (try simp only[Act.put,sL])
    refine wpAnyH_take (i:=4) (v:=?vna9) rfl (by kernel_rfl) (by kernel_rfl) (by kernel_rfl) (fun _ _ _ h=>h) (Or.inl ⟨by rfl,?yna9⟩) hHeld ?rna9
    case yna9=>(intro w' hSw;go_simp;(try with_reducible rfl))
    (try simp only[Act.put,sL])
    refine wpAnyH_take (i:=5) (v:=?vna10) rfl (by kernel_rfl) (by kernel_rfl) (by kernel_rfl) (fun _ _ _ h=>h) (Or.inl ⟨by rfl,?yna10⟩) hHeld ?rna10
    case yna10=>(intro w' hSw;go_simp;(try with_reducible rfl))
    (try simp only[Act.put,sL])
    refine wpAnyH_take (i:=6) (v:=?vna11) rfl (by kernel_rfl) (by kernel_rfl) (by kernel_rfl) (fun _ _ _ h=>h) (Or.inl ⟨by rfl,?yna11⟩) hHeld ?rna11
    case yna11=>(intro w' hSw;go_simp;(try with_reducible rfl))
    (try simp only[Act.put,sL])
    refine wpAnyH_ready (rs:=[7]) (by kernel_rfl) (by simp) (AllReadyH.cons rfl (fun K hK=>?_) AllReadyH.nil)
    (try simp only[Act.put,sL])
    go_simp
    go_wp2_with fail
    have HB:=hide (show W3.heap.size≤wna8.heap.size from by first|exact Nat.le_refl _|exact World.grownBy.size hHeld)
    refine hK.out _ _ (gw_alloc hHeld (.cells (memC (zeros 101) false).toArray 53)) (fun hHeld=>?_)
    clear hK
    have HZ:=hide (show BlkM (wna8.alloc (.cells (memC (zeros 101) false).toArray 53)) wna8.heap.size (zeros 101) false from BlkM.new wna8 (zeros 101) false)
    have OM:=hide (OM.out.keep (grown_alloc wna8 (.cells (memC (zeros 101) false).toArray 53) none))
    have OX:=hide (OX.out.keep (grown_alloc wna8 (.cells (memC (zeros 101) false).toArray 53) none))
    generalize wna8.alloc (.cells (memC (zeros 101) false).toArray 53)=wzna12 at *
    (try simp only[Act.put,sL])
    refine wpAnyH_ready (rs:=[8]) (by kernel_rfl) (by simp) (AllReadyH.cons rfl (fun K hK=>?_) AllReadyH.nil)
    (try simp only[Act.put,sL])
    refine step_store_v rfl 53 _ _ rfl (wna8.heap.size) 0 53 (memC (zeros 101) false) (memC MZ s) rfl rfl HZ.out (by rw[ZL.out,CZ.out];omega) (by rw[CZ.out];exact size102) (memC_one _ _) ?_
    have PU:=HZ.out.putAll (m:=MZ) (t:=s) (zeros_len 101) LZ.out
    have OX:=hide (OX.out.keepBut PU.2 HZ.out (by decide))
    refine hK.out _ _ (gw_own hHeld PU.2 HB.out) (fun hHeld=>?_)
    clear hK
    (try simp only[Act.put,sL])
    refine wpAnyH_take (i:=9) (v:=?vna14) rfl (by kernel_rfl) (by kernel_rfl) (by kernel_rfl) (fun _ _ _ h=>h) (Or.inl ⟨by rfl,?yna14⟩) hHeld ?rna14
    case yna14=>(intro w' hSw;go_simp;(try with_reducible rfl))
    (try simp only[Act.put,sL])
    refine wpAnyH_done (by kernel_rfl) ?_ _
    go_wp2_with fail
    go_meet
    exact⟨OX.out,hHeld⟩
   case gna7=>
    (try simp only[Act.put,sL])
    go_simp
    go_wp2_with fail
    have HB:=hide (show W3.heap.size≤wzna5.heap.size from by first|exact Nat.le_refl _|exact World.grownBy.size hHeld)
    refine hK.out _ _ (gw_alloc hHeld (.cells (memC (zeros 101) false).toArray 53)) (fun hHeld=>?_)
    clear hK
    have HZ:=hide (show BlkM (wzna5.alloc (.cells (memC (zeros 101) false).toArray 53)) wzna5.heap.size (zeros 101) false from BlkM.new wzna5 (zeros 101) false)
    have OM:=hide (OM.out.keep (grown_alloc wzna5 (.cells (memC (zeros 101) false).toArray 53) none))
    generalize wzna5.alloc (.cells (memC (zeros 101) false).toArray 53)=wzna15 at *
    (try simp only[Act.put,sL])
    refine wpAnyH_ready (rs:=[3]) (by kernel_rfl) (by simp) (AllReadyH.cons rfl (fun K hK=>?_) AllReadyH.nil)
    (try simp only[Act.put,sL])
    go_simp
    refine(SPK.out _ _ (ints40C OM.out (zeros_len 40)) (SH40.out _)).mono ?_
    rintro e wna16 ⟨vx',rfl,ox,gna16⟩
    have Gna16:=hide gna16
    have OX:=hide (ox.base (b':=W3.heap.size) (World.grownBy.size hHeld))
    clear gna16 ox
    (try unfold memV)
    (try unfold encV)
    go_wp2_with fail
    refine hK.out _ _ (gw_trans hHeld Gna16.out) (fun hHeld=>?_)
    clear hK
    have OM:=hide (OM.out.keep Gna16.out)
    have HZ:=hide (HZ.out.keep Gna16.out)
    (try simp only[Act.put,sL])
    refine wpAnyH_take (i:=4) (v:=?vna17) rfl (by kernel_rfl) (by kernel_rfl) (by kernel_rfl) (fun _ _ _ h=>h) (Or.inl ⟨by rfl,?yna17⟩) hHeld ?rna17
    case yna17=>(intro w' hSw;go_simp;(try with_reducible rfl))
    (try simp only[Act.put,sL])
    refine wpAnyH_take (i:=5) (v:=?vna18) rfl (by kernel_rfl) (by kernel_rfl) (by kernel_rfl) (fun _ _ _ h=>h) (Or.inl ⟨by rfl,?yna18⟩) hHeld ?rna18
    case yna18=>(intro w' hSw;go_simp;(try with_reducible rfl))
    (try simp only[Act.put,sL])
    refine wpAnyH_take (i:=6) (v:=?vna19) rfl (by kernel_rfl) (by kernel_rfl) (by kernel_rfl) (fun _ _ _ h=>h) (Or.inl ⟨by rfl,?yna19⟩) hHeld ?rna19
    case yna19=>(intro w' hSw;go_simp;(try with_reducible rfl))
    (try simp only[Act.put,sL])
    refine wpAnyH_ready (rs:=[8]) (by kernel_rfl) (by simp) (AllReadyH.cons rfl (fun K hK=>?_) AllReadyH.nil)
    (try simp only[Act.put,sL])
    refine step_store_v rfl 53 _ _ rfl (wzna5.heap.size) 0 53 (memC (zeros 101) false) (memC MZ s) rfl rfl HZ.out (by rw[ZL.out,CZ.out];omega) (by rw[CZ.out];exact size102) (memC_one _ _) ?_
    have PU:=HZ.out.putAll (m:=MZ) (t:=s) (zeros_len 101) LZ.out
    have OX:=hide (OX.out.keepBut PU.2 HZ.out (by decide))
    refine hK.out _ _ (gw_own hHeld PU.2 HB.out) (fun hHeld=>?_)
    clear hK
    (try simp only[Act.put,sL])
    refine wpAnyH_take (i:=9) (v:=?vna21) rfl (by kernel_rfl) (by kernel_rfl) (by kernel_rfl) (fun _ _ _ h=>h) (Or.inl ⟨by rfl,?yna21⟩) hHeld ?rna21
    case yna21=>(intro w' hSw;go_simp;(try with_reducible rfl))
    (try simp only[Act.put,sL])
    refine wpAnyH_done (by kernel_rfl) ?_ _
    go_wp2_with fail
    go_meet
    exact⟨OX.out,hHeld⟩
  case gna4=>
   (try simp only[Act.put,sL])
   go_simp
   go_wp2_with fail
   have HB:=hide (show W3.heap.size≤W3.heap.size from by first|exact Nat.le_refl _|exact World.grownBy.size hHeld)
   refine hK.out _ _ (gw_alloc hHeld (.cells (memC (zeros 101) false).toArray 53)) (fun hHeld=>?_)
   clear hK
   have HZ:=hide (show BlkM ((W3.alloc (.cells (memC (zeros 101) false).toArray 53)).drew) W3.heap.size (zeros 101) false from BlkM.new W3.drew (zeros 101) false)
   generalize (W3.alloc (.cells (memC (zeros 101) false).toArray 53)).drew=wzna22 at *
   (try simp only[Act.put,sL])
   refine wpAnyH_ready (rs:=[2]) (by kernel_rfl) (by simp) (AllReadyH.cons rfl (fun K hK=>?_) AllReadyH.nil)
   (try simp only[Act.put,sL])
   go_simp
   go_wp2_with fail
   refine hK.out _ _ (gw_alloc hHeld (.cells (arrI (zeros 40)) 3)) (fun hHeld=>?_)
   clear hK
   have OM:=hide (show Blk (wzna22.alloc (.cells (arrI (zeros 40)) 3)) wzna22.heap.size 3 (zeros 40)from Blk.new wzna22 3 (zeros 40))
   have HZ:=hide (HZ.out.keep (grown_alloc wzna22 (.cells (arrI (zeros 40)) 3) none))
   generalize wzna22.alloc (.cells (arrI (zeros 40)) 3)=wzna23 at *
   (try simp only[Act.put,sL])
   refine wpAnyH_ready (rs:=[3]) (by kernel_rfl) (by simp) (AllReadyH.cons rfl (fun K hK=>?_) AllReadyH.nil)
   (try simp only[Act.put,sL])
   go_simp
   refine(SPK.out _ _ (ints40C OM.out (zeros_len 40)) (SH40.out _)).mono ?_
   rintro e wna24 ⟨vx',rfl,ox,gna24⟩
   have Gna24:=hide gna24
   have OX:=hide (ox.base (b':=W3.heap.size) (World.grownBy.size hHeld))
   clear gna24 ox
   (try unfold memV)
   (try unfold encV)
   go_wp2_with fail
   refine hK.out _ _ (gw_trans hHeld Gna24.out) (fun hHeld=>?_)
   clear hK
   have HZ:=hide (HZ.out.keep Gna24.out)
   have OM:=hide (OM.out.keep Gna24.out)
   (try simp only[Act.put,sL])
   refine wpAnyH_take (i:=4) (v:=?vna25) rfl (by kernel_rfl) (by kernel_rfl) (by kernel_rfl) (fun _ _ _ h=>h) (Or.inl ⟨by rfl,?yna25⟩) hHeld ?rna25
   case yna25=>(intro w' hSw;go_simp;(try with_reducible rfl))
   (try simp only[Act.put,sL])
   refine wpAnyH_take (i:=5) (v:=?vna26) rfl (by kernel_rfl) (by kernel_rfl) (by kernel_rfl) (fun _ _ _ h=>h) (Or.inl ⟨by rfl,?yna26⟩) hHeld ?rna26
   case yna26=>(intro w' hSw;go_simp;(try with_reducible rfl))
   (try simp only[Act.put,sL])
   refine wpAnyH_take (i:=6) (v:=?vna27) rfl (by kernel_rfl) (by kernel_rfl) (by kernel_rfl) (fun _ _ _ h=>h) (Or.inl ⟨by rfl,?yna27⟩) hHeld ?rna27
   case yna27=>(intro w' hSw;go_simp;(try with_reducible rfl))
   (try simp only[Act.put,sL])
   refine wpAnyH_ready (rs:=[8]) (by kernel_rfl) (by simp) (AllReadyH.cons rfl (fun K hK=>?_) AllReadyH.nil)
   (try simp only[Act.put,sL])
   refine step_store_v rfl 53 _ _ rfl (W3.heap.size) 0 53 (memC (zeros 101) false) (memC MZ s) rfl rfl HZ.out (by rw[ZL.out,CZ.out];omega) (by rw[CZ.out];exact size102) (memC_one _ _) ?_
   have PU:=HZ.out.putAll (m:=MZ) (t:=s) (zeros_len 101) LZ.out
   have OX:=hide (OX.out.keepBut PU.2 HZ.out (by decide))
   refine hK.out _ _ (gw_own hHeld PU.2 HB.out) (fun hHeld=>?_)
   clear hK
   (try simp only[Act.put,sL])
   refine wpAnyH_take (i:=9) (v:=?vna29) rfl (by kernel_rfl) (by kernel_rfl) (by kernel_rfl) (fun _ _ _ h=>h) (Or.inl ⟨by rfl,?yna29⟩) hHeld ?rna29
   case yna29=>(intro w' hSw;go_simp;(try with_reducible rfl))
   (try simp only[Act.put,sL])
   refine wpAnyH_done (by kernel_rfl) ?_ _
   go_wp2_with fail
   go_meet
   exact⟨OX.out,hHeld⟩
 case rest=>
 obtain⟨o4,g4⟩:=hcut
 have B4:=hide (BB.out.keep g4)
 have I4:=hide o4.ints
 clear hmk hz SPK SH40 LZ CZ o4 g4 BB AM AA
 go_wp2_with fail
 refine(LT.out _ _ _ (HX.out _ B4.out.grw) I4.out).mono ?_
 rintro e W5 ⟨vt,rfl,ot,g5⟩
 have B5:=hide (B4.out.keep g5)
 have IT:=hide ot.ints
 have PK1:=hide (PK.out W5 br _ B5.out vt ot.ints)
 clear LT PK HX B4 I4 g5 ot
 go_upto_region 5 with fail
 go_wp2_with (first|refine wpList_load_v rfl 51 _ rfl w.heap.size 16 80 rfl 53 (memC m s) B5.out.mem _ Tryz.underlying51 rfl size80c (by rw[CM.out];omega) _ PX.out ?_)
 refine PK1.out.mono ?_
 rintro e W6 ⟨rfl,g6⟩
 have B6:=hide (B5.out.keep g6)
 have IT6:=hide (Ints_keep IT.out g6)
 clear PK1 g6 B5 IT
 have w20:(20:Int)≤lag:=by omega
 go_upto_region 6 with fail
 go_wp2_with fail
 refine(NE.out _ B6.out.grw).mono ?_
 rintro e W7 ⟨rfl,g7⟩
 have B7:=hide (B6.out.keep g7)
 have IT7:=hide (Ints_keep IT6.out g7)
 clear NE g7 B6 IT6
 obtain⟨U8,hU8⟩:∃U8,[(lag:Int)-20,(pn:Int),0,0,0,0,0,0]=U8:=⟨_,rfl⟩
 have UL:=hide (show U8.length=8 by rw[←hU8];rfl)
 have UP:=hide (show nth U8 1=(pn:Int) by rw[←hU8];rfl)
 rw[hU8]at FIN
 obtain⟨c1,c2,c3⟩:=fresh_arr W7 79 8 U8 UL.out
 have C1:=hide c1
 have S8:=hide (show NuS W7 W7.heap.size U8 _ from⟨c3,c2⟩)
 have NW:=hide (Nat.le_refl W7.heap.size)
 rw[z8']at C1 S8
 clear c1 c2 c3
 go_upto_region 7 with(first|refine wpList_store_arr rfl 79 _ _ rfl _ (zeros 8) U8 rfl (by rw[←hU8];rfl) C1.out (by rw[UL.out,zeros_len]) (by rw[zeros_len];exact size8sub) ?_)
 (try simp only[Act.put])
 clear C1 hU8
 generalize putArr _ W7.heap.size U8=W8 at *
 generalize hbu:W7.heap.size=bu at S8 NW ⊢
 have NWu:=hide (show W7.heap.size≤bu from by omega)
 clear NW hbu
 have B8:=hide (B7.out.keep S8.out.1)
 go_wp2_with (first|refine wpList_load_v rfl 51 _ rfl w.heap.size 16 80 rfl 53 (memC m s) B8.out.mem _ Tryz.underlying51 rfl size80c (by rw[CM.out];omega) _ PX.out ?_)
 refine(PA.out _).mono ?_
 rintro e W9 ⟨vp,rfl,op,g9⟩
 have S9:=hide (S8.out.keep g9)
 have B9:=hide (B8.out.keep g9)
 have IP:=hide op.ints
 have IT9:=hide (Ints_keep IT7.out S9.out.1)
 have NB9:=hide (show bu+1≤W9.heap.size from S9.out.2.lt)
 clear PA g9 S8 B8 op IT7
 go_upto_region 8 with fail
 refine wp_region_held_drew (S:=GrownW W9) (by kernel_rfl) (gw_start _) (fun hHeld=>?_)
 refine wpAnyH_take (i:=0) (v:=?vnb0) rfl (by kernel_rfl) (by kernel_rfl) (by kernel_rfl) (fun _ _ _ h=>h) (Or.inl ⟨by rfl,?ynb0⟩) hHeld ?rnb0
 case ynb0=>(intro w' hSw;go_simp;(try with_reducible rfl))
 (try simp only[Act.put,sL])
 refine wpAnyH_take (i:=1) (v:=?vnb1) rfl (by kernel_rfl) (by kernel_rfl) (by kernel_rfl) (fun _ _ _ h=>h) (Or.inl ⟨by rfl,?ynb1⟩) hHeld ?rnb1
 case ynb1=>(intro w' hSw;go_simp;(try with_reducible rfl))
 (try simp only[Act.put,sL])
 refine wpAnyH_take (i:=2) (v:=?vnb2) rfl (by kernel_rfl) (by kernel_rfl) (by kernel_rfl) (fun _ _ _ h=>h) (Or.inl ⟨by rfl,?ynb2⟩) hHeld ?rnb2
 case ynb2=>(intro w' hSw;go_simp;(try with_reducible rfl))
 (try simp only[Act.put,sL])
 refine wpAnyH_take (i:=4) (v:=?vnb4) rfl (by kernel_rfl) (by kernel_rfl) (by kernel_rfl) (fun _ _ _ h=>h) (Or.inl ⟨by rfl,?ynb4⟩) hHeld ?rnb4
 case ynb4=>(intro w' hSw;go_simp;(try with_reducible rfl))
 (try simp only[Act.put,sL])
 refine wpAnyH_take (i:=5) (v:=.int .i64 (pn:Int)) rfl (by kernel_rfl) (by kernel_rfl) (by kernel_rfl) (fun _ _ _ h=>h) (Or.inl ⟨by rfl,?ynb5⟩) hHeld ?rnb5
 case ynb5=>(intro w' hSw;have cc:=(S9.out.2.keep hSw).cell 1 (by rw[UL.out];omega);rw[UP.out]at cc;go_simp;(try with_reducible rfl))
 (try simp only[Act.put,sL])
 refine wpAnyH_ready (rs:=[3]) (by kernel_rfl) (by simp) (AllReadyH.cons rfl (fun K hK=>?_) AllReadyH.nil)
 (try simp only[Act.put,sL])
 go_simp
 refine(CF.out _ br _ (B9.out.keep hHeld) vp PL (Ints_keep IP.out hHeld) PAL.out).mono ?_
 rintro e w1 ⟨vv,rfl,ov,q1⟩
 have Q1:=hide q1
 rw[PAV.out]at ov
 have OV:=hide (ov.base (b':=W9.heap.size) hHeld.size)
 clear q1 ov
 go_wp2_with fail
 refine hK.out _ _ (gw_trans hHeld Q1.out) (fun hHeld=>?_)
 clear hK
 (try simp only[Act.put,sL])
 refine wpAnyH_ready (rs:=[6]) (by kernel_rfl) (by simp) (AllReadyH.cons rfl (fun K hK=>?_) AllReadyH.nil)
 (try simp only[Act.put,sL])
 go_simp
 refine(LO.out vv _ OV.out.ints (grown_none B9.out.grw hHeld)).mono ?_
 rintro e w2 ⟨vl,rfl,ol,q2⟩
 have Q2:=hide q2
 have OL:=hide (ol.base (b':=W9.heap.size) hHeld.size)
 clear q2 ol
 go_wp2_with fail
 refine hK.out _ _ (gw_trans hHeld Q2.out) (fun hHeld=>?_)
 clear hK
 (try simp only[Act.put,sL])
 refine wpAnyH_ready (rs:=[7]) (by kernel_rfl) (by simp) (AllReadyH.cons rfl (fun K hK=>?_) AllReadyH.nil)
 (try simp only[Act.put,sL])
 go_simp
 refine(LU.out vt vl _ (Ints_keep IT9.out hHeld) OL.out.ints).mono ?_
 rintro e w3 ⟨vu,rfl,ou,q3⟩
 have Q3:=hide q3
 have OU:=hide (ou.base (b':=W9.heap.size) hHeld.size)
 clear q3 ou
 go_wp2_with fail
 refine hK.out _ _ (gw_trans hHeld Q3.out) (fun hHeld=>?_)
 clear hK
 (try simp only[Act.put,sL])
 refine wpAnyH_take (i:=8) (v:=?vnb8) rfl (by kernel_rfl) (by kernel_rfl) (by kernel_rfl) (fun _ _ _ h=>h) (Or.inl ⟨by rfl,?ynb8⟩) hHeld ?rnb8
 case ynb8=>(intro w' hSw;go_simp;(try with_reducible rfl))
 (try simp only[Act.put,sL])
 refine wpAnyH_done (by kernel_rfl) ?_ _
 have S11:=hide (S9.out.keep hHeld)
 have B11:=hide (B9.out.keep hHeld)
 have O11:=hide (OU.out.base (b':=bu+1) NB9.out)
 clear OV OL OU Q1 Q2 Q3 hHeld S9 B9 IP IT9 LO LU PAL PAV
 go_upto_region 9 with fail
 have rc:=B11.out.rng
 have TG1:=hide (TG.out _ _ _ O11.out.ints O11.out.shp B11.out.ring)
 clear TG
 go_wp2_with fail
 refine TG1.out.mono ?_
 rintro e W12 ⟨vd,rfl,od,g12⟩
 have S12:=hide (S11.out.keep g12)
 have B12:=hide (B11.out.keep g12)
 have O12:=hide (O11.out.keep g12)
 have FW1:=hide (FW.out _ _ _ od.ints B12.out.ring)
 clear TG1 FW g12 S11 B11 rc od O11
 have rc:=B12.out.rng
 go_upto_region 10 with fail
 go_wp2_with fail
 refine FW1.out.mono ?_
 rintro e W13 ⟨rfl,g13⟩
 have S13:=hide (S12.out.keep g13)
 have O13:=hide (O12.out.keep g13)
 have X4:=hide (show(intsV (chX m a x)).length=4 by rw[intsV_len];exact XK.out.1)
 have IX:=hide (intsV_one (chX m a x))
 have U4:=hide (show(intsV U8).length=8 by rw[intsV_len];exact UL.out)
 have S14:=hide (S13.out.putU NWu.out 2 (chX m a x) (by rw[XK.out.1,UL.out];omega))
 have O14:=hide (O13.out.keepLt (S13.out.2.put 2 (chX m a x) (by rw[XK.out.1,UL.out];omega)).2 (by omega))
 have U14:=hide (show(ovr U8 2 (chX m a x)).length=8 by rw[ovr_len];exact UL.out)
 have S15:=hide (S14.out.setU NWu.out 6 (chS m a x) (by rw[U14.out];omega))
 have O15:=hide (O14.out.keepLt (grown_setCell (putV W13 bu 2 (intsV (chX m a x))) ⟨bu,6,none⟩ (.int .i64 (chS m a x))) (by simp))
 have c6:=S14.out.2.cell 6 (by rw[U14.out];omega)
 have f6:=S14.out.2.free 6
 clear FW1 g13 S12 B12 rc O12 O13
 go_upto_region 11 with(first|refine wpList_store_v rfl 77 _ _ rfl bu 2 79 (intsV U8) (intsV (chX m a x)) rfl rfl S13.out.2 (by rw[X4.out,U4.out];omega) (by rw[X4.out];exact size4c) IX.out ?_)
 (try simp only[Act.put])
 clear c6 f6 S13 S14 O14
 generalize (putV W13 bu 2 (intsV (chX m a x))).setCell ⟨bu,6,none⟩ (.int .i64 (chS m a x))=W15 at *
 have P4:=hide (show prt ((ovr U8 2 (chX m a x)).set 6 (chS m a x)) 2 4=chX m a x from tabXC U8 (chX m a x) (chS m a x) UL.out XK.out.1)
 have P6:=hide (show nth ((ovr U8 2 (chX m a x)).set 6 (chS m a x)) 6=chS m a x from by rw[setN _ _ _ (by rw[U14.out];omega),if_pos rfl])
 have U15:=hide (show((ovr U8 2 (chX m a x)).set 6 (chS m a x)).length=8 by rw[List.length_set];exact U14.out)
 clear UL UP U4 U14
 generalize (ovr U8 2 (chX m a x)).set 6 (chS m a x)=U16 at *
 have c6:=S15.out.2.cell 6 (by rw[U15.out];omega)
 rw[P6.out]at c6
 have PT:=hide (BlkI.part (l:=U16) 2 4 (by rw[U15.out];omega))
 rw[P4.out]at PT
 have UV:=hide (show(intsV U16).length=8 by rw[intsV_len];exact U15.out)
 go_wp2_with (first|refine wpList_load_v rfl 77 _ rfl bu 2 4 rfl 79 (intsV U16) S15.out.2 _ Tryz.underlying77 rfl size4c (by rw[UV.out];omega) _ PT.out ?_)
 refine(BU.out _).mono ?_
 rintro e W16 ⟨vo,rfl,oo,g16⟩
 have S16:=hide (S15.out.keep g16)
 have O16:=hide (O15.out.keep g16)
 have B16:=hide (B7.out.keep S16.out.1)
 have CF2:=hide (CF.out W16 br _ B16.out vo (chO m a x) oo.ints OK.out.1)
 rw[KO.out]at CF2
 clear BU g16 S15 oo c6 CF O15
 go_upto_region 12 with fail
 go_wp2_with fail
 refine CF2.out.mono ?_
 rintro e W17 ⟨vf,rfl,of,g17⟩
 have S17:=hide (S16.out.keep g17)
 have O17:=hide (O16.out.keep g17)
 have IF:=hide of.ints
 have D11:=hide (D1.out _ _ _ O17.out.ints IF.out)
 clear CF2 g17 S16 B16 of D1 O16
 go_upto_region 13 with fail
 generalize dotS (chU m a x) (chK m a x) 40=d1 at *
 generalize dotS (chK m a x) (chK m a x) 40=d2 at *
 go_wp2_with fail
 refine D11.out.mono ?_
 rintro e w18 ⟨rfl,rfl⟩
 have D21:=hide (D2.out _ _ IF.out)
 clear D11 IF D2
 go_wp2_with fail
 refine D21.out.mono ?_
 rintro e w19 ⟨rfl,rfl⟩
 have GO1:=hide (GO.out _ (grown_none B7.out.grw S17.out.1))
 clear D21 GO
 go_wp2_with fail
 refine GO1.out.mono ?_
 rintro e w20' ⟨rfl,rfl⟩
 have c7:=S17.out.2.cell 7 (by rw[U15.out];omega)
 have f7:=S17.out.2.free 7
 have S21:=hide (S17.out.setU NWu.out 7 (chL m a x) (by rw[U15.out];omega))
 rw[FIN.out]at S21
 clear GO1 S17 O17
 go_upto_region 14 with fail
 clear c7 f7
 generalize World.setCell _ ⟨bu,7,none⟩ (.int .i64 (chL m a x))=W21 at *
 have B21:=hide (B7.out.keep S21.out.1)
 have CW8:=hide (show(intsV CW).length=8 by rw[intsV_len,←FIN.out,List.length_set];exact U15.out)
 have CA:=hide (BlkI.all CW 8 (by have:=CW8.out;rwa [intsV_len]at this))
 have ZV:=hide (show(intsV (zeros 8)).length=8 by rw[intsV_len,zeros_len])
 have IC:=hide (intsV_one CW)
 have PB:=hide (B21.out.res.putAll (m:=CW) (by have:=CW8.out;rw[intsV_len]at this;rw[this,zeros_len]))
 have FF:=hide (F.out _ (grown_own B21.out.grw PB.out.2 (by omega)))
 clear F
 go_wp2_with (first|refine wpList_load_v rfl 79 _ rfl bu 0 8 rfl 79 (intsV CW) S21.out.2 _ Tryz.underlying79 rfl size8sub (by rw[CW8.out];omega) _ CA.out ?_|refine wpList_store_v rfl 79 _ _ rfl (w.heap.size+1+1) 0 79 (intsV (zeros 8)) (intsV CW) rfl rfl B21.out.res (by rw[CW8.out,ZV.out];omega) (by rw[CW8.out];exact size8sub) IC.out ?_)
 have hlv:=loadVar_v PB.out.1.v _ Tryz.underlying79 rfl (by rw[CW8.out];exact size8sub)
 refine bodyPost_ret (v:=.agg (arrI CW)) ?_ rfl FF.out
 simp[results,Tryz.results68,asAddr,Act.put,hlv]
 rfl
end Go.Proofs.YtdejpongekicdaaGreatDoor
