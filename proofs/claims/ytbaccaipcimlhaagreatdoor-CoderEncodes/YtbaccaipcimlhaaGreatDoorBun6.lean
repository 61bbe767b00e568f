/- Texts put together: CnpS, CnpA, CodA, FrontA, FrontWin, LenB, FrontCorr, FrontHigh, HighAny, EncMath, CodMath, CodB, CnpB, CnpC, CodC, CodD, CodG, RefDown, IntsA, SameU, LConA, LDec, LCdT, EncT. -/
import Derived.Test.YtbaccaipcimlhaaGreatDoorBun1
import Derived.Shelf.Small.Bits
import Derived.BigQuiet
import Derived.Deep.QuietTactic
import Derived.Test.YtbaccaipcimlhaaGreatDoorBun2
import Derived.Test.YtbaccaipcimlhaaGreatDoorProg
import Derived.Deep.DrawnRows
import Derived.Deep.RegionHeld
import Derived.RegionTactic
import Derived.Laws.OwnMore
import Derived.Test.YtbaccaipcimlhaaGreatDoorBun3
import Derived.OwnWalk
namespace Go.Proofs.YtbaccaipcimlhaaGreatDoor
open Go.RowKit
open Tryz
set_option linter.unusedSimpArgs false
set_option linter.unusedVariables false
set_option maxHeartbeats 4000000
set_option maxRecDepth 100000
theorem iE (x a b:Int)(w:World):Calls prog 91 #[.int .i64 x,.int .i64 a,.int .i64 b] w (mO w (.bool (decide (a≤x∧x≤b)))):=by
 by_cases h1:a≤x
 ·by_cases h2:x≤b
  ·rw[decide_eq_true (show a≤x∧x≤b from⟨h1,h2⟩)]
   go_enter func91,ntmps91
   go_wp2_with fail
   go_ret
   exact⟨rfl,rfl⟩
  rw[decide_eq_false (show ¬(a≤x∧x≤b)from fun h=>h2 h.2)]
  go_enter func91,ntmps91
  go_wp2_with fail
  go_ret
  exact⟨rfl,rfl⟩
 rw[decide_eq_false (show ¬(a≤x∧x≤b)from fun h=>h1 h.1)]
 go_enter func91,ntmps91
 go_wp2_with fail
 go_ret
 exact⟨rfl,rfl⟩
theorem nL (x:Int)(w:World):Calls prog 192 #[.int .i64 x] w (mO w (.int .i64 (eU x))):=by
 have F:=Zs (∀z,z=eU x→mO w (.int .i64 (eU x)) (.returned (.int .i64 z)) w) (fun z hz=>⟨by rw[hz],rfl⟩)
 generalize mO w (.int .i64 (eU x))=T at *
 go_enter func192,ntmps192
 go_wp2_with fail
 all_goals(refine F.out _ ?_;unfold eU;(repeat' split)<;>omega)
theorem Ja (x g:Int)(h1:-4611686018427387904≤x*g)(h2:x*g≤4611686018427387904)(w:World):Calls prog 193 #[.int .i64 x,.int .i64 g] w (mO w (.int .i64 ((x*g+8192) / 16384))):=by
 have F:=Zs (mO w (.int .i64 ((x*g+8192) / 16384)) (.returned (.int .i64 ((x*g+8192) / 16384))) w) (⟨rfl,rfl⟩)
 generalize mO w (.int .i64 ((x*g+8192) / 16384))=T at *
 go_enter func193,ntmps193
 go_wp2_with fail
 exact F.out
def zA (lo hi:Int)(l:List Int):Bool:=l.all fun x=>decide (lo≤x)&&decide (x≤hi)
theorem Ew (lo hi:Int)(l:List Int):zA lo hi l=true↔∀i,i<l.length→lo≤aC l i∧aC l i≤hi:=by
 unfold zA
 rw[List.all_eq_true]
 constructor
 ·intro h i hi'
  have:=h l[i] (List.getElem_mem hi')
  simpa [aC,List.getD,hi'] using this
 intro h x hx
 obtain⟨i,hi',rfl⟩:=List.getElem_of_mem hx
 have:=h i hi'
 simpa [aC,List.getD,hi'] using this
theorem Ki (l:List Int):zA (-31000) 31000 (bP l 0 8)=true↔reflB l=true:=by
 rw[Ew,wW,aR]
 constructor
 ·intro h i hi;have:=h i hi;rwa [fV _ _ _ _ hi,Nat.zero_add]at this
 intro h i hi;rw[fV _ _ _ _ hi,Nat.zero_add];exact h i hi
theorem yJ (v:Value)(l:List Int)(lo hi:Int)(w:World)(h:aS w v l)(hl:l.length≤1000000000000000000) :
 Calls prog 90 #[v,.int .i64 lo,.int .i64 hi] w (mO w (.bool (zA lo hi l))):=by
 obtain⟨ad,c,rfl,hc,bH⟩:=h
 have Y:=Zd (fun(hh:∀i,i<l.length→lo≤aC l i∧aC l i≤hi)=>(show mO w (.bool (zA lo hi l)) (.returned (.bool true)) w from⟨by rw[(Ew lo hi l).2 hh],rfl⟩))
 have N:=Zd (fun i (hi':i<l.length) (hh:¬(lo≤aC l i∧aC l i≤hi))=>(show mO w (.bool (zA lo hi l)) (.returned (.bool false)) w from⟨by
  rcases hb:zA lo hi l with _|_
  ·rfl
  exact absurd ((Ew lo hi l).1 hb i hi') hh,rfl⟩))
 generalize mO w (.bool (zA lo hi l))=T at *
 go_enter func90,ntmps90
 go_wp2_with fail
 go_loop [11] (fun i=>∃k:Nat,i=.int .i64 k∧k≤l.length∧Hid (∀i,i<k→lo≤aC l i∧aC l i≤hi)) (fun i=>l.length-(intOf i).toNat)
 case atStart=>exact⟨0,rfl,Nat.zero_le _,fun i hi=>gA⟩
 case round=>
  obtain⟨k,rfl,hk,hG⟩:=hrel
  by_cases jS:k<l.length
  ·obtain⟨a,rfl,hv⟩:=bH gA
   have hck:=hv k jS
   have NK:=Zd (N.out k jS)
   have GK:=Zd (fun(hh:lo≤aC l k∧aC l k≤hi)=>(show ∀i,i<k+1→lo≤aC l i∧aC l i≤hi from fun i hi=>by
    rcases Nat.lt_or_ge i k with g|g
    ·exact hG.out i g
    obtain rfl:i=k:=gA
    exact hh))
   clear bH hv hG
   generalize aC l k=z at *
   have kl1:(k:Int)<l.length:=gA
   have ST:=Zd (iE z lo hi w)
   by_cases hz:lo≤z∧z≤hi
   ·have F:=Zd (GK.out hz)
    rw[decide_eq_true hz]at ST
    clear hz
    go_wp2_with fail
    refine ST.out.mono ?_
    rintro e w1 ⟨rfl,rfl⟩
    clear ST
    go_wp2_with fail
    go_round
    case rel=>exact⟨k+1,by go_num,gA,F.out⟩
    case measure=>simp[intOf];omega
   have F:=Zd (NK.out hz)
   rw[decide_eq_false hz]at ST
   clear hz
   go_wp2_with fail
   refine ST.out.mono ?_
   rintro e w1 ⟨rfl,rfl⟩
   clear ST
   go_wp2_with fail
   exact F.out
  obtain rfl:k=l.length:=gA
  have F:=Zd (Y.out hG.out)
  clear bH hG
  go_wp2_with fail
  exact F.out
theorem mZ (l:List Int)(s:Bool)(hl:l.length=101)(w:World):Calls prog 31 #[dI l s] w (jk w (.bool (cO l))):=by
 have B0:=Zd (dA.new w l s)
 have G0:=Zd (ak w (.cells (aU l s).toArray 29) none)
 have HL:=Zd hl
 have PT:=Zd (mX l)
 obtain⟨T,hT⟩:∃T:Ending→World→Prop,jk w (.bool (cO l))=T:=⟨_,rfl⟩
 rw[hT]
 have FN:=Zd (fun(h:¬cO l=true) w' (g:w.grownBy w' none)=>(show T (.returned (.bool false)) w' from by rw[←hT];exact⟨by rw[show cO l=false by simpa using h],g⟩))
 have FY:=Zd (fun(h:cO l=true) w' (g:w.grownBy w' none)=>(show T (.returned (.bool true)) w' from by rw[←hT];exact⟨by rw[h],g⟩))
 clear hT hl
 unfold dI
 generalize aU l s=cs at *
 go_enter func31,ntmps31
 go_upto_region 1 with fail
 generalize w.alloc (.cells cs.toArray 29)=W0 at *
 have c96:=B0.out.cell 96 (by rw[HL.out];omega)
 have c97:=B0.out.cell 97 (by rw[HL.out];omega)
 have c98:=B0.out.cell 98 (by rw[HL.out];omega)
 have c99:=B0.out.cell 99 (by rw[HL.out];omega)
 have aaf:=B0.out.cell 100 (by rw[HL.out];omega)
 have IR:=Zd (B0.out.ints 0 8 8 (by rw[HL.out];omega) gA)
 have IP:=Zd (B0.out.ints 8 8 8 (by rw[HL.out];omega) gA)
 have IE:=Zd (B0.out.ints 16 80 80 (by rw[HL.out];omega) gA)
 go_wp2_with fail
 refine(yJ _ (bP l 0 8) (-31000) 31000 _ IR.out (by rw[aR];omega)).mono ?_
 rintro e w0 ⟨rfl,rfl⟩
 rcases hb0:zA (-31000) 31000 (bP l 0 8)with _|_
 ·have F:=Zd (FN.out (fun q=>by have:zA (-31000) 31000 (bP l 0 8)=true:=(Ki l).2 ((PT.out.1 q).1);rw[hb0]at this;cases this) _ G0.out)
  go_wp2_with fail
  exact F.out
 go_wp2_with fail
 refine(yJ _ (bP l 8 8) (-32768) 32767 _ IP.out (by rw[aR];omega)).mono ?_
 rintro e w1 ⟨rfl,rfl⟩
 rcases hb1:zA (-32768) 32767 (bP l 8 8)with _|_
 ·have F:=Zd (FN.out (fun q=>by have:zA (-32768) 32767 (bP l 8 8)=true:=(PT.out.1 q).2.1;rw[hb1]at this;cases this) _ G0.out)
  go_wp2_with fail
  exact F.out
 go_wp2_with fail
 refine(yJ _ (bP l 16 80) (-32768) 32767 _ IE.out (by rw[aR];omega)).mono ?_
 rintro e w2 ⟨rfl,rfl⟩
 rcases hb2:zA (-32768) 32767 (bP l 16 80)with _|_
 ·have F:=Zd (FN.out (fun q=>by have:zA (-32768) 32767 (bP l 16 80)=true:=(PT.out.1 q).2.2.1;rw[hb2]at this;cases this) _ G0.out)
  go_wp2_with fail
  exact F.out
 go_wp2_with fail
 have WI3:=Zd (fun u=>iE (aC l 96) 0 32767 u)
 by_cases hb3:0≤aC l 96∧aC l 96≤32767
 rotate_left
 ·rw[decide_eq_false hb3]at WI3
  refine(WI3.out _).mono ?_
  rintro e w3 ⟨rfl,rfl⟩
  have F:=Zd (FN.out (fun q=>hb3 (PT.out.1 q).2.2.2.1) _ G0.out)
  clear hb3 WI3
  go_wp2_with fail
  exact F.out
 rw[decide_eq_true hb3]at WI3
 refine(WI3.out _).mono ?_
 rintro e w3 ⟨rfl,rfl⟩
 have HB3:=Zd hb3
 clear hb3 WI3
 go_wp2_with fail
 have WI4:=Zd (fun u=>iE (aC l 97) 0 18022 u)
 by_cases hb4:0≤aC l 97∧aC l 97≤18022
 rotate_left
 ·rw[decide_eq_false hb4]at WI4
  refine(WI4.out _).mono ?_
  rintro e w4 ⟨rfl,rfl⟩
  have F:=Zd (FN.out (fun q=>hb4 (PT.out.1 q).2.2.2.2.1) _ G0.out)
  clear hb4 WI4
  go_wp2_with fail
  exact F.out
 rw[decide_eq_true hb4]at WI4
 refine(WI4.out _).mono ?_
 rintro e w4 ⟨rfl,rfl⟩
 have HB4:=Zd hb4
 clear hb4 WI4
 go_wp2_with fail
 have WI5:=Zd (fun u=>iE (aC l 98) 20 79 u)
 by_cases hb5:20≤aC l 98∧aC l 98≤79
 rotate_left
 ·rw[decide_eq_false hb5]at WI5
  refine(WI5.out _).mono ?_
  rintro e w5 ⟨rfl,rfl⟩
  have F:=Zd (FN.out (fun q=>hb5 (PT.out.1 q).2.2.2.2.2.1) _ G0.out)
  clear hb5 WI5
  go_wp2_with fail
  exact F.out
 rw[decide_eq_true hb5]at WI5
 refine(WI5.out _).mono ?_
 rintro e w5 ⟨rfl,rfl⟩
 have HB5:=Zd hb5
 clear hb5 WI5
 go_wp2_with fail
 have WI6:=Zd (fun u=>iE (aC l 99) 0 6 u)
 by_cases hb6:0≤aC l 99∧aC l 99≤6
 rotate_left
 ·rw[decide_eq_false hb6]at WI6
  refine(WI6.out _).mono ?_
  rintro e w6 ⟨rfl,rfl⟩
  have F:=Zd (FN.out (fun q=>hb6 (PT.out.1 q).2.2.2.2.2.2.1) _ G0.out)
  clear hb6 WI6
  go_wp2_with fail
  exact F.out
 rw[decide_eq_true hb6]at WI6
 refine(WI6.out _).mono ?_
 rintro e w6 ⟨rfl,rfl⟩
 have HB6:=Zd hb6
 clear hb6 WI6
 go_wp2_with fail
 have WI7:=Zd (fun u=>iE (aC l 100) 0 65535 u)
 by_cases hb7:0≤aC l 100∧aC l 100≤65535
 rotate_left
 ·rw[decide_eq_false hb7]at WI7
  refine(WI7.out _).mono ?_
  rintro e w7 ⟨rfl,rfl⟩
  have F:=Zd (FN.out (fun q=>hb7 (PT.out.1 q).2.2.2.2.2.2.2) _ G0.out)
  clear hb7 WI7
  go_wp2_with fail
  exact F.out
 rw[decide_eq_true hb7]at WI7
 refine(WI7.out _).mono ?_
 rintro e w7 ⟨rfl,rfl⟩
 have HB7:=Zd hb7
 clear hb7 WI7
 have F:=Zd (FY.out (PT.out.2 ⟨(Ki l).1 hb0,hb1,hb2,HB3.out,HB4.out,HB5.out,HB6.out,HB7.out⟩) _ G0.out)
 go_wp2_with fail
 exact F.out
theorem Ba (w:World):Sem.run prog (Instr.build 29 #[(5,.int .i64 20),(7,.int .i64 21845)]) w=.ok (dI iL false) w:=by kernel_rfl
theorem xS {ops:Array Oper}{rest:List Oper}{op:Oper}{a:Act}{w:World}{Q:Exit→Act→World→Prop}(hgd:op.guard=none)(x y:Operand)(ho:op.op=.build 29 #[(5,x),(7,y)])(hx:a.eval x=.int .i64 20)(hy:a.eval y=.int .i64 21845)
 (k:wpList prog ops Q rest (a.put op.dst (dI iL false)) w):wpList prog ops Q (op::rest) a w:=by
 refine wpList_plain hgd fun _ hK=>?_
 unfold Oper.wp execOp
 have e:(#[(5,x),(7,y)]:Array (Nat×Operand)).map (fun(i,x)=>(i,a.eval x))=#[(5,.int .i64 20),(7,.int .i64 21845)]:=by simp[hx,hy]
 simp only[ho,e,Sem.run_bind,Ba,Result.andThen_ok,Sem.run_pure]
 exact hK _ _ k
theorem zB (w:World):Calls prog 30 #[] w (jk w (dI iL false)):=by
 have B0:=Zd (dA.new w (ay 101) false)
 have PU:=B0.out.fu (m:=iL) (t:=false) (au 101) jH
 have PB:=Zd PU.1
 have PG:=Zd (aG (ak w (.cells (aU (ay 101) false).toArray 29) none) PU.2 (Nat.le_refl _))
 have S1:=Zs ((aU iL false).length=102) (aX jH false)
 have S0:=Zs ((aU (ay 101) false).length=102) (aX (au 101) false)
 have O1:=Zd (dY iL false)
 have hz:=gV
 have F:=Zs (jk w (dI iL false) (.returned (dI iL false)) (dQ (w.alloc (.cells (aU (ay 101) false).toArray 29)) w.heap.size 0 (aU iL false))) (⟨rfl,PG.out⟩)
 clear PU
 generalize jk w (dI iL false)=T at *
 have BF:=Zd (fun ops rest op a w Q=>@xS ops rest op a w Q)
 unfold dI at hz F BF
 unfold dA at B0 PB
 generalize aU (ay 101) false=Z at *
 generalize aU iL false=M at *
 go_enter func30,ntmps30
 go_wp2_with (first|refine BF.out _ _ _ _ _ _ rfl _ _ rfl rfl rfl ?_|refine sV 0 M B0.out (by rw[S0.out,S1.out];omega) (by rw[S1.out];exact aY) O1.out ?_)
 have eO:=wV PB.out (by rw[S1.out];exact aY)
 refine bodyPost_ret (v:=.agg M.toArray) ?_ rfl F.out
 simp[results,results30,asAddr,Act.put,eO]
theorem sI (A l x:List Int)(s:Bool)(hA:A.length=9)(hl:l.length=101)(v:Value)(w:World)(h:aS w v x)(hsh:rR v x)(hx:x.length*8≤140737488351232) :
 Calls prog 110 #[dI l s,.agg (aD A),v] w (Kg w (qo A l x) s (uM A l x)):=by
 have Q0:=Zd (Kh.new w 58 A l s)
 have MK:=Zd (fun wr (g:w.grownBy wr none)=>Qb A (bP l 8 8) hA (aR _ _ _) v x wr (aP h g) hsh hx)
 rw[show xQ A (bP l 8 8) x=uM A l x from rfl]at MK
 have F:=Zs (∀v' w',gP w.heap.size w' v' (uM A l x)→w.grownBy w' none→Kg w (qo A l x) s (uM A l x) (.returned (.tuple #[dI (jr l 8 (Du A (bP l 8 8) x)) s,v'])) w') (fun v' w' o q=>⟨v',rfl,o,q⟩)
 have PL:=Zd (rQ A (bP l 8 8) x)
 have HA:=Zd hA
 have HL:=Zd hl
 have CL:=Zd (aX hl s)
 have P8:=Zd (dA.part (l:=l) s 8 8 gA)
 have A8:=Zs (((aO A).drop 0).take 9=aO A) (by rw[List.drop_zero,List.take_of_length_le (by rw[aM,hA];omega)])
 have ZL:=Zd (aX (au 101) false)
 have hz:=gV
 clear h hsh hx hA hl
 generalize Kg w (qo A l x) s (uM A l x)=T at *
 generalize I8 A (bP l 8 8) x=fe at *
 generalize Du A (bP l 8 8) x=PP at *
 generalize uM A l x=LX at *
 unfold dI at F hz ⊢
 go_enter func110,ntmps110
 go_upto_region 1 with fail
 generalize ((w.alloc (.cells (aU l s).toArray 29)).alloc (.cells (aD A) 58)).alloc (.cells (aU (ay 101) false).toArray 29)=W0 at *
 clear hz
 go_wp2_with (first|refine lV 0 Q0.out.2.1 dz (by rw[aM,HA.out];omega) A8.out ?_|refine lV 8 Q0.out.1 dV (by rw[CL.out];omega) P8.out ?_)
 refine(MK.out W0 Q0.out.2.2.2).mono ?_
 rintro e W1 ⟨v1,rfl,o1,g1⟩
 obtain⟨b1,b2,b3⟩:=dL W1 26 8 PP PL.out
 have B1:=Zd b1
 have B2:=Zd b2
 have Q2:=Zd ((Q0.out.aH g1).aH b3)
 have N1:=Zs (w.heap.size+1+1+1≤W1.heap.size) ((Q0.out.aH g1).2.2.1.lt)
 have O2:=Zd ((o1.base (b':=w.heap.size+1+1+1) (show w.heap.size+1+1+1≤W0.heap.size from Q0.out.2.2.1.lt)).aH b3)
 rw[rF]at B1 B2 Q2 O2
 clear g1 o1 b1 b2 b3 MK Q0
 go_upto_region 2 with(first|refine sA PP B1.out (by rw[PL.out,au]) (by rw[au];exact dV) ?_)
 (try simp only[Act.put])
 generalize bT _ W1.heap.size PP=W2 at *
 generalize W1.heap.size=bp at *
 have PU:=Q2.out.put 8 PP (by rw[PL.out,HL.out];omega)
 have Q3:=Zd PU.1
 have O3:=Zd (O2.out.dK PU.2 gA)
 have ID:=Zd (d9 PP)
 have IL:=Zs ((aO PP).length=8) (by rw[aM];exact PL.out)
 clear PU
 go_upto_region 3 with(first|refine lA B2.out (by rw[PL.out];exact dV) ?_|refine sV 8 (aO PP) Q2.out.1 (by rw[IL.out,CL.out];omega) (by rw[IL.out];exact dV) ID.out ?_)
 (try simp only[Act.put])
 generalize dQ W2 w.heap.size 8 (aO PP)=W3 at *
 have L5:=Zs ((jr l 8 PP).length=101) (by rw[eG];exact HL.out)
 generalize jr l 8 PP=m at *
 have A5:=Zd (dA.all s L5.out)
 have C5:=Zd (aX L5.out s)
 have ON:=Zd (dY m s)
 have PB:=Zd (Q3.out.fin m s L5.out)
 have O6:=Zd (O3.out.dK PB.out.2.2 gA)
 have FF:=Zd (F.out _ _ (O6.out.base (b':=w.heap.size) gA) PB.out.2.1)
 go_wp2_with (first|refine lV 0 Q3.out.1 aY (by rw[C5.out];omega) A5.out ?_|refine sV 0 (aU m s) Q3.out.2.2.1 (by rw[ZL.out,C5.out];omega) (by rw[C5.out];exact aY) ON.out ?_)
 have eO:=wV PB.out.1 (by rw[C5.out];exact aY)
 refine bodyPost_ret (v:=.tuple #[.agg (aU m s).toArray,_]) ?_ rfl FF.out
 simp[results,results110,asAddr,Act.put,eO]
theorem zC (l:List Int)(s:Bool)(k:Int)(hl:l.length=101)(w:World) :
 Calls prog 37 #[dI l s,.int .i64 k] w (jk w (dI (if k=1 then iL else l) (if k=1 then false else s))):=by
 have M0:=Zd (Ar.new w l s)
 have FR:=Zd (fun u=>zB u)
 have FL:=Zd jH
 have HL:=Zd hl
 have CL:=Zd (aX hl s)
 have AL:=Zd (dA.all s hl)
 have ZL:=Zd (aX (au 101) false)
 have hz:=gV
 clear hl
 by_cases hk:k=1
 ·have hk1:(k==1)=true:=beq_iff_eq.2 hk
  rw[if_pos hk,if_pos hk]
  have F:=Zs (∀w',w.grownBy w' none→jk w (dI iL false) (.returned (dI iL false)) w') (fun w' q=>⟨rfl,q⟩)
  clear hk
  generalize jk w (dI iL false)=T at *
  generalize iL=fl at *
  unfold jk dI at FR
  unfold dI at F hz ⊢
  go_enter func37,ntmps37
  go_upto_region 1 with fail
  generalize (w.alloc (.cells (aU l s).toArray 29)).alloc (.cells (aU (ay 101) false).toArray 29)=W0 at *
  clear hz
  go_wp2_with fail
  refine(FR.out W0).mono ?_
  rintro e W1 ⟨rfl,g1⟩
  have M1:=Zd (M0.out.aH g1)
  have PB:=Zd (M1.out.fin fl false FL.out)
  have FF:=Zd (F.out _ PB.out.2)
  have CF:=Zd (aX FL.out false)
  have ON:=Zd (dY fl false)
  clear g1 FR
  go_wp2_with (first|refine sV 0 (aU fl false) M1.out.2.1 (by rw[ZL.out,CF.out];omega) (by rw[CF.out];exact aY) ON.out ?_)
  have eO:=wV PB.out.1 (by rw[CF.out];exact aY)
  refine bodyPost_ret (v:=.agg (aU fl false).toArray) ?_ rfl FF.out
  simp[results,results37,asAddr,Act.put,eO]
 have hk1:(k==1)=false:=beq_eq_false_iff_ne.2 hk
 rw[if_neg hk,if_neg hk]
 have F:=Zs (∀w',w.grownBy w' none→jk w (dI l s) (.returned (dI l s)) w') (fun w' q=>⟨rfl,q⟩)
 clear hk FR
 generalize jk w (dI l s)=T at *
 unfold dI at F hz ⊢
 go_enter func37,ntmps37
 go_upto_region 1 with fail
 generalize (w.alloc (.cells (aU l s).toArray 29)).alloc (.cells (aU (ay 101) false).toArray 29)=W0 at *
 clear hz
 have PB:=Zd (M0.out.fin l s HL.out)
 have FF:=Zd (F.out _ PB.out.2)
 have ON:=Zd (dY l s)
 go_wp2_with (first|refine lV 0 M0.out.1 aY (by rw[CL.out];omega) AL.out ?_|refine sV 0 (aU l s) M0.out.2.1 (by rw[ZL.out,CL.out];omega) (by rw[CL.out];exact aY) ON.out ?_)
 have eO:=wV PB.out.1 (by rw[CL.out];exact aY)
 refine bodyPost_ret (v:=.agg (aU l s).toArray) ?_ rfl FF.out
 simp[results,results37,asAddr,Act.put,eO]
theorem ae5 {k:IntKind}{a b:Int}(h:a=b):Ending.returned (.int k a)=.returned (.int k b):=by rw[h]
theorem Qm (i:Int)(w:World):Calls prog 159 #[.int .i64 i] w fun e w'=>e=.returned (.int .i64 (ku i))∧w'=w:=by
 unfold ku
 by_cases h1:i<0
 ·rw[if_pos (.inl h1)]
  go_enter func159,ntmps159
  go_wp2_with fail
  go_ret
  exact⟨rfl,rfl⟩
 by_cases h2:120≤i
 ·rw[if_pos (.inr gA)]
  go_enter func159,ntmps159
  go_wp2_with fail
  go_ret
  exact⟨rfl,rfl⟩
 rw[if_neg gA]
 by_cases h3:59<i
 ·rw[if_pos h3]
  have hm:min i (119-i)=119-i:=gA
  have hm':(if 119-i<i then 119-i else i)=119-i:=by rw[if_pos gA]
  have E:=Zs ((32767*(2*(119-i)+1)).tdiv 119=32767*(2*(119-i)+1) / 119) (Int.tdiv_eq_ediv_of_nonneg gA)
  go_enter func159,ntmps159
  go_wp2_with fail
  go_ret
  exact⟨by first|rfl|(rw[←E.out]),rfl⟩
 rw[if_neg h3]
 have hm:min i (119-i)=i:=gA
 have hm':(if 119-i<i then 119-i else i)=i:=by rw[if_neg gA]
 have E:=Zs ((32767*(2*i+1)).tdiv 119=32767*(2*i+1) / 119) (Int.tdiv_eq_ediv_of_nonneg gA)
 go_enter func159,ntmps159
 go_wp2_with fail
 go_ret
 exact⟨by first|rfl|(rw[←E.out]),rfl⟩
theorem Je (x:Int)(h0:-4611686018427387904≤x)(h1:x≤4611686018427387904)(w:World) :
 Calls prog 158 #[.int .i64 x,.int .i64 12] w fun e w'=>e=.returned (.int .i64 ((x+2048) / 4096))∧w'=w:=by
 go_enter func158,ntmps158
 go_wp2_with fail
 go_ret
 exact⟨rfl,rfl⟩
theorem Jf (x:Int)(h0:-4611686018427387904≤x)(h1:x≤4611686018427387904)(w:World) :
 Calls prog 158 #[.int .i64 x,.int .i64 15] w fun e w'=>e=.returned (.int .i64 ((x+16384) / 32768))∧w'=w:=by
 go_enter func158,ntmps158
 go_wp2_with fail
 go_ret
 exact⟨rfl,rfl⟩
theorem gI (v:Value)(l:List Int)(w:World)(h:aS w v l)(hl:l.length≤1000000000000000000) :
 Calls prog 92 #[v] w fun e w'=>e=.returned (.bool (aL l))∧w'=w:=by
 obtain⟨ad,c,rfl,hc,bH⟩:=h
 have Y:=Zd (fun(hh:∀i,i<l.length→-32768≤aC l i∧aC l i≤32767)=>(show aL l=true from(aV l).2 hh))
 have N:=Zd (fun i (hi:i<l.length) (hh:¬(-32768≤aC l i∧aC l i≤32767))=>(show aL l=false from by
  rcases hb:aL l with _|_
  ·rfl
  exact absurd ((aV l).1 hb i hi) hh))
 generalize aL l=B at *
 go_enter func92,ntmps92
 go_wp2_with fail
 go_loop [9] (fun i=>∃k:Nat,i=.int .i64 k∧k≤l.length∧Hid (∀i,i<k→-32768≤aC l i∧aC l i≤32767)) (fun i=>l.length-(intOf i).toNat)
 case atStart=>exact⟨0,rfl,Nat.zero_le _,fun i hi=>gA⟩
 case round=>
  obtain⟨k,rfl,hk,hG⟩:=hrel
  by_cases jS:k<l.length
  ·obtain⟨a,rfl,hv⟩:=bH gA
   have hck:=hv k jS
   have NK:=Zd (N.out k jS)
   have GK:=Zd (fun(hh:-32768≤aC l k∧aC l k≤32767)=>(show ∀i,i<k+1→-32768≤aC l i∧aC l i≤32767 from fun i hi=>by
    rcases Nat.lt_or_ge i k with g|g
    ·exact hG.out i g
    obtain rfl:i=k:=gA
    exact hh))
   clear bH hv hG
   generalize aC l k=z at *
   have SA:=Zd (qC z)
   by_cases b1:-32768≤z∧z≤32767
   ·have F:=Zd (GK.out b1)
    have o:o16 z=false:=by unfold o16;rw[Ee z b1.1 b1.2];simp
    rw[o]at SA
    clear b1 o
    go_wp2_with fail
    refine(SA.out _).mono ?_
    rintro e w1 ⟨rfl,rfl⟩
    clear SA
    go_wp2_with fail
    go_round
    case rel=>exact⟨k+1,by go_num,gA,F.out⟩
    case measure=>simp[intOf];omega
   have F:=Zd (NK.out b1)
   have o:o16 z=true:=by
    have:eU z≠z:=fun e=>by have:=kK z;omega
    unfold o16;simpa using this
   rw[o]at SA
   clear b1 o
   go_wp2_with fail
   refine(SA.out _).mono ?_
   rintro e w1 ⟨rfl,rfl⟩
   clear SA
   go_wp2_with fail
   go_ret
   exact⟨by rw[F.out];rfl,rfl⟩
  obtain rfl:k=l.length:=gA
  have F:=Zd (Y.out hG.out)
  clear bH hG
  go_wp2_with fail
  go_ret
  exact⟨by rw[F.out];rfl,rfl⟩
theorem Vs (x0 x1 y0 y1 x:Int)(a1:-32768≤x0)(a2:x0≤32767)(b1:-32768≤x1)(b2:x1≤32767)(c1:-32768≤y0)(c2:y0≤32767)(d1:-32768≤y1)(d2:y1≤32767)(e1:-32768≤x)(e2:x≤32767)(w:World) :
 Calls prog 93 #[.agg #[.int .i64 x0,.int .i64 x1,.int .i64 y0,.int .i64 y1],.int .i64 x] w fun e w'=>e=.returned (.int .i64 (hiS x x0 x1 y0 y1))∧w'=w.alloc (.cells #[.int .i64 x0,.int .i64 x1,.int .i64 y0,.int .i64 y1] 24):=by
 obtain⟨S,hS⟩:∃S,S=3798*x-7596*x0+3798*x1+7807*y0-3733*y1:=⟨_,rfl⟩
 have E:=Zd (show hiS x x0 x1 y0 y1=eU ((S+2048) / 4096) by
  unfold hiS
  rw[show 3798*(x-2*x0+x1)+7807*y0-3733*y1+2048=S+2048 by omega])
 have RO:=Zd (Je S gA gA)
 have SA:=Zd (qC ((S+2048) / 4096))
 have HS:=Zd hS
 clear hS
 go_enter func93,ntmps93
 go_wp2_with fail
 rw[←HS.out]
 refine(RO.out _).mono ?_
 rintro e w1 ⟨rfl,rfl⟩
 go_wp2_with fail
 refine(SA.out _).mono ?_
 rintro e w1 ⟨rfl,rfl⟩
 go_wp2_with fail
 go_ret
 exact⟨ae5 (by rw[E.out]),rfl⟩
theorem YK:(prog.info? 25).bind (·.zero)=some (.agg (aD (ay 120))):=by kernel_rfl
theorem DJ:(prog.info? 25).map (·.size)=some 120:=by kernel_rfl
def pY (l:List Int):List Int:=(List.range 120).map (wN l)
theorem xu (l:List Int):(pY l).length=120:=by simp[pY]
theorem Kt (l:List Int)(i:Nat)(hi:i<120):aC (pY l) i=wN l i:=by simp[pY,aC,List.getD,hi]
theorem acC {l rs:List Int}(h:Fq l 120 rs):rs=pY l:=by
 apply List.ext_getElem
 ·rw[xu];exact h.1
 intro i h1 h2
 have:=h.2 i (by have:=h.1;omega)
 rw[←Kt l i (by have:=h.1;omega)]at this
 simpa [aC,List.getD,h1,h2] using this
theorem Mx (v:Value)(l:List Int)(w:World)(h:aS w v l)(hl:l.length=120)(hr:aL l=true) :
 Calls prog 94 #[v] w fun e w'=>e=.returned (.agg (aD (pY l)))∧w.grownBy w' none:=by
 have HI:=Zd h
 have RI:=Zd ((aV l).1 hr)
 obtain⟨ad,c,rfl,hc,bH⟩:=h
 obtain⟨a,rfl,hv⟩:=bH gA
 have HV:=Zd hv
 have HL:=Zd hl
 rw[hl]at HI HV RI ⊢
 have hz:=fun u=>gM YK u
 clear bH hv hl hr hc
 go_enter func94,ntmps94
 go_wp2_with fail
 clear hz
 have B0:=Zs (bO ((w.alloc (.cells (aD (ay 120)) 25)).alloc (.cells (aD (ay 120)) 25)) w.heap.size 25 (ay 120)) ((bO.new w _ _).aH (ak _ _ none))
 have B1:=Zs (bO ((w.alloc (.cells (aD (ay 120)) 25)).alloc (.cells (aD (ay 120)) 25)) (w.heap.size+1) 25 (ay 120)) (by simpa using bO.new (w.alloc (.cells (aD (ay 120)) 25)) 25 (ay 120))
 have G0:=Zd (aB (ak w (.cells (aD (ay 120)) 25) none) (ak _ (.cells (aD (ay 120)) 25) none))
 generalize (w.alloc (.cells (aD (ay 120)) 25)).alloc (.cells (aD (ay 120)) 25)=W0 at *
 go_loopw [8] (fun i wr=>∃(k:Nat) (rs:List Int),i=.int .i64 k∧k≤120∧Hid (Fq l k rs)∧Hid (bO wr w.heap.size 25 (ay 120)∧bO wr (w.heap.size+1) 25 rs∧w.grownBy wr none)) (fun i _=>120-(intOf i).toNat)
 case atStart=>exact⟨0,ay 120,rfl,Nat.zero_le _,⟨au _,fun j hj=>gA⟩,B0.out,B1.out,G0.out⟩
 case round=>
  obtain⟨k,rs,rfl,hk,hF,hM⟩:=hrel
  by_cases jS:k<120
  ·have ck:=bA hM.out.2.2 (HV.out k jS)
   obtain⟨r1,r2⟩:=RI.out k jS
   have FW:=Zd (Qm (k:Int))
   obtain⟨m1,m2⟩:=yN k
   obtain⟨m3,m4⟩:=Mv _ _ r1 r2 m1 m2
   have RO:=Zd (Jf (aC l k*ku k) gA gA)
   have WN:=Zs ((aC l k*ku k+16384) / 32768=wN l k) (rfl)
   have NX:=Zd (Ko l rs k hF.out jS)
   have hlen:rs.length=120:=hF.out.1
   have cd:=hM.out.2.1.cell k gA
   have fd:=hM.out.2.1.free k
   have MX:=Zd (show bO (wr.setCell ⟨w.heap.size+1,k,none⟩ (.int .i64 (wN l k))) w.heap.size 25 (ay 120)∧bO (wr.setCell ⟨w.heap.size+1,k,none⟩ (.int .i64 (wN l k))) (w.heap.size+1) 25 (rs.set k (wN l k))∧w.grownBy (wr.setCell ⟨w.heap.size+1,k,none⟩ (.int .i64 (wN l k))) none from
    ⟨hM.out.1.aJ (aF _ ⟨w.heap.size+1,k,none⟩ _) (by simp),hM.out.2.1.set k _,aG hM.out.2.2 (aF _ ⟨w.heap.size+1,k,none⟩ _) (by simp)⟩)
   clear hF hM m1 m2 hlen
   generalize ku (k:Int)=q at *
   generalize aC l k=z at *
   generalize aC rs k=y at *
   go_wp2_with fail
   refine(FW.out _).mono ?_
   rintro e w1 ⟨rfl,rfl⟩
   go_wp2_with fail
   refine(RO.out _).mono ?_
   rintro e w1 ⟨rfl,rfl⟩
   rw[WN.out]
   clear RO FW
   go_wp2_with fail
   go_roundw
   case rel=>exact⟨k+1,_,by go_num,gA,NX.out,MX.out⟩
   case measure=>simp[intOf];omega
  obtain rfl:k=120:=gA
  have hlen:rs.length=120:=hF.out.1
  obtain rfl:=acC hF.out
  have BA:=Zd hM.out.2.1
  have BB:=Zd hM.out.1
  have PU:=bB (rs':=pY l) hM.out.1 (by rw[hlen,au])
  have eO:=lS PU.1 (by rw[hlen];exact DJ)
  have GF:=Zd (aG hM.out.2.2 PU.2 (Nat.le_refl _))
  clear hF hM PU
  go_wp2_with (first|refine lA BA.out (by rw[hlen];exact DJ) ?_|refine sA (pY l) BB.out (by rw[hlen,au]) (by rw[au];exact DJ) ?_)
  refine bodyPost_ret (v:=.agg (aD (pY l))) ?_ rfl ⟨rfl,GF.out⟩
  simp[results,results94,asAddr,Act.put,eO]
theorem Cm {f:Nat→Int}(hB:∀i,-32768≤f i∧f i≤32768)(k m:Nat)(hm:m≤120):-200000000000≤gB f k m∧gB f k m≤200000000000:=by
 obtain⟨a,b⟩:=tX f k hB m
 omega
theorem Qn (f:Nat→Int)(hB:∀i,-32768≤f i∧f i≤32768)(b k c1 c2:Nat)(hk:k≤120)(w:World)(hc:∀i,i<120→w.cell? ⟨b,i,none⟩=some (.int .i64 (f i)))(h1:120-k≤c1)(h2:120-k≤c2) :
 Calls prog 95 #[.slice (some ⟨b,k,none⟩) (120-k) c1,.slice (some ⟨b,0,none⟩) (120-k) c2] w fun e w'=>e=.returned (.int .i64 (mR f k))∧w'=w:=by
 have HC:=Zd hc
 have SB:=Zd (Cm hB k)
 have HB:=Zd hB
 have h_:=Zs (mR f k=gB f k (120-k)) (rfl)
 obtain⟨n,hn⟩:∃n,n=120-k:=⟨_,rfl⟩
 rw[←hn]at h1 h2 h_ ⊢
 have hnk:n+k=120:=gA
 clear hc hn hk hB
 go_enter func95,ntmps95
 go_wp2_with fail
 go_loop [5,10] (fun s i=>∃m:Nat,i=.int .i64 m∧m≤n∧s=.int .i64 (gB f k m)) (fun _ i=>n-(intOf i).toNat)
 case atStart=>exact⟨0,rfl,Nat.zero_le _,rfl⟩
 case round=>
  obtain⟨m,rfl,hm,rfl⟩:=hrel
  by_cases hmn:m<n
  ·have ca:=HC.out (k+m) gA
   have cb:=HC.out m gA
   obtain⟨s1,s2⟩:=SB.out m gA
   obtain⟨q1,q2⟩:=HB.out (k+m)
   obtain⟨q3,q4⟩:=HB.out m
   obtain⟨p1,p2⟩:=DF _ _ q1 q2 q3 q4
   have ES:=Zd (show gB f k (m+1)=gB f k m+f (k+m)*f m by
    show gB f k m+f m*f (m+k)=_
    rw[Nat.add_comm m k,Int.mul_comm])
   have ad1:(⟨b,k,none⟩:Addr).add m=⟨b,k+m,none⟩:=Addr.add_mid _ _ _
   have ad2:(⟨b,0,none⟩:Addr).add m=⟨b,m,none⟩:=by rw[Addr.add_mid,Nat.zero_add]
   clear q1 q2 q3 q4
   generalize gB f k m=S at *
   generalize f (k+m)=x at *
   generalize f m=y at *
   go_wp2_with fail
   go_round
   case rel=>exact⟨m+1,by go_num,gA,by rw[ES.out]⟩
   case measure=>simp[intOf];omega
  obtain rfl:m=n:=gA
  go_wp2_with fail
  go_ret
  exact⟨ae5 (by rw[h_.out]),rfl⟩
theorem aam (n:Nat)(hn:n≤37)(z:Int)(h0:-274877906944≤z)(h1:z≤274877906944)(hb:-9223372036854775808≤Kn n z)(hb':Kn n z≤9223372036854775807)(w:World) :
 Calls prog 97 #[.int .i64 z,.int .i64 ((n:Int)-31)] w fun e w'=>e=.returned (.int .i64 (Kn n z))∧w'=w:=by
 unfold Kn at hb hb' ⊢
 by_cases h:n<31
 ·rw[if_neg gA]at hb hb' ⊢
  have e:(-((n:Int)-31)).toNat=31-n:=gA
  have hlt:(n:Int)-31<0:=gA
  go_enter func97,ntmps97
  go_wp2_with fail
  go_ret
  exact⟨ae5 (by first|rfl|(rw[e])|(simp[e])),rfl⟩
 have hge:¬(n:Int)-31<0:=gA
 have e:((n:Int)-31).toNat=n-31:=gA
 have E:=Zd (show(if 31<n then z / 2^(n-31)else z*2^(31-n))=z / 2^(n-31) by
  split
  ·rfl
  rw[show n-31=0 by omega,show 31-n=0 by omega];simp)
 rw[E.out]at hb hb' ⊢
 go_enter func97,ntmps97
 go_wp2_with fail
 go_ret
 exact⟨ae5 (by first|rfl|(rw[e])|(simp[e])),rfl⟩
def ae6:Go.Shelf.Ren:=⟨fun n=>if n=125 then 96 else if n=128 then 160 else 161,fun n=>if n=3 then 3 else if n=4 then 4 else if n=5 then 5 else if n=9 then 9 else if n=46 then 91 else if n=51 then 157 else 148,fun n=>n⟩
theorem acD:Go.Proofs.Lays.n125 prog ae6 where
 mixed:=by kernel_rfl
 f125:=by kernel_rfl
 f128:=by kernel_rfl
 f129:=by kernel_rfl
 t3:=by kernel_rfl
 a3:=fun _=>by kernel_rfl
 z3:=fun _=>by kernel_rfl
 v3:=fun _=>by kernel_rfl
 t4:=by kernel_rfl
 a4:=fun _=>by kernel_rfl
 z4:=fun _=>by kernel_rfl
 v4:=fun _=>by kernel_rfl
 t5:=by kernel_rfl
 a5:=fun _=>by kernel_rfl
 z5:=fun _=>by kernel_rfl
 v5:=fun _=>by kernel_rfl
 t9:=by kernel_rfl
 a9:=fun _=>by kernel_rfl
 z9:=fun _=>by kernel_rfl
 v9:=fun _=>by kernel_rfl
 t46:=by kernel_rfl
 a46:=fun _=>by kernel_rfl
 z46:=fun _=>by kernel_rfl
 v46:=fun _=>by kernel_rfl
 t51:=by kernel_rfl
 a51:=fun _=>by kernel_rfl
 z51:=fun _=>by kernel_rfl
 v51:=fun _=>by kernel_rfl
 t53:=by kernel_rfl
 a53:=fun _=>by kernel_rfl
 z53:=fun _=>by kernel_rfl
 v53:=fun _=>by kernel_rfl
theorem ae7 (x:Int)(w:World)(h0:0≤x)(h1:x≤18446744073709551615) :
 Calls prog 96 #[.int .u64 x] w fun e w'=>e=.returned (.int .i64 (Lib.bitLen x.toNat))∧w'=w:=
 Any.bits_Len acD x w h0 h1
theorem Fv:∀(n x:Nat),2^n≤x→x<2^(n+1)→x<2^64→Lib.bitLen x=n+1
 | 0,x,h1,h2,_=>by
  have:x=1:=gA
  subst this;decide
 | n+1,x,h1,h2,h3=>by
  have p:1≤2^n:=Nat.one_le_two_pow
  rw[Nat.pow_succ]at h1 h2
  rw[Lib.bitLen_half x gA h3,Fv n (x / 2) gA gA gA];omega
theorem YN:∀(n:Nat) (x:Nat),1≤x→x<2^n→∃k,k<n∧2^k≤x∧x<2^(k+1)
 | 0,x,h1,h2=>gA
 | n+1,x,h1,h2=>by
  by_cases h:x<2^n
  ·obtain⟨k,a,b⟩:=YN n x h1 h
   exact⟨k,gA,b⟩
  exact⟨n,gA,gA,h2⟩
theorem Fw:(prog.info? 58).map (·.size)=some 9:=by kernel_rfl
theorem Fx (z:Int)(h0:0<z)(h1:z<9223372036854775808):Bits z (Lib.bitLen z.toNat):=by
 obtain⟨k,hk,k1,k2⟩:=YN 63 z.toNat gA gA
 rw[Fv k z.toNat k1 k2 gA]
 have e1:((2^k:Nat):Int)=(2:Int)^k:=by simp
 have e2:((2^(k+1):Nat):Int)=(2:Int)^(k+1):=by simp
 exact⟨gA,fun h=>gA,fun _=>⟨gA,by rw[Nat.add_sub_cancel];omega⟩⟩
theorem z9:aD (ay 9)=#[.int .i64 0,.int .i64 0,.int .i64 0,.int .i64 0,.int .i64 0,.int .i64 0,.int .i64 0,.int .i64 0,.int .i64 0]:=rfl
def ae8 (f:Nat→Int)(k:Nat)(rs:List Int):Prop:=rs.length=9∧∀j,j<k→aC rs j=mR f j
theorem acE {f:Nat→Int}{rs:List Int}{k:Nat}(h:ae8 f k rs)(hk:k<9):ae8 f (k+1) (rs.set k (mR f k)):=by
 obtain⟨h1,h2⟩:=h
 refine⟨by simpa using h1,fun j hj=>?_⟩
 by_cases e:j=k
 ·subst e
  simp[aC,List.getD,h1,hk]
 have:=h2 j gA
 simpa [aC,List.getD,List.getElem?_set,Ne.symm e] using this
theorem aan {f:Nat→Int}{rs:List Int}(h:ae8 f 9 rs)(j:Nat)(hj:j<9):aC (rs.set 0 (mR f 0+1)) j=dZ f j:=by
 obtain⟨h1,h2⟩:=h
 unfold dZ
 by_cases e:j=0
 ·subst e
  simp[aC,List.getD,h1]
 have:=h2 j hj
 rw[if_neg e]
 simpa [aC,List.getD,List.getElem?_set,Ne.symm e] using this
theorem acF {f:Nat→Int}{n:Nat}{ys:List Int}(h:Kq f n 9 ys):Value.agg (aD ys)=rT f n:=by
 obtain⟨h1,h2⟩:=h
 match ys,h1 with
 | [a0,a1,a2,a3,a4,a5,a6,a7,a8],_=>
  have q0:=h2 0 gA
  have q1:=h2 1 gA
  have q2:=h2 2 gA
  have q3:=h2 3 gA
  have q4:=h2 4 gA
  have q5:=h2 5 gA
  have q6:=h2 6 gA
  have q7:=h2 7 gA
  have q8:=h2 8 gA
  simp[aC]at q0 q1 q2 q3 q4 q5 q6 q7 q8
  unfold rT
  rw[←q0,←q1,←q2,←q3,←q4,←q5,←q6,←q7,←q8]
  rfl
theorem ae9 (X:Int)(k:Nat)(h1:-2147483648≤X)(h2:X≤2147483648)(hk:k≤8):(-17179869184≤X*k∧X*k≤17179869184)∧(-137438953472≤X*k*k∧X*k*k≤137438953472):=by
 have h:k=0∨k=1∨k=2∨k=3∨k=4∨k=5∨k=6∨k=7∨k=8:=gA
 rcases h with rfl|rfl|rfl|rfl|rfl|rfl|rfl|rfl|rfl<;>(simp;try omega)
def Vt (w wr:World)(b6:Nat)(rs ws:List Int):Prop:=
 bO wr w.heap.size 58 (ay 9)∧bO wr (w.heap.size+1) 58 rs∧bO wr b6 25 ws∧w.grownBy wr none
theorem Fy {w wr:World}{b6:Nat}{rs ws:List Int}(h:Vt w wr b6 rs ws)(hb:w.heap.size+1<b6)(k:Nat)(z:Int):Vt w (wr.setCell ⟨w.heap.size+1,k,none⟩ (.int .i64 z)) b6 (rs.set k z) ws:=
 ⟨h.1.aJ (aF _ ⟨w.heap.size+1,k,none⟩ _) (by simp),h.2.1.set k z,h.2.2.1.aJ (aF _ ⟨w.heap.size+1,k,none⟩ _) (by simp;omega),aG h.2.2.2 (aF _ ⟨w.heap.size+1,k,none⟩ _) (by simp)⟩
theorem aao {w wr:World}{b6:Nat}{rs ws:List Int}(h:Vt w wr b6 rs ws):Vt w wr.drew b6 rs ws:=
 ⟨h.1,h.2.1,h.2.2.1,bW h.2.2.2⟩
theorem aap (v:Value)(l:List Int)(w:World)(h:aS w v l)(hl:l.length=120)(hr:aL l=true) :
 Calls prog 33 #[v] w fun e w'=>∃n:Nat,Bits (dZ (wN l) 0) n∧e=.returned (.tuple #[rT (wN l) n,.int .i64 ((n:Int)-31),.int .i64 0])∧w.grownBy w' none:=by
 have HI:=Zd h
 have SA:=Zd (gI v l)
 rw[hr]at SA
 have WI:=Zd (fun u hu=>Mx v l u hu hl hr)
 have RJ:=Zd (Mw l hl hr)
 have HL:=Zd hl
 have HR:=Zd hr
 obtain⟨ad,c,rfl,hc,bH⟩:=h
 rw[hl]at HI SA WI ⊢
 have hz:=fun u=>gM YK u
 clear bH hr hc hl
 go_enter func33,ntmps33
 go_wp2_with fail
 refine(SA.out _ (aP HI.out (aB (ak _ _ none) (ak _ _ none))) gA).mono ?_
 rintro e w1 ⟨rfl,rfl⟩
 clear SA
 go_wp2_with fail
 refine(WI.out _ (aP HI.out (aB (ak _ _ none) (ak _ _ none)))).mono ?_
 rintro e w1 ⟨rfl,g1⟩
 have B0:=Zs (bO w1 w.heap.size 58 (ay 9)) (bO.aH (bO.aH (bO.new w 58 (ay 9)) (ak _ _ none)) g1)
 have B1:=Zs (bO w1 (w.heap.size+1) 58 (ay 9)) (bO.aH (bO.new1 w _ 58 (ay 9)) g1)
 have G1:=Zd (aB (aB (ak _ _ none) (ak _ _ none)) g1)
 have z1:w.heap.size+1<w1.heap.size:=B1.out.lt
 have BN:=Zd (bO.new w1 25 (ay 120))
 have PU:=bB (rs':=pY l) BN.out (by rw[xu,au])
 have ga:=ak w1 (.cells (aD (ay 120)) 25) none
 have M0:=Zd (show Vt w (bT (w1.alloc (.cells (aD (ay 120)) 25)) w1.heap.size (pY l)) w1.heap.size (ay 9) (pY l)from
  ⟨(B0.out.aH ga).aJ PU.2 gA,(B1.out.aH ga).aJ PU.2 gA,PU.1,aG (aB G1.out ga) PU.2 (by have:=G1.out.size;omega)⟩)
 clear g1 WI HI ga PU
 go_wp2_with (refine sA (pY l) BN.out (by rw[xu,au]) (by rw[au];exact DJ) ?_)
 generalize bT (w1.alloc (.cells (aD (ay 120)) 25)) w1.heap.size (pY l)=W1 at *
 generalize w1.heap.size=b6 at *
 clear hz
 go_loopw [21] (fun i wr=>∃(k:Nat) (rs:List Int),i=.int .i64 k∧k≤9∧Hid (ae8 (wN l) k rs)∧Hid (Vt w wr b6 rs (pY l))) (fun i _=>9-(intOf i).toNat)
 case atStart=>exact⟨0,ay 9,rfl,Nat.zero_le _,⟨au _,fun j hj=>gA⟩,M0.out⟩
 case round=>
  obtain⟨k,rs,rfl,hk,hA,hM⟩:=hrel
  clear M0
  by_cases Ku:k<9
  ·have hM':=aao hM.out
   have PR:=Zd (Qn (wN l) RJ.out b6 k (120-k) 120 gA wr.drew (fun i hi=>by rw[hM'.2.2.1.cell i (by rw[xu];exact hi),Kt l i hi]) gA gA)
   have hlen:rs.length=9:=hA.out.1
   have cd:=hM.out.2.1.cell k gA
   have fd:=hM.out.2.1.free k
   have NA:=Zd (acE hA.out Ku)
   have NM:=Zd (Fy hM' z1 k (mR (wN l) k))
   clear hA hM hM'
   generalize aC rs k=y at *
   have k0:(0:Int)≤k:=gA
   have k1:(k:Int)≤120:=gA
   have k2:(k:Int)<9:=gA
   have hw:=fH (120-(k:Int)) gA gA
   have hne:¬120=k:=gA
   have ht:(120-(k:Int)).toNat=120-k:=gA
   have k3:(0:Int)≤120-k:=gA
   have k4:(120:Int)-k≤120:=gA
   go_wp2_with fail
   refine wp_region_held_drew (S:=fun _=>True) (by kernel_rfl) trivial (fun aj=>?_)
   refine sF 0 aj ?_
   refine sF 1 aj ?_
   refine bV (hy:=by intro w' bL;(try dsimp only at bL);go_simp;(try simp[hne])) (v:=(.slice (some ⟨b6,k,none⟩) (120-k) (120-k))) 2 aj ?_
   refine sF 3 aj ?_
   refine sF (v:=(.int .i64 (120-(k:Int)))) 4 aj ?_
   refine bV (hy:=by intro w' bL;(try dsimp only at bL);go_simp;(try simp[ht])) (v:=(.slice (some ⟨b6,0,none⟩) (120-k) 120)) 5 aj ?_
   refine fI 6 fun K hK=>?_
   (try simp only[sZ])
   go_simp
   refine PR.out.mono ?_
   rintro e w1 ⟨rfl,rfl⟩
   clear PR
   go_wp2_with fail
   refine hK.out _ _ trivial (fun aj=>?_)
   (try simp only[sZ])
   refine sF 7 aj ?_
   refine fI 8 fun K hK=>?_
   (try simp only[sZ])
   go_simp
   go_wp2_with fail
   refine hK.out _ _ trivial (fun aj=>?_)
   (try simp only[sZ])
   refine lM ?_
   go_wp2_with fail
   go_roundw
   case rel=>exact⟨k+1,_,by go_num,gA,NA.out,NM.out⟩
   case measure=>simp[intOf];omega
  obtain rfl:k=9:=gA
  have hlen:rs.length=9:=hA.out.1
  have hp:0≤mR (wN l) 0:=sq_nonneg (wN l) 120
  obtain⟨hq,hq'⟩:=Cm RJ.out 0 120 gA
  have hs0:aC rs 0=mR (wN l) 0:=hA.out.2 0 gA
  have hsm:mR (wN l) 0≤200000000000:=hq'
  have c0:=hM.out.2.1.cell 0 gA
  have f0:=hM.out.2.1.free 0
  rw[hs0]at c0
  have M1:=Zd (Fy hM.out z1 0 (mR (wN l) 0+1))
  have F_:=Zd (aan hA.out)
  have FV:=Zs (dZ (wN l) 0=mR (wN l) 0+1) (by unfold dZ;rw[if_pos rfl])
  have LE:=Zd (fun u=>ae7 (mR (wN l) 0+1) u gA gA)
  have BT:=Zd (Fx (mR (wN l) 0+1) gA gA)
  clear hA hM hq hq' hs0
  obtain⟨n,hn⟩:∃n,n=Lib.bitLen (mR (wN l) 0+1).toNat:=⟨_,rfl⟩
  rw[←hn]at LE BT
  rw[←FV.out]at BT
  have hnb:=Fu RJ.out BT.out
  have MB:=Zd (fun j hj=>acB BT.out j hj)
  have FB:=Zd (fun j hj=>tY RJ.out j hj)
  clear hn
  have ni:(rs.set 0 (mR (wN l) 0+1)).length=9:=by simpa using hlen
  generalize rs.set 0 (mR (wN l) 0+1)=r2 at *
  generalize mR (wN l) 0=s0 at *
  go_wp2_with fail
  refine(LE.out _).mono ?_
  rintro e w5 ⟨rfl,rfl⟩
  clear LE c0 f0
  have B9:=Zd M1.out.2.1
  generalize wr.setCell _ _=w5 at *
  go_wp2_with (refine lA B9.out (by rw[ni];exact Fw) ?_)
  clear hp hsm
  go_loopw [43] (fun i wx=>∃(k:Nat) (ys:List Int),i=.int .i64 k∧k≤9∧Hid (Kq (wN l) n k ys)∧Hid (Vt w wx b6 ys (pY l))) (fun i _=>9-(intOf i).toNat)
  case atStart=>exact⟨0,r2,rfl,Nat.zero_le _,⟨ni,fun j hj=>gA⟩,M1.out⟩
  case round=>
   obtain⟨k,ys,rfl,hk,hD,hM⟩:=hrel
   clear M1
   by_cases Ku:k<9
   ·have IX:=fQ r2 underlying58 k gA ni
    rw[F_.out k Ku]at IX
    obtain⟨m1,m2⟩:=MB.out k Ku
    obtain⟨m3,m4⟩:=FB.out k Ku
    have MV:=Zd (aam n hnb.2 (dZ (wN l) k) gA gA gA gA)
    have CN:=Zs (gH (wN l) n k=Kn n (dZ (wN l) k)-Kn n (dZ (wN l) k)*k*k / 8192) (rfl)
    have hly:ys.length=9:=hD.out.1
    have cd:=hM.out.2.1.cell k gA
    have fd:=hM.out.2.1.free k
    have ND:=Zd (Kr hD.out Ku)
    have NM:=Zd (Fy hM.out z1 k (gH (wN l) n k))
    rw[CN.out]at NM ND
    clear hD hM m3 m4
    generalize aC ys k=y at *
    generalize dZ (wN l) k=x at *
    generalize Kn n x=X at *
    obtain⟨d1,d2⟩:=ae9 X k m1 m2 gA
    have k0:(0:Int)≤k:=gA
    have k2:(k:Int)<9:=gA
    go_wp2_with fail
    refine(MV.out _).mono ?_
    rintro e w6 ⟨rfl,rfl⟩
    clear MV IX
    go_wp2_with fail
    go_roundw
    case rel=>exact⟨k+1,_,by go_num,gA,ND.out,NM.out⟩
    case measure=>simp[intOf];omega
   obtain rfl:k=9:=gA
   have hly:ys.length=9:=hD.out.1
   have BA:=Zd hM.out.2.1
   have BB:=Zd hM.out.1
   have PU:=bB (rs':=ys) hM.out.1 (by rw[hly,au])
   have eO:=lS PU.1 (by rw[hly];exact Fw)
   rw[acF hD.out]at eO
   have GF:=Zd (aG hM.out.2.2.2 PU.2 (Nat.le_refl _))
   clear hD hM PU
   go_wp2_with (first|refine lA BA.out (by rw[hly];exact Fw) ?_|refine sA ys BB.out (by rw[hly,au]) (by rw[au];exact Fw) ?_)
   refine bodyPost_ret (v:=.tuple #[rT (wN l) n,.int .i64 ((n:Int)-31),.int .i64 0]) ?_ rfl ⟨n,BT.out,rfl,GF.out⟩
   simp[results,results33,asAddr,Act.put,eO]
theorem Qo (v:Value)(l:List Int)(w:World)(h:aS w v l)(hl:l.length=120)(hr:aL l=false) :
 Calls prog 33 #[v] w fun e w'=>e=.returned (.tuple #[rU,.int .i64 0,.int .i64 2])∧w.grownBy w' none:=by
 have HI:=Zd h
 have SA:=Zd (fun u hu=>gI v l u hu gA)
 rw[hr]at SA
 obtain⟨ad,c,rfl,hc,bH⟩:=h
 rw[hl]at HI SA ⊢
 have BA:=Zs (bO ((w.alloc (.cells (aD (ay 9)) 58)).alloc (.cells (aD (ay 9)) 58)) (w.heap.size+1) 58 (ay 9)) (bO.new1 w _ 58 (ay 9))
 have BB:=Zs (bO ((w.alloc (.cells (aD (ay 9)) 58)).alloc (.cells (aD (ay 9)) 58)) w.heap.size 58 (ay 9)) (bO.aH (bO.new w 58 (ay 9)) (ak _ _ none))
 have PU:=bB (rs':=ay 9) BB.out rfl
 have eO:=lS PU.1 (by rw[au];exact Fw)
 rw[show Value.agg (aD (ay 9))=rU from rfl]at eO
 have GF:=Zd (aG (aB (ak _ _ none) (ak _ _ none)) PU.2 (Nat.le_refl _))
 clear PU
 rw[z9]at eO GF BA BB
 clear bH hr hc hl
 go_enter func33,ntmps33
 go_wp2_with fail
 refine(SA.out _ (aP HI.out (aB (ak _ _ none) (ak _ _ none)))).mono ?_
 rintro e w1 ⟨rfl,rfl⟩
 clear SA HI
 go_wp2_with (first|refine lA BA.out (by rw[au];exact Fw) ?_|refine sA (ay 9) BB.out rfl (by rw[au];exact Fw) ?_)
 refine bodyPost_ret (v:=.tuple #[rU,.int .i64 0,.int .i64 2]) ?_ rfl ⟨rfl,GF.out⟩
 exact(by simp[results,results33,asAddr,Act.put];rw[eO];rfl)
def YO (f:Nat→Int)(n:Nat):List Int:=(List.range 9).map (gH f n)
theorem aaq (f:Nat→Int)(n:Nat):(YO f n).length=9:=by simp[YO]
theorem Kv (f:Nat→Int)(n:Nat):rT f n=.agg (aD (YO f n)):=rfl
def hp (a b c d:Int):Obj:=.cells #[.int .i64 a,.int .i64 b,.int .i64 c,.int .i64 d] 24
def aar (w wr:World)(xs:List Int)(y0 y1:Int)(n k:Nat)(rs:List Int):Prop:=
 wr.heap[w.heap.size]?=some (hp (aC xs (k+1)) (aC xs k) (aC (j5 xs [y1,y0] k) (k+1)) (aC (j5 xs [y1,y0] k) k))∧
 wr.heap[w.heap.size+1]?=some (hp 0 0 0 0)∧
 wr.heap[w.heap.size+1+1]?=some (.cells (aD rs) 3 (0,0))∧(rs.length=n∧∀j,j<k→aC rs j=aC (j5 xs [y1,y0] k) (j+2))∧w.grownBy wr none
theorem YP (xs ys:List Int)(y0 y1:Int)(k j:Nat)(hj:j<k+2):aC (j5 xs [y1,y0] (k+1)) j=aC (j5 xs [y1,y0] k) j:=by
 have hl:=rO xs y0 y1 k
 show aC (j5 xs [y1,y0] k++[_]) j=_
 simp[aC,List.getD,List.getElem?_append,hl,hj]
theorem Qp (xs:List Int)(y0 y1:Int)(k:Nat):aC (j5 xs [y1,y0] (k+1)) (k+2)=hiS (aC xs (k+2)) (aC xs (k+1)) (aC xs k) (aC (j5 xs [y1,y0] k) (k+1)) (aC (j5 xs [y1,y0] k) k):=by
 have hl:=rO xs y0 y1 k
 show aC (j5 xs [y1,y0] k++[_]) (k+2)=_
 simp[aC,List.getD,List.getElem?_append,hl]
theorem Qq (w:World)(x0 x1 y0 y1:Int)(l:List Int) :
 aar w (((w.alloc (hp x0 x1 y0 y1)).alloc (hp 0 0 0 0)).alloc (.cells (aD (List.replicate l.length 0)) 3)) ([x1,x0]++l) y0 y1 l.length 0 (List.replicate l.length 0):=by
 have g1:=ak (w.alloc (hp x0 x1 y0 y1)) (hp 0 0 0 0) none
 have g2:=ak ((w.alloc (hp x0 x1 y0 y1)).alloc (hp 0 0 0 0)) (.cells (aD (List.replicate l.length 0)) 3) none
 have h0:=cK w (hp x0 x1 y0 y1)
 have h1:=cK (w.alloc (hp x0 x1 y0 y1)) (hp 0 0 0 0)
 have h2:=cK ((w.alloc (hp x0 x1 y0 y1)).alloc (hp 0 0 0 0)) (.cells (aD (List.replicate l.length 0)) 3)
 refine⟨?_,?_,?_,⟨by simp,fun j hj=>gA⟩,aB (aB (ak _ _ none) g1) g2⟩
 ·rw[g2.block _ (aN ((g1.block _ (aN h0) (by simp)).trans h0)) (by simp),g1.block _ (aN h0) (by simp)]
  exact h0
 ·rw[show w.heap.size+1=(w.alloc (hp x0 x1 y0 y1)).heap.size by simp,g2.block _ (aN h1) (by simp)]
  exact h1
 rw[show w.heap.size+1+1=((w.alloc (hp x0 x1 y0 y1)).alloc (hp 0 0 0 0)).heap.size by simp]
 exact h2
theorem Vu {w wr:World}{xs:List Int}{y0 y1:Int}{n k:Nat}{rs:List Int}(h:aar w wr xs y0 y1 n k rs)(hk:k<n)(o:Obj)(z:Int)
 (hz:hiS (aC xs (k+2)) (aC xs (k+1)) (aC xs k) (aC (j5 xs [y1,y0] k) (k+1)) (aC (j5 xs [y1,y0] k) k)=z) :
 aar w ((((((wr.alloc o).setCell ⟨w.heap.size,0,none⟩ (.int .i64 (aC xs (k+2)))).setCell ⟨w.heap.size,1,none⟩ (.int .i64 (aC xs (k+1)))).setCell ⟨w.heap.size,2,none⟩ (.int .i64 z)).setCell ⟨w.heap.size,3,none⟩ (.int .i64 (aC (j5 xs [y1,y0] k) (k+1)))).setCell ⟨w.heap.size+1+1,k,none⟩ (.int .i64 z)) xs y0 y1 n (k+1) (rs.set k z):=by
 obtain⟨h0,h1,h2,⟨h3,h4⟩,h5⟩:=h
 have ga:=ak wr o none
 have a0:=(ga.block _ (aN h0) (by simp)).trans h0
 have a1:=(ga.block _ (aN h1) (by simp)).trans h1
 have a2:=(ga.block _ (aN h2) (by simp)).trans h2
 generalize wr.alloc o=wa at *
 have g0:=aF wa ⟨w.heap.size,0,none⟩ (.int .i64 (aC xs (k+2)))
 have b0:=heap_setCell (k:=0) a0 (.int .i64 (aC xs (k+2)))
 have b1:=(g0.block _ (aN a1) (by simp)).trans a1
 have b2:=(g0.block _ (aN a2) (by simp;omega)).trans a2
 generalize wa.setCell ⟨w.heap.size,0,none⟩ (.int .i64 (aC xs (k+2)))=wb at *
 have g1:=aF wb ⟨w.heap.size,1,none⟩ (.int .i64 (aC xs (k+1)))
 have c0:=heap_setCell (k:=1) b0 (.int .i64 (aC xs (k+1)))
 have c1:=(g1.block _ (aN b1) (by simp)).trans b1
 have c2:=(g1.block _ (aN b2) (by simp;omega)).trans b2
 generalize wb.setCell ⟨w.heap.size,1,none⟩ (.int .i64 (aC xs (k+1)))=wc at *
 have g2:=aF wc ⟨w.heap.size,2,none⟩ (.int .i64 z)
 have d0:=heap_setCell (k:=2) c0 (.int .i64 z)
 have d1:=(g2.block _ (aN c1) (by simp)).trans c1
 have d2:=(g2.block _ (aN c2) (by simp;omega)).trans c2
 generalize wc.setCell ⟨w.heap.size,2,none⟩ (.int .i64 z)=wd at *
 have g3:=aF wd ⟨w.heap.size,3,none⟩ (.int .i64 (aC (j5 xs [y1,y0] k) (k+1)))
 have e0:=heap_setCell (k:=3) d0 (.int .i64 (aC (j5 xs [y1,y0] k) (k+1)))
 have e1:=(g3.block _ (aN d1) (by simp)).trans d1
 have e2:=(g3.block _ (aN d2) (by simp;omega)).trans d2
 generalize wd.setCell ⟨w.heap.size,3,none⟩ (.int .i64 (aC (j5 xs [y1,y0] k) (k+1)))=we at *
 have g4:=aF we ⟨w.heap.size+1+1,k,none⟩ (.int .i64 z)
 have f0:=(g4.block _ (aN e0) (by simp;omega)).trans e0
 have f1:=(g4.block _ (aN e1) (by simp)).trans e1
 have f2:=heap_setCell (k:=k) e2 (.int .i64 z)
 rw[vO]at f2
 generalize we.setCell ⟨w.heap.size+1+1,k,none⟩ (.int .i64 z)=wf at *
 have G1:wa.grownBy we (some w.heap.size):=dB (dB (dB g0 g1 _ (fun i e _=>e) (fun i e _=>e)) g2 _ (fun i e _=>e) (fun i e _=>e)) g3 _ (fun i e _=>e) (fun i e _=>e)
 have G2:w.grownBy we none:=aG (aB h5 ga) G1 (Nat.le_refl _)
 refine⟨?_,f1,f2,⟨by simpa using h3,fun j hj=>?_⟩,aG G2 g4 (by simp;omega)⟩
 ·rw[f0]
  have q1:=YP xs [] y0 y1 k (k+1) gA
  have q2:=Qp xs y0 y1 k
  rw[hz]at q2
  show _=some (hp (aC xs (k+2)) (aC xs (k+1)) (aC (j5 xs [y1,y0] (k+1)) (k+2)) (aC (j5 xs [y1,y0] (k+1)) (k+1)))
  rw[q1,q2]
  rfl
 by_cases e:j=k
 ·subst e
  have q2:=Qp xs y0 y1 j
  rw[hz]at q2
  rw[q2]
  simp[aC,List.getD,h3,hk]
 have:=h4 j gA
 rw[YP xs [] y0 y1 k (j+2) gA,←this]
 simp[aC,List.getD,List.getElem?_set,Ne.symm e]
theorem Vv {w wr:World}{xs:List Int}{y0 y1:Int}{n k:Nat}{rs:List Int}(h:aar w wr xs y0 y1 n k rs)(o:Obj)(j:Nat)(hj:j<n) :
 (wr.alloc o).cell? ⟨w.heap.size,0,none⟩=some (.int .i64 (aC xs (k+1)))∧(wr.alloc o).cell? ⟨w.heap.size,1,none⟩=some (.int .i64 (aC xs k))∧(wr.alloc o).cell? ⟨w.heap.size,2,none⟩=some (.int .i64 (aC (j5 xs [y1,y0] k) (k+1)))∧(wr.alloc o).cell? ⟨w.heap.size,3,none⟩=some (.int .i64 (aC (j5 xs [y1,y0] k) k))∧
 (wr.alloc o).frozen? ⟨w.heap.size,0,none⟩=false∧(wr.alloc o).frozen? ⟨w.heap.size,1,none⟩=false∧(wr.alloc o).frozen? ⟨w.heap.size,2,none⟩=false∧(wr.alloc o).frozen? ⟨w.heap.size,3,none⟩=false∧
 (wr.alloc o).cell? ⟨w.heap.size+1+1,j,none⟩=some (.int .i64 (aC rs j))∧(wr.alloc o).frozen? ⟨w.heap.size+1+1,j,none⟩=false:=by
 obtain⟨h0,h1,h2,⟨h3,h4⟩,h5⟩:=h
 have ga:=ak wr o none
 have a0:=(ga.block _ (aN h0) (by simp)).trans h0
 have a2:=(ga.block _ (aN h2) (by simp)).trans h2
 exact⟨aI a0 0,aI a0 1,aI a0 2,aI a0 3,aT a0 0,aT a0 1,aT a0 2,aT a0 3,(aI a2 j).trans (lU rs j gA),aT a2 j⟩
def Vw (w:World)(x0 x1 y0 y1:Int)(l:List Int)(e:Ending)(w':World):Prop:=
 ∃v',e=.returned (.tuple #[v',.agg #[.int .i64 (aC ([x1,x0]++l) (l.length+1)),.int .i64 (aC ([x1,x0]++l) l.length),.int .i64 (aC (j5 ([x1,x0]++l) [y1,y0] l.length) (l.length+1)),.int .i64 (aC (j5 ([x1,x0]++l) [y1,y0] l.length) l.length)],.int .i64 0])∧
  w'.ownsRow w.heap.size 3 1 v' l.length (((j5 ([x1,x0]++l) [y1,y0] l.length).drop 2).map (Value.int .i64))∧w.grownBy w' none
theorem aas {w wr:World}{xs:List Int}{y0 y1:Int}{n:Nat}{rs:List Int}(h:aar w wr xs y0 y1 n n rs)(hn:n≤35184372088832)(p q s t:Int)(W:World)
 (hp0:aC xs (n+1)=p) (hq0:aC xs n=q) (hs0:aC (j5 xs [y1,y0] n) (n+1)=s) (ht0:aC (j5 xs [y1,y0] n) n=t)
 (hW:W=((((wr.setCell ⟨w.heap.size+1,0,none⟩ (.int .i64 p)).setCell ⟨w.heap.size+1,1,none⟩ (.int .i64 q)).setCell ⟨w.heap.size+1,2,none⟩ (.int .i64 s)).setCell ⟨w.heap.size+1,3,none⟩ (.int .i64 t))) :
 W.drew.cell? ⟨w.heap.size+1,0,none⟩=some (.int .i64 p)∧W.drew.cell? ⟨w.heap.size+1,1,none⟩=some (.int .i64 q)∧W.drew.cell? ⟨w.heap.size+1,2,none⟩=some (.int .i64 s)∧W.drew.cell? ⟨w.heap.size+1,3,none⟩=some (.int .i64 t)∧w.grownBy W.drew none∧
  W.drew.ownsRow w.heap.size 3 1 (.slice (some ⟨w.heap.size+1+1,0,none⟩) n n) n (((j5 xs [y1,y0] n).drop 2).map (Value.int .i64)):=by
 obtain⟨h0,h1,h2,⟨h3,h4⟩,h5⟩:=h
 have k0:=heap_setCell (k:=0) h1 (.int .i64 p)
 have k1:=heap_setCell (k:=1) k0 (.int .i64 q)
 have k2:=heap_setCell (k:=2) k1 (.int .i64 s)
 have k3:=heap_setCell (k:=3) k2 (.int .i64 t)
 have g0:=aF wr ⟨w.heap.size+1,0,none⟩ (.int .i64 p)
 have g1:=aF (wr.setCell ⟨w.heap.size+1,0,none⟩ (.int .i64 p)) ⟨w.heap.size+1,1,none⟩ (.int .i64 q)
 have g2:=aF ((wr.setCell ⟨w.heap.size+1,0,none⟩ (.int .i64 p)).setCell ⟨w.heap.size+1,1,none⟩ (.int .i64 q)) ⟨w.heap.size+1,2,none⟩ (.int .i64 s)
 have g3:=aF (((wr.setCell ⟨w.heap.size+1,0,none⟩ (.int .i64 p)).setCell ⟨w.heap.size+1,1,none⟩ (.int .i64 q)).setCell ⟨w.heap.size+1,2,none⟩ (.int .i64 s)) ⟨w.heap.size+1,3,none⟩ (.int .i64 t)
 have e4:((((#[Value.int .i64 0,.int .i64 0,.int .i64 0,.int .i64 0].setIfInBounds 0 (.int .i64 p)).setIfInBounds 1 (.int .i64 q)).setIfInBounds 2 (.int .i64 s)).setIfInBounds 3 (.int .i64 t))=#[.int .i64 p,.int .i64 q,.int .i64 s,.int .i64 t]:=rfl
 rw[e4]at k3
 have acG:wr.grownBy W.drew (some (w.heap.size+1)):=by
  have:=dB (dB (dB g0 g1 _ (fun i e _=>e) (fun i e _=>e)) g2 _ (fun i e _=>e) (fun i e _=>e)) g3 (some (w.heap.size+1)) (fun i e _=>e) (fun i e _=>e)
  rw[←hW]at this
  exact bW this
 have k4:W.drew.heap[w.heap.size+1]?=some (.cells #[.int .i64 p,.int .i64 q,.int .i64 s,.int .i64 t] 24 (0,0)):=by rw[hW];exact k3
 clear k0 k1 k2 k3 g0 g1 g2 g3 e4 hW
 have l2:=(acG.block _ (aN h2) (by simp)).trans h2
 have hl:=rO xs y0 y1 n
 have er:rs=(j5 xs [y1,y0] n).drop 2:=by
  apply List.ext_getElem
  ·rw[List.length_drop,hl];omega
  intro j a1 a2
  have:=h4 j gA
  rw[List.getElem_drop]
  simp only[aC,List.getD]at this
  rw[List.getElem?_eq_getElem a1,List.getElem?_eq_getElem gA]at this
  simp only[Option.getD_some]at this
  rw[this]
  congr 1
  omega
 refine⟨(aI k4 0),(aI k4 1),(aI k4 2),(aI k4 3),aG h5 acG gA,?_,.inr ⟨w.heap.size+1+1,n,aD rs,rfl,gA,l2,Nat.le_refl _,by unfold maxLen;omega,?_,?_⟩⟩
 ·rw[List.length_map,List.length_drop,hl];omega
 ·simp[aD,h3]
 rw[←er]
 simp only[aD,List.toList_toArray]
 rw[List.take_of_length_le (by simp[h3])]
def rV (w:World)(e:Ending)(w':World):Prop:=e=.returned (.tuple #[.slice none 0 0,.agg #[.int .i64 0,.int .i64 0,.int .i64 0,.int .i64 0],.int .i64 2])∧w.grownBy w' none
theorem acH (x0 x1 y0 y1:Int)(v:Value)(l:List Int)(w:World)(h:aS w v l)(hl:l.length*8≤281474976710656)(hr:aL l=true)(hx:aL [x0,x1]=true)(hy:aL [y0,y1]=true) :
 Calls prog 32 #[.agg #[.int .i64 x0,.int .i64 x1,.int .i64 y0,.int .i64 y1],v] w (Vw w x0 x1 y0 y1 l):=by
 have HI:=Zd h
 have RB:=Zd (gI v l)
 rw[hr]at RB
 obtain⟨ad,c,rfl,hc,bH⟩:=h
 have HV:=Zd bH
 have jg:=fun u=>Ef l.length gA gA u
 rw[Int.toNat_natCast]at jg
 clear bH
 go_enter func32,ntmps32
 have h0:((w.alloc (hp x0 x1 y0 y1)).alloc (hp 0 0 0 0)).heap[w.heap.size]?=some (hp x0 x1 y0 y1):=kH (ak _ _ none)
 have RX:=Zd (gI (.slice (some ⟨w.heap.size,0,none⟩) 2 2) [x0,x1] _ (gL h0 0 x0 x1 rfl rfl) (by simp))
 have RY:=Zd (gI (.slice (some ⟨w.heap.size,2,none⟩) 2 2) [y0,y1] _ (gL h0 2 y0 y1 rfl rfl) (by simp))
 rw[hx]at RX
 rw[hy]at RY
 clear h0
 go_wp2_with fail
 refine RX.out.mono ?_
 rintro e w1 ⟨rfl,rfl⟩
 go_wp2_with fail
 refine RY.out.mono ?_
 rintro e w1 ⟨rfl,rfl⟩
 go_wp2_with fail
 refine(RB.out _ (aP HI.out (aB (ak _ _ none) (ak _ _ none))) gA).mono ?_
 rintro e w1 ⟨rfl,rfl⟩
 clear RX RY RB
 go_wp2_with fail
 clear jg
 have MS:=Zd (Qq w x0 x1 y0 y1 l)
 have XB:=Zd (Pk x0 x1 l hx hr)
 have YB:=Zd (za ([x1,x0]++l) y0 y1 hy)
 have XL:=Zs (∀k,aC l k=aC ([x1,x0]++l) (k+2)) (fun k=>rfl)
 generalize hxs:[x1,x0]++l=xs at *
 have HXS:=Zd hxs
 clear hxs hx hy hr
 go_loopw [32] (fun i wr=>∃(k:Nat) (rs:List Int),i=.int .i64 k∧k≤l.length∧Hid (aar w wr xs y0 y1 l.length k rs)) (fun i _=>l.length-(intOf i).toNat)
 case atStart=>exact⟨0,_,rfl,Nat.zero_le _,MS.out⟩
 case round=>
  obtain⟨k,rs,rfl,hk,hC⟩:=hrel
  clear MS
  by_cases jS:k<l.length
  ·obtain⟨a,rfl,hv⟩:=HV.out gA
   have ck:=bA hC.out.2.2.2.2 (hv k jS)
   rw[XL.out]at ck
   have c0:=aI hC.out.1 0
   have c1:=aI hC.out.1 1
   have c2:=aI hC.out.1 2
   have c3:=aI hC.out.1 3
   simp at c0 c1 c2 c3
   obtain⟨b1,b2⟩:=XB.out (k+2)
   obtain⟨b3,b4⟩:=XB.out (k+1)
   obtain⟨b5,b6⟩:=XB.out k
   obtain⟨b7,b8⟩:=YB.out k (k+1)
   obtain⟨b9,b10⟩:=YB.out k k
   have PA:=Zd (Vs _ _ _ _ _ b3 b4 b5 b6 b7 b8 b9 b10 b1 b2)
   obtain⟨z,hz⟩:∃z,hiS (aC xs (k+2)) (aC xs (k+1)) (aC xs k) (aC (j5 xs [y1,y0] k) (k+1)) (aC (j5 xs [y1,y0] k) k)=z:=⟨_,rfl⟩
   rw[hz]at PA
   have NX:=Zd (Vu hC.out jS (hp (aC xs (k+1)) (aC xs k) (aC (j5 xs [y1,y0] k) (k+1)) (aC (j5 xs [y1,y0] k) k)) z hz)
   have KP:=Zd (Vv hC.out (hp (aC xs (k+1)) (aC xs k) (aC (j5 xs [y1,y0] k) (k+1)) (aC (j5 xs [y1,y0] k) k)) k jS)
   simp only[hp]at NX KP
   clear hz hC hv b1 b2 b3 b4 b5 b6 b7 b8 b9 b10
   generalize aC xs (k+2)=p at *
   generalize aC xs (k+1)=q at *
   generalize aC xs k=r at *
   generalize aC (j5 xs [y1,y0] k) (k+1)=s at *
   generalize aC (j5 xs [y1,y0] k) k=t at *
   go_wp2_with fail
   refine(PA.out _).mono ?_
   rintro e w3 ⟨rfl,rfl⟩
   obtain⟨d0,d1,d2,d3,f0,f1,f2,f3,d4,f4⟩:=KP.out
   clear PA c0 c1 c2 c3 ck
   generalize wr.alloc _=w3 at *
   go_wp2_with fail
   go_roundw
   case rel=>exact⟨k+1,_,by go_num,gA,NX.out⟩
   case measure=>simp[intOf];omega
  obtain rfl:k=l.length:=gA
  have c0:=aI hC.out.1 0
  have c1:=aI hC.out.1 1
  have c2:=aI hC.out.1 2
  have c3:=aI hC.out.1 3
  have r0:=aI hC.out.2.1 0
  have r1:=aI hC.out.2.1 1
  have r2:=aI hC.out.2.1 2
  have r3:=aI hC.out.2.1 3
  have t0:=aT hC.out.2.1 0
  have t1:=aT hC.out.2.1 1
  have t2:=aT hC.out.2.1 2
  have t3:=aT hC.out.2.1 3
  simp at c0 c1 c2 c3 r0 r1 r2 r3
  have HT:=Zd (show Vw w x0 x1 y0 y1 l=fun e w'=>∃v',e=.returned (.tuple #[v',.agg #[.int .i64 (aC xs (l.length+1)),.int .i64 (aC xs l.length),.int .i64 (aC (j5 xs [y1,y0] l.length) (l.length+1)),.int .i64 (aC (j5 xs [y1,y0] l.length) l.length)],.int .i64 0])∧
   w'.ownsRow w.heap.size 3 1 v' l.length (((j5 xs [y1,y0] l.length).drop 2).map (Value.int .i64))∧w.grownBy w' none from by
   unfold Vw
   rw[HXS.out])
  have EN:=Zd (aas hC.out gA _ _ _ _ _ rfl rfl rfl rfl rfl)
  clear hC HI
  generalize aC xs (l.length+1)=p at *
  generalize aC xs l.length=q at *
  generalize aC (j5 xs [y1,y0] l.length) (l.length+1)=s at *
  generalize aC (j5 xs [y1,y0] l.length) l.length=t at *
  obtain⟨o0,o1,o2,o3,GF',OV'⟩:=EN.out
  have GF:=Zd GF'
  have OV:=Zd OV'
  clear GF' OV'
  go_wp2_with fail
  go_region
  go_wp2_with fail
  refine bodyPost_ret (v:=.tuple #[.slice (some ⟨w.heap.size+1+1,0,none⟩) l.length l.length,.agg #[.int .i64 p,.int .i64 q,.int .i64 s,.int .i64 t],.int .i64 0]) ?_ rfl ?_
  ·simp[results,results32,go_sem,o0,o1,o2,o3]
  rw[HT.out]
  exact⟨_,rfl,OV.out,GF.out⟩
theorem acI (x0 x1 y0 y1:Int)(v:Value)(l:List Int)(w:World)(h:aS w v l)(hl:l.length*8≤281474976710656)(hx:aL [x0,x1]=false) :
 Calls prog 32 #[.agg #[.int .i64 x0,.int .i64 x1,.int .i64 y0,.int .i64 y1],v] w (rV w):=by
 have HI:=Zd h
 have RB:=Zd (gI v l)
 obtain⟨ad,c,rfl,hc,bH⟩:=h
 clear bH
 have h0:((w.alloc (hp x0 x1 y0 y1)).alloc (hp 0 0 0 0)).heap[w.heap.size]?=some (hp x0 x1 y0 y1):=kH (ak _ _ none)
 have RX:=Zd (gI (.slice (some ⟨w.heap.size,0,none⟩) 2 2) [x0,x1] _ (gL h0 0 x0 x1 rfl rfl) (by simp))
 have RY:=Zd (gI (.slice (some ⟨w.heap.size,2,none⟩) 2 2) [y0,y1] _ (gL h0 2 y0 y1 rfl rfl) (by simp))
 rw[hx]at RX
 simp only[hp]at RX RY
 clear h0
 go_enter func32,ntmps32
 go_wp2_with fail
 refine RX.out.mono ?_
 rintro e w1 ⟨rfl,rfl⟩
 go_wp2_with fail
 refine bodyPost_ret (v:=.tuple #[.slice none 0 0,.agg #[.int .i64 0,.int .i64 0,.int .i64 0,.int .i64 0],.int .i64 2]) ?_ rfl ?_
 ·simp[results,results32,go_sem]
 exact⟨rfl,aB (ak _ _ none) (ak _ _ none)⟩
theorem acJ (x0 x1 y0 y1:Int)(v:Value)(l:List Int)(w:World)(h:aS w v l)(hl:l.length*8≤281474976710656)(hx:aL [x0,x1]=true)(hy:aL [y0,y1]=false) :
 Calls prog 32 #[.agg #[.int .i64 x0,.int .i64 x1,.int .i64 y0,.int .i64 y1],v] w (rV w):=by
 have HI:=Zd h
 have RB:=Zd (gI v l)
 obtain⟨ad,c,rfl,hc,bH⟩:=h
 clear bH
 have h0:((w.alloc (hp x0 x1 y0 y1)).alloc (hp 0 0 0 0)).heap[w.heap.size]?=some (hp x0 x1 y0 y1):=kH (ak _ _ none)
 have RX:=Zd (gI (.slice (some ⟨w.heap.size,0,none⟩) 2 2) [x0,x1] _ (gL h0 0 x0 x1 rfl rfl) (by simp))
 have RY:=Zd (gI (.slice (some ⟨w.heap.size,2,none⟩) 2 2) [y0,y1] _ (gL h0 2 y0 y1 rfl rfl) (by simp))
 rw[hx]at RX
 rw[hy]at RY
 simp only[hp]at RX RY
 clear h0
 go_enter func32,ntmps32
 go_wp2_with fail
 refine RX.out.mono ?_
 rintro e w1 ⟨rfl,rfl⟩
 go_wp2_with fail
 refine RY.out.mono ?_
 rintro e w1 ⟨rfl,rfl⟩
 go_wp2_with fail
 refine bodyPost_ret (v:=.tuple #[.slice none 0 0,.agg #[.int .i64 0,.int .i64 0,.int .i64 0,.int .i64 0],.int .i64 2]) ?_ rfl ?_
 ·simp[results,results32,go_sem]
 exact⟨rfl,aB (ak _ _ none) (ak _ _ none)⟩
theorem acK (x0 x1 y0 y1:Int)(v:Value)(l:List Int)(w:World)(h:aS w v l)(hl:l.length*8≤281474976710656)(hx:aL [x0,x1]=true)(hy:aL [y0,y1]=true)(hr:aL l=false) :
 Calls prog 32 #[.agg #[.int .i64 x0,.int .i64 x1,.int .i64 y0,.int .i64 y1],v] w (rV w):=by
 have HI:=Zd h
 have RB:=Zd (gI v l)
 obtain⟨ad,c,rfl,hc,bH⟩:=h
 clear bH
 have h0:((w.alloc (hp x0 x1 y0 y1)).alloc (hp 0 0 0 0)).heap[w.heap.size]?=some (hp x0 x1 y0 y1):=kH (ak _ _ none)
 have RX:=Zd (gI (.slice (some ⟨w.heap.size,0,none⟩) 2 2) [x0,x1] _ (gL h0 0 x0 x1 rfl rfl) (by simp))
 have RY:=Zd (gI (.slice (some ⟨w.heap.size,2,none⟩) 2 2) [y0,y1] _ (gL h0 2 y0 y1 rfl rfl) (by simp))
 rw[hx]at RX
 rw[hy]at RY
 rw[hr]at RB
 simp only[hp]at RX RY
 clear h0
 go_enter func32,ntmps32
 go_wp2_with fail
 refine RX.out.mono ?_
 rintro e w1 ⟨rfl,rfl⟩
 go_wp2_with fail
 refine RY.out.mono ?_
 rintro e w1 ⟨rfl,rfl⟩
 go_wp2_with fail
 refine(RB.out _ (aP HI.out (aB (ak _ _ none) (ak _ _ none))) gA).mono ?_
 rintro e w1 ⟨rfl,rfl⟩
 go_wp2_with fail
 refine bodyPost_ret (v:=.tuple #[.slice none 0 0,.agg #[.int .i64 0,.int .i64 0,.int .i64 0,.int .i64 0],.int .i64 2]) ?_ rfl ?_
 ·simp[results,results32,go_sem]
 exact⟨rfl,aB (ak _ _ none) (ak _ _ none)⟩
theorem ae_ (x0 x1 y0 y1:Int)(v:Value)(l:List Int)(w:World)(h:aS w v l)(hl:l.length*8≤281474976710656)(hn:(aL [x0,x1]&&aL [y0,y1]&&aL l)=false) :
 Calls prog 32 #[.agg #[.int .i64 x0,.int .i64 x1,.int .i64 y0,.int .i64 y1],v] w (rV w):=by
 rcases hx:aL [x0,x1]with _|_
 ·exact acI x0 x1 y0 y1 v l w h hl hx
 rcases hy:aL [y0,y1]with _|_
 ·exact acJ x0 x1 y0 y1 v l w h hl hx hy
 exact acK x0 x1 y0 y1 v l w h hl hx hy (by rw[hx,hy]at hn;simpa using hn)
def okH (x0 x1 y0 y1:Int)(l:List Int):Bool:=aL [x0,x1]&&aL [y0,y1]&&aL l
def hiX (x0 x1:Int)(l:List Int):List Int:=[x1,x0]++l
def hiO (x0 x1 y0 y1:Int)(l:List Int):List Int:=j5 (hiX x0 x1 l) [y1,y0] l.length
def Qr (x0 x1 y0 y1:Int)(l:List Int):Int:=if okH x0 x1 y0 y1 l=true then 0 else 2
def hiM (x0 x1 y0 y1:Int)(l:List Int)(i:Nat):Int:=if okH x0 x1 y0 y1 l=true then
 (match i with|0=>aC (hiX x0 x1 l) (l.length+1)|1=>aC (hiX x0 x1 l) l.length|2=>aC (hiO x0 x1 y0 y1 l) (l.length+1)|_=>aC (hiO x0 x1 y0 y1 l) l.length)else 0
def Vx (x0 x1 y0 y1:Int)(l:List Int):List Int:=if okH x0 x1 y0 y1 l=true then(hiO x0 x1 y0 y1 l).drop 2 else[]
def hiT (x0 x1 y0 y1:Int)(l:List Int)(v':Value):Value:=.tuple #[v',.agg #[.int .i64 (hiM x0 x1 y0 y1 l 0),.int .i64 (hiM x0 x1 y0 y1 l 1),.int .i64 (hiM x0 x1 y0 y1 l 2),.int .i64 (hiM x0 x1 y0 y1 l 3)],.int .i64 (Qr x0 x1 y0 y1 l)]
theorem YQ (x0 x1 y0 y1:Int)(l:List Int):(Vx x0 x1 y0 y1 l).length=if okH x0 x1 y0 y1 l=true then l.length else 0:=by
 unfold Vx
 split
 ·rw[List.length_drop,hiO,rO];omega
 rfl
theorem Fz (x0 x1 y0 y1:Int)(v:Value)(l:List Int)(w:World)(h:aS w v l)(hl:l.length*8≤281474976710656) :
 Calls prog 32 #[.agg #[.int .i64 x0,.int .i64 x1,.int .i64 y0,.int .i64 y1],v] w fun e w'=>∃v',e=.returned (hiT x0 x1 y0 y1 l v')∧gP w.heap.size w' v' (Vx x0 x1 y0 y1 l)∧w.grownBy w' none:=by
 rcases hk:okH x0 x1 y0 y1 l with _|_
 ·refine(ae_ x0 x1 y0 y1 v l w h hl hk).mono fun e w' ⟨he,hg⟩=>⟨.slice none 0 0,?_,?_,hg⟩
  ·rw[he];simp[hiT,hiM,Qr,hk]
  simp[Vx,hk];exact bZ _ _
 have hk':=hk
 unfold okH at hk'
 simp only[Bool.and_eq_true]at hk'
 refine(acH x0 x1 y0 y1 v l w h hl hk'.2 hk'.1.1 hk'.1.2).mono fun e w' ⟨v',he,ho,hg⟩=>⟨v',?_,?_,hg⟩
 ·rw[he];simp[hiT,hiM,Qr,hk,hiX,hiO]
 have hlen:=YQ x0 x1 y0 y1 l
 rw[if_pos hk]at hlen
 unfold gP
 rw[hlen]
 simpa [Vx,hk,hiO,hiX] using ho
def VP (l:List Int):Nat:=Lib.bitLen (dZ (wN l) 0).toNat
def oz (l:List Int):List Int:=YO (wN l) (VP l)
theorem zR (l:List Int):(oz l).length=9:=aaq _ _
theorem YZ (r:List Int):∀i,i<8→-32768≤aC (lN r) i∧aC (lN r) i≤32768:=fun i _=>by have:=aeK r i;omega
def sU (now m x:List Int):Nat→List Int
 | 0=>m
 | k+1=>qo (gK (bP (sU now m x k) 0 8) now k) (yK (sU now m x k) (Qh (sU now m x k) (gK (bP (sU now m x k) 0 8) now k) (bP x (40*k) 40))) (qG (sU now m x k) (Qh (sU now m x k) (gK (bP (sU now m x k) 0 8) now k) (bP x (40*k) 40)))
def enA (now m x:List Int)(k:Nat):List Int:=gK (bP (sU now m x k) 0 8) now k
def pR (now m x:List Int)(k:Nat):List Int:=Qh (sU now m x k) (enA now m x k) (bP x (40*k) 40)
theorem zS (now m x:List Int)(k:Nat):sU now m x (k+1)=qo (enA now m x k) (yK (sU now m x k) (pR now m x k)) (qG (sU now m x k) (pR now m x k)):=rfl
theorem oJ (now x:List Int){m:List Int}(hm:m.length=101):∀k,(sU now m x k).length=101
 | 0=>hm
 | k+1=>by rw[zS,vU,xg];exact oJ now x hm k
theorem vZ {now m:List Int}(x:List Int)(hm:m.length=101)(hg:cO m=true)(hn:now.length=8)(sn:bN now=true):∀k,cO (sU now m x k)=true
 | 0=>hg
 | k+1=>by
  have g:=vZ x hm hg hn sn k
  have wd:=qF (bP (sU now m x k) 0 8) now k (aR _ _ _) hn (jI g) sn
  have u:sJ (pR now m x k):=Qk _ wd
  have l:=oJ now x hm k
  rw[zS]
  exact Ke (by rw[xg];exact l) wd (Qg l g u) (Bg u _)
theorem FK {now m:List Int}(x:List Int)(hm:m.length=101)(hg:cO m=true)(hn:now.length=8)(sn:bN now=true)(k:Nat):j6 (enA now m x k):=
 qF _ now k (aR _ _ _) hn (jI (vZ x hm hg hn sn k)) sn
theorem uh {now m:List Int}(x:List Int)(hm:m.length=101)(hg:cO m=true)(hn:now.length=8)(sn:bN now=true)(k:Nat):sJ (pR now m x k):=Qk _ (FK x hm hg hn sn k)
def fF (e:List Int):List Int:=bP e 124 101
def iG (e l:List Int):List Int:=Vx (aC e 0) (aC e 1) (aC e 2) (aC e 3) l
def lT (e l:List Int):List Int:=bP e 84 40++iG e l
def kG (e l:List Int):List Int:=quL (lN (oz (lT e l)))
def Jh (e l:List Int)(r:Bool):Int:=if r=true then 1 else if fE (iG e l) (iG e l) 80<1280 then 2 else 0
def pG (e:List Int)(r:Bool):List Int:=if r=true then iL else fF e
def enS (e l:List Int)(r:Bool):List Int:=if Jh e l r=2 then ay 16 else pR (gY (kG e l)) (pG e r) (iG e l) 0++pR (gY (kG e l)) (pG e r) (iG e l) 1
def n_ (e l:List Int)(r:Bool):List Int:=Jh e l r::(kG e l++enS e l r)
def vG (e l:List Int):List Int:=[hiM (aC e 0) (aC e 1) (aC e 2) (aC e 3) l 0,hiM (aC e 0) (aC e 1) (aC e 2) (aC e 3) l 1,hiM (aC e 0) (aC e 1) (aC e 2) (aC e 3) l 2,hiM (aC e 0) (aC e 1) (aC e 2) (aC e 3) l 3]
def vH (e l:List Int):Bool:=okH (aC e 0) (aC e 1) (aC e 2) (aC e 3) l
abbrev q9 (e l:List Int):Prop:=l.length=80∧cO (fF e)=true∧vH e l=true∧aL (lT e l)=true
def nQ (e l:List Int)(r:Bool):List Int:=if q9 e l then vG e l++(lT e l++oW (fF e) (n_ e l r))else ay 225
def oC (e l:List Int)(r:Bool):Bool:=if q9 e l then oV (n_ e l r)else false
def oD (e l:List Int)(r:Bool):List Int:=if q9 e l then Cg (n_ e l r)else[]
def nR (e l:List Int)(r:Bool):List Int:=if q9 e l then sK (fF e) (n_ e l r)else[]
def je (e l:List Int):Int:=if l.length=80 then(if q9 e l then 0 else 2)else 1
theorem xH {e l:List Int}(h:vH e l=true):(iG e l).length=l.length:=by
 unfold iG
 unfold vH at h
 rw[YQ,if_pos h]
theorem xI {e l:List Int}(h:vH e l=true):aL (iG e l)=true:=by
 have k:=h
 unfold vH okH at k
 simp only[Bool.and_eq_true]at k
 have b:=za (hiX (aC e 0) (aC e 1) l) (aC e 2) (aC e 3) k.1.2 l.length
 have c:iG e l=(hiO (aC e 0) (aC e 1) (aC e 2) (aC e 3) l).drop 2:=if_pos h
 rw[aV]
 intro i hi
 rw[c,show aC ((hiO (aC e 0) (aC e 1) (aC e 2) (aC e 3) l).drop 2) i=aC (hiO (aC e 0) (aC e 1) (aC e 2) (aC e 3) l) (2+i) by simp[aC,List.getD]]
 exact b _
theorem xJ {e l:List Int}(hl:l.length=80)(h:vH e l=true):(lT e l).length=120:=by
 unfold lT
 rw[List.length_append,aR,xH h,hl]
theorem FM {e:List Int}(r:Bool)(hg:cO (fF e)=true):(pG e r).length=101∧cO (pG e r)=true:=by
 unfold pG
 split
 ·exact⟨jH,AZ⟩
 exact⟨aR _ _ _,hg⟩
theorem jf (a b:List Int)(i:Nat)(h:i<a.length):aC (a++b) i=aC a i:=by unfold aC List.getD;rw[List.getElem?_append_left h]
theorem iw (a b:List Int)(i:Nat)(h:a.length≤i):aC (a++b) i=aC b (i-a.length):=by unfold aC List.getD;rw[List.getElem?_append_right h]
theorem Y0 {e l:List Int}(r:Bool)(hg:cO (fF e)=true):(enS e l r).length=16:=by
 obtain⟨f1,f2⟩:=FM r hg
 have n:bN (gY (kG e l))=true:=rW _ (vY (lN (oz (lT e l))))
 unfold enS
 split
 ·exact au _
 rw[List.length_append,(uh (iG e l) f1 f2 (kX _) n 0).len,(uh (iG e l) f1 f2 (kX _) n 1).len]
theorem Y2 {e l:List Int}(r:Bool)(hg:cO (fF e)=true):(n_ e l r).length=25:=by
 unfold n_
 rw[List.length_cons,List.length_append,Y0 r hg,show(kG e l).length=8 from uS _]
theorem afj (e l:List Int)(r:Bool):0≤Jh e l r∧Jh e l r≤2:=by
 unfold Jh
 split
 ·omega
 split<;>omega
theorem aiH {e l:List Int}(r:Bool)(i:Nat)(h:i<8):aC (n_ e l r) (1+i)=aC (kG e l) i:=by
 rw[Nat.add_comm]
 show aC (kG e l++enS e l r) i=_
 exact jf _ _ _ (by rw[show(kG e l).length=8 from uS _];exact h)
theorem aiI {e l:List Int}(r:Bool)(i:Nat):aC (n_ e l r) (9+i)=aC (enS e l r) i:=by
 rw[show 9+i=(8+i)+1 by omega]
 show aC (kG e l++enS e l r) (8+i)=_
 rw[iw _ _ _ (by rw[show(kG e l).length=8 from uS _];omega),show(kG e l).length=8 from uS _,Nat.add_sub_cancel_left]
theorem acS {u:List Int}(h:sJ u)(k:Nat)(hk:k<2)(i:Nat)(hi:i<8):0≤aC u i∧aC u i≤uO (9+8*k+i):=by
 have e:uO (9+8*k+i)=uO (9+i):=by
  have:∀k:Fin 2,∀i:Fin 8,uO (9+8*k.val+i.val)=uO (9+i.val):=by decide
  exact this ⟨k,hk⟩ ⟨i,hi⟩
 rw[e]
 obtain rfl|rfl|rfl|rfl|rfl|rfl|rfl|rfl:i=0∨i=1∨i=2∨i=3∨i=4∨i=5∨i=6∨i=7:=gA
 ·exact h.eH
 ·exact h.pit
 ·exact h.idx 0 gA
 ·exact h.idx 1 gA
 ·exact h.idx 2 gA
 ·exact h.idx 3 gA
 ·exact h.kS
 exact h.gG
theorem FQ {e l:List Int}(r:Bool)(hg:cO (fF e)=true):j4 (n_ e l r)=true:=by
 obtain⟨f1,f2⟩:=FM r hg
 have n:bN (gY (kG e l))=true:=rW _ (vY (lN (oz (lT e l))))
 have q:VO (kG e l):=vY (lN (oz (lT e l)))
 rw[kF]
 intro i hi
 by_cases h0:i=0
 ·subst h0;exact afj e l r
 by_cases h1:i<9
 ·obtain⟨j,rfl⟩:∃j,i=1+j:=⟨i-1,gA⟩
  rw[aiH r j gA,Ml j gA]
  have:=q.2 j gA
  omega
 obtain⟨j,rfl⟩:∃j,i=9+j:=⟨i-9,gA⟩
 rw[aiI]
 unfold enS
 split
 ·rw[iZ];exact⟨Int.le_refl _,(Bf (9+j) hi).1⟩
 have u0:=uh (iG e l) f1 f2 (kX _) n 0
 have u1:=uh (iG e l) f1 f2 (kX _) n 1
 by_cases h2:j<8
 ·rw[jf _ _ _ (by rw[u0.len];exact h2)]
  exact acS u0 0 gA j h2
 rw[iw _ _ _ (by rw[u0.len];omega),u0.len]
 have:=acS u1 1 gA (j-8) gA
 rwa [show 9+8*1+(j-8)=9+j by omega]at this
theorem acT {e l:List Int}(r:Bool)(he:e.length=225):(nQ e l r).length=225:=by
 unfold nQ
 split
 ·rename_i k
  rw[List.length_append,List.length_append,xJ k.1 k.2.2.1,Fg _ (show(fF e).length=101 from aR _ _ _)]
  rfl
 exact au _
theorem FU {a b:List Int}(h:a.length=b.length)(k:∀i,i<a.length→aC a i=aC b i):a=b:=by
 have e:a=fM b.length (aC b):=dJ h (fun i hi=>k i gA)
 have f:b=fM b.length (aC b):=dJ rfl (fun i _=>rfl)
 rw[e];exact f.symm
theorem DR (l M:List Int)(o p n:Nat)(hl:p+n≤l.length)(h:p+n≤o∨o+M.length≤p):bP (jr l o M) p n=bP l p n:=by
 refine dJ (aR _ _ _) (fun i hi=>?_)
 rw[fV _ _ _ _ hi,gD _ _ _ _ gA,if_neg gA]
theorem FX (l M:List Int)(o:Nat)(hl:o+M.length≤l.length):bP (jr l o M) o M.length=M:=by
 refine(dJ rfl (fun i hi=>?_)).symm
 rw[gD _ _ _ _ gA,if_pos gA,Nat.add_sub_cancel_left]
theorem M_ (l M:List Int)(o k:Nat)(z:Int)(hk:k<l.length)(h:k<o∨o+M.length≤k):jr (l.set k z) o M=(jr l o M).set k z:=by
 refine FU (by rw[eG,List.length_set,List.length_set,eG]) (fun i hi=>?_)
 rw[eG,List.length_set]at hi
 rw[gD _ _ _ _ (by rw[List.length_set];exact hi),qm _ _ _ hk,qm _ _ _ (by rw[eG];exact hk),gD _ _ _ _ hi]
 by_cases e:i=k
 ·rw[if_pos e,if_neg gA,if_pos e]
 rw[if_neg e,if_neg e]
theorem KE (A m x:List Int)(hm:m.length=101):bP (qo A m x) 0 8=bP m 0 8:=by
 unfold qo
 exact DR _ _ _ _ _ gA (.inl gA)
theorem Qz (l u:List Int)(hl:l.length=101):bP (yK l u) 0 8=bP l 0 8:=by
 unfold yK
 rw[oH _ _ _ _ _ (by rw[List.length_set,List.length_set,eG];omega) (.inr gA),oH _ _ _ _ _ (by rw[List.length_set,eG];omega) (.inr gA),oH _ _ _ _ _ (by rw[eG];omega) (.inr gA)]
 exact DR _ _ _ _ _ gA (.inl gA)
theorem acU (l:List Int)(hl:l.length=101)(hg:cO l=true):bP (yX l) 0 8=bP l 0 8:=by
 have e:yX l=memT l (aC l 99) (uF (aC l 100) 40) (Eu (bP l 16 80) (siX l)):=if_pos hg
 rw[e]
 unfold memT
 rw[DR _ _ _ _ _ (by rw[List.length_set,List.length_set];omega) (.inl gA),oH _ _ _ _ _ (by rw[List.length_set];omega) (.inr gA),oH _ _ _ _ _ gA (.inr gA)]
theorem FZ (bS:Bool)(l u:List Int)(hl:l.length=101)(hg:cO l=true):bP (lK bS l u) 0 8=bP l 0 8:=by
 unfold lK
 split
 ·exact acU l hl hg
 exact Qz l u hl
theorem F4 (bS:Bool){now p l:List Int}(hl:l.length=101)(hg:cO l=true)(hn:now.length=8)(sn:bN now=true)(hp:j4 p=true):∀n,n≤2→bP (jX bS now l p n) 0 8=bP l 0 8
 | 0,_=>rfl
 | n+1,h=>by
  have g:=nN bS hl hg hn sn hp n gA
  have len:=oI bS now p hl n
  show bP (qo _ (lK bS (jX bS now l p n) (dS p n)) _) 0 8=_
  rw[KE _ _ _ (xk bS len _),FZ bS _ _ len g]
  exact F4 bS hl hg hn sn hp n gA
def hfM (A:List Int)(bS:Bool)(l u:List Int):List Int:=qo A (lK bS l u) (vK bS l u)
def VQ (A:List Int)(bS:Bool)(l u:List Int):List Int:=uM A (lK bS l u) (vK bS l u)
theorem ahL (A:List Int)(bS:Bool){l u:List Int}(hg:cO l=true)(h:sJ u):(VQ A bS l u).length≤40:=by
 have:=UO A (bP (lK bS l u) 8 8) (vK bS l u)
 rw[(tQ bS hg h).1]at this
 exact this
theorem acV (bS:Bool){now p l:List Int}(hl:l.length=101)(hg:cO l=true)(hn:now.length=8)(sn:bN now=true)(hp:j4 p=true)(n:Nat)(h:n<2):hfM (gK (bP l 0 8) now n) bS (jX bS now l p n) (dS p n)=jX bS now l p (n+1):=by
 show _=qo (gK (bP (lK bS (jX bS now l p n) (dS p n)) 0 8) now n) _ _
 rw[FZ bS _ _ (oI bS now p hl n) (nN bS hl hg hn sn hp n gA),F4 bS hl hg hn sn hp n gA]
 rfl
theorem acW (bS:Bool){now p l:List Int}(hl:l.length=101)(hg:cO l=true)(hn:now.length=8)(sn:bN now=true)(hp:j4 p=true)(n:Nat)(h:n<2):IJ bS now l p n++VQ (gK (bP l 0 8) now n) bS (jX bS now l p n) (dS p n)=IJ bS now l p (n+1):=by
 show _=IJ bS now l p n++uM (gK (bP (lK bS (jX bS now l p n) (dS p n)) 0 8) now n) _ _
 rw[FZ bS _ _ (oI bS now p hl n) (nN bS hl hg hn sn hp n gA),F4 bS hl hg hn sn hp n gA]
 rfl
theorem QC (now x:List Int){m:List Int}(hm:m.length=101):∀k,bP (sU now m x k) 0 8=bP m 0 8
 | 0=>rfl
 | k+1=>by
  rw[zS,KE _ _ _ (by rw[xg];exact oJ now x hm k),Qz _ _ (oJ now x hm k)]
  exact QC now x hm k
theorem VT (now x:List Int){m:List Int}(hm:m.length=101)(k:Nat):enA now m x k=gK (bP m 0 8) now k:=by
 unfold enA
 rw[QC now x hm k]
theorem acX (now m x:List Int)(hm:m.length=101)(k:Nat):hfM (gK (bP m 0 8) now k) false (sU now m x k) (pR now m x k)=sU now m x (k+1):=by
 rw[zS,VT now x hm k]
 unfold hfM
 rw[YW,YX]
theorem afk (l u:List Int)(hl:l.length=101):jr (((l.set 98 (20+aC u 0)).set 97 (IG u)).set 96 (Iz u)) 16 (Dw (bP l 16 80) (qG l u))=yK l u:=by
 have k:=LJ (bP l 16 80) (qG l u)
 rw[M_ _ _ _ _ _ (by rw[List.length_set,List.length_set];omega) (.inr gA),M_ _ _ _ _ _ (by rw[List.length_set];omega) (.inr gA),M_ _ _ _ _ _ gA (.inr gA)]
 rfl
def O0 (was now:List Int):Nat→List Int
 | 0=>ay 18
 | k+1=>jr (O0 was now k) (9*k) (gK was now k)
theorem DU (was now:List Int):∀k,(O0 was now k).length=18
 | 0=>au 18
 | k+1=>by
  show(jr _ _ _).length=18
  rw[eG];exact DU was now k
theorem wm (was now:List Int)(k:Nat):(gK was now k).length=9:=by
 unfold gK
 split<;>exact vQ _
theorem QD (was now:List Int)(k:Nat)(h:k<2):bP (O0 was now 2) (9*k) 9=gK was now k:=by
 have l0:=wm was now 0
 have l1:=wm was now 1
 obtain rfl|rfl:k=0∨k=1:=gA
 ·show bP (jr (jr (ay 18) 0 (gK was now 0)) 9 (gK was now 1)) 0 9=_
  rw[DR _ _ _ _ _ (by rw[eG,au];omega) (.inl gA)]
  have:=FX (ay 18) (gK was now 0) 0 (by rw[l0,au];omega)
  rw[l0]at this
  exact this
 show bP (jr (jr (ay 18) 0 (gK was now 0)) 9 (gK was now 1)) 9 9=_
 have:=FX (jr (ay 18) 0 (gK was now 0)) (gK was now 1) 9 (by rw[l1,eG,au];omega)
 rw[l1]at this
 exact this
def Ji (a b:List Int):List Int:=fM a.length (fun i=>eU (eU (aC a i)-eU (aC b i)))
def Bp (a:List Int)(g:Int):List Int:=fM a.length (fun i=>eU ((aC a i*g+8192) / 16384))
theorem qI {l:List Int}(h:aL l=true)(i:Nat):-32768≤aC l i∧aC l i≤32767:=by
 by_cases hi:i<l.length
 ·exact(aV l).1 h i hi
 rw[dO _ _ gA];omega
theorem F6 {a b:List Int}(ha:aL a=true)(hb:aL b=true):Ji a b=fM a.length (fun i=>eU (aC a i-aC b i)):=by
 unfold Ji
 exact ow _ _ _ (fun i _=>by rw[Ee _ (qI ha i).1 (qI ha i).2,Ee _ (qI hb i).1 (qI hb i).2])
theorem acY (a:List Int)(g:Int):(Bp a g).length=a.length:=bQ _ _
theorem VU (a:List Int)(g:Int):aL (Bp a g)=true:=Bj _ _
theorem afl {m a x:List Int}(hg:cO m=true)(hA:j6 a)(hx:x.length=40)(rx:aL x=true):Ji x (Vn m a)=Fh m a x:=by
 rw[F6 rx (Ms hg hA).2,hx]
 rfl
theorem afm {m a:List Int}(x:List Int)(hg:cO m=true)(hA:j6 a):Ji (Fh m a x) (Bp (OY m a x) (Aq (Fj m a x)))=yL m a x:=by
 rw[F6 (sM m a x).2 (VU _ _),(sM m a x).1]
 unfold yL
 refine ow _ _ _ (fun i hi=>?_)
 unfold Vo Bp
 rw[dN _ _ _ (by rw[(Bn x hg hA).1];exact hi)]
def V9 (w:World)(L:List Int)(e:Ending)(w':World):Prop:=∃v',e=.returned v'∧gP w.heap.size w' v' L∧w.grownBy w' none
theorem QM {w:World}{b base:Nat}{rs:List Int}(h:bO w b 3 rs)(hb:base≤b)(hl:rs.length≤35184372088832):gP base w (.slice (some ⟨b,0,none⟩) rs.length rs.length) rs:=
 ⟨by simp,.inr ⟨b,rs.length,aD rs,rfl,hb,h,Nat.le_refl _,by unfold maxLen;omega,by simp[aD],by simp[aD,List.take_of_length_le]⟩⟩
theorem ak5:(prog.info? 73).bind (·.zero)=some (.agg (aD (ay 18))):=by kernel_rfl
theorem V_:(prog.info? 73).map (·.size)=some 18:=by kernel_rfl
theorem ahN (w:World)(T1 T2 T3 T4:TypeId)(a b c d:List Int):bO ((((w.alloc (.cells (aD a) T1)).alloc (.cells (aD b) T2)).alloc (.cells (aD c) T3)).alloc (.cells (aD d) T4)) (w.heap.size+1+1+1) T4 d:=by
 have:=bO.new (((w.alloc (.cells (aD a) T1)).alloc (.cells (aD b) T2)).alloc (.cells (aD c) T3)) T4 d
 simpa using this
def Jj (w:World)(was now L:List Int)(wr:World):Prop:=bO wr w.heap.size 26 was∧bO wr (w.heap.size+1) 26 now∧dP wr (w.heap.size+1+1) 73 (aO (ay 18))∧dP wr (w.heap.size+1+1+1) 73 (aO L)∧w.grownBy wr none
theorem Jj.new (w:World)(was now:List Int):Jj w was now (ay 18) ((((w.alloc (.cells (aD was) 26)).alloc (.cells (aD now) 26)).alloc (.cells (aD (ay 18)) 73)).alloc (.cells (aD (ay 18)) 73)):=by
 have h:=mW w 26 26 73 was now (ay 18)
 have g:=ak (((w.alloc (.cells (aD was) 26)).alloc (.cells (aD now) 26)).alloc (.cells (aD (ay 18)) 73)) (.cells (aD (ay 18)) 73) none
 exact⟨h.1.aH g,h.2.1.aH g,h.2.2.1.aH g,ahN w _ _ _ _ was now _ _,aB h.2.2.2 g⟩
theorem Jj.aH {w:World}{was now L:List Int}{wr wr':World}(h:Jj w was now L wr)(g:wr.grownBy wr' none):Jj w was now L wr':=⟨h.1.aH g,h.2.1.aH g,h.2.2.1.aH g,h.2.2.2.1.aH g,aB h.2.2.2.2 g⟩
theorem Jj.put {w:World}{was now L:List Int}{wr:World}(h:Jj w was now L wr)(o:Nat)(M:List Int)(hl:o+M.length≤L.length):Jj w was now (jr L o M) (dQ wr (w.heap.size+1+1+1) o (aO M))∧wr.grownBy (dQ wr (w.heap.size+1+1+1) o (aO M)) (some (w.heap.size+1+1+1)):=by
 have:=aht h.2.2.2.1 o M hl
 exact⟨⟨h.1.aJ this.2 gA,h.2.1.aJ this.2 gA,h.2.2.1.aJ this.2 gA,this.1,aG h.2.2.2.2 this.2 gA⟩,this.2⟩
theorem rY (was now:List Int)(h1:was.length=8)(h2:now.length=8)(s1:bN was=true)(s2:bN now=true)(w:World) :
 Calls prog 39 #[.agg (aD was),.agg (aD now)] w (jk w (.agg (aD (O0 was now 2)))):=by
 have L0:=Zd (Jj.new w was now)
 have MX:=Zd (fun(k:Nat) wr=>afr was now h1 h2 (2+2*(k:Int)) wr)
 have DM:=Zd (fun(k:Nat) (hk:k<2) wr=>V7 (nG was now (2+2*(k:Int))) (tu _ _ _) wr)
 have DE:=Zd (fun(k:Nat) (hk:k<2)=>acv was now k hk h2 s1 s2)
 have PN:=Zd (fun(k:Nat)=>wm was now k)
 have KN:=Zd (fun(k:Nat)=>tu was now (2+2*(k:Int)))
 have LN:=Zd (fun(k:Nat)=>DU was now k)
 have ST:=Zd (fun(k:Nat)=>show jr (O0 was now k) (9*k) (gK was now k)=O0 was now (k+1)from rfl)
 have E0:=Zs (ay 18=O0 was now 0) (rfl)
 have F:=Zs (∀w',w.grownBy w' none→jk w (.agg (aD (O0 was now 2))) (.returned (.agg (aD (O0 was now 2)))) w') (fun w' q=>⟨rfl,q⟩)
 have H1:=Zs ((prog.info? 26).map (·.size)=some was.length) (by rw[h1];exact dV)
 have H2:=Zs ((prog.info? 26).map (·.size)=some now.length) (by rw[h2];exact dV)
 have hz:=gM ak5
 clear s1 s2 h1 h2
 generalize jk w (.agg (aD (O0 was now 2)))=T at *
 go_enter func39,ntmps39
 go_upto_region 2 with fail
 generalize (((w.alloc (.cells (aD was) 26)).alloc (.cells (aD now) 26)).alloc (.cells (aD (ay 18)) 73)).alloc (.cells (aD (ay 18)) 73)=W0 at *
 clear hz
 go_wp2_with fail
 go_loopw [9] (fun i wr=>∃k:Nat,i=.int .i64 (k:Int)∧k≤2∧Hid (Jj w was now (O0 was now k) wr)) (fun i _=>2-(intOf i).toNat)
 case atStart=>exact⟨0,rfl,Nat.zero_le _,by rw[←E0.out];exact L0.out⟩
 case round=>
  obtain⟨k,rfl,hk,hP⟩:=hrel
  clear L0 E0
  by_cases jS:k<2
  ·have hk2:(k:Int)<2:=gA
   have MX1:=Zd (MX.out k wr)
   have DM1:=Zd (DM.out k jS)
   have DE1:=Zd (DE.out k jS)
   have q1:((k:Int)+1)*4=4*k+4:=gA
   have q2:(4*(k:Int)+4).tdiv 2=2+2*k:=by rw[Int.tdiv_eq_ediv_of_nonneg gA];omega
   have q3:(4*(k:Int)+4) / 2=2+2*k:=gA
   rw[DE1.out]at DM1
   have PN1:=Zd (PN.out k)
   have KN1:=Zd (KN.out k)
   have LN1:=Zd (LN.out k)
   have ST1:=Zd (ST.out k)
   generalize ze was now (2+2*(k:Int))=x1 at *
   generalize yD (nG was now (2+2*(k:Int)))=x2 at *
   generalize nG was now (2+2*(k:Int))=K at *
   generalize gK was now k=A at *
   go_upto_region 5 with fail
   go_wp2_with (first|refine lA hP.out.1 H1.out ?_|refine lA hP.out.2.1 H2.out ?_)
   (try simp only[q1,q2,q3])
   refine MX1.out.mono ?_
   rintro e w1 ⟨rfl,g1⟩
   obtain⟨b1,b2,b3⟩:=dL w1 26 8 K KN1.out
   have B1:=Zd b1
   have B2:=Zd b2
   have P2:=Zd ((hP.out.aH g1).aH b3)
   rw[rF]at B1 B2 P2
   clear g1 b1 b2 b3 hP MX1
   go_upto_region 6 with(first|refine sA K B1.out (by rw[KN1.out,au]) (by rw[au];exact dV) ?_)
   (try simp only[Act.put])
   generalize bT _ w1.heap.size K=w2 at *
   generalize w1.heap.size=bk at *
   go_wp2_with (first|refine lA B2.out (by rw[KN1.out];exact dV) ?_)
   refine(DM1.out w2).mono ?_
   rintro e w3 ⟨rfl,g3⟩
   have P3:=Zd (P2.out.aH g3)
   have PU:=P3.out.put (9*k) A (by rw[PN1.out,LN1.out];omega)
   have P4:=Zd PU.1
   rw[ST1.out]at P4
   have ID:=Zd (d9 A)
   have IL:=Zs ((aO A).length=9) (by rw[aM];exact PN1.out)
   have IP:=Zs ((aO (O0 was now k)).length=18) (by rw[aM];exact LN1.out)
   clear g3 PU DM1
   go_upto_region 7 with(first|refine vR rfl 58 _ _ rfl (w.heap.size+1+1+1) (9*k) 73 (aO (O0 was now k)) (aO A) (by go_simp;(try simp only[Nat.mul_comm]);(try with_reducible rfl)) rfl P3.out.2.2.2.1 (by rw[IL.out,IP.out];omega) (by rw[IL.out];exact dz) ID.out ?_)
   (try simp only[Act.put])
   generalize dQ w3 (w.heap.size+1+1+1) (9*k) (aO A)=w4 at *
   go_wp2_with fail
   go_roundw
   case rel=>exact⟨k+1,by go_num,gA,P4.out⟩
   case measure=>simp[intOf];omega
  obtain rfl:k=2:=gA
  have LN1:=Zd (LN.out 2)
  generalize O0 was now 2=L at *
  have PA:=Zs (((aO L).drop 0).take 18=aO L) (by rw[List.drop_zero,List.take_of_length_le (by rw[aM,LN1.out];omega)])
  have PU:=tC hP.out.2.2.1 0 (aO L) (by rw[aM,aM,LN1.out,au];omega)
  rw[qM _ _ (by rw[aM,aM,LN1.out,au])]at PU
  have PB:=Zd PU
  have FF:=Zd (F.out _ (aG hP.out.2.2.2.2 PU.2 gA))
  have ID:=Zd (d9 L)
  have IL:=Zs ((aO L).length=18) (by rw[aM];exact LN1.out)
  have IZ:=Zs ((aO (ay 18)).length=18) (by rw[aM];exact au 18)
  clear PU
  rw[show aD L=(aO L).toArray from rfl]at FF
  go_wp2_with (first|refine lV 0 hP.out.2.2.2.1 V_ (by rw[IL.out];omega) PA.out ?_|refine sV 0 (aO L) hP.out.2.2.1 (by rw[IL.out,IZ.out];omega) (by rw[IL.out];exact V_) ID.out ?_)
  have eO:=wV PB.out.1 (by rw[IL.out];exact V_)
  refine bodyPost_ret (v:=.agg (aO L).toArray) ?_ rfl FF.out
  simp[results,results39,asAddr,Act.put,eO]
theorem ru (v u:Value)(a b:List Int)(w:World)(ha:aS w v a)(hb:aS w u b)(hl:a.length≤b.length)(hn:a.length≤100)(ra:aL a=true)(rb:aL b=true) :
 Calls prog 36 #[v,u] w (mO w (.int .i64 (fE a b a.length))):=by
 have F:=Zs (mO w (.int .i64 (fE a b a.length)) (.returned (.int .i64 (fE a b a.length))) w) (⟨rfl,rfl⟩)
 have DB:=Zd (mq a b ra rb)
 have RA:=Zd (jE a (-32768) 32767 gA gA ((aV a).1 ra))
 have RB:=Zd (jE b (-32768) 32767 gA gA ((aV b).1 rb))
 obtain⟨ad,c,rfl,hc,qZ⟩:=ha
 obtain⟨bd,d,rfl,hd,qc⟩:=hb
 have VA:=Zd qZ
 have VB:=Zd qc
 clear qZ qc ra rb
 generalize mO w (.int .i64 (fE a b a.length))=T at *
 go_enter func36,ntmps36
 go_wp2_with fail
 go_loop [5,10] (fun s i=>∃m:Nat,i=.int .i64 m∧s=.int .i64 (fE a b m)∧m≤a.length) (fun _ i=>a.length-(intOf i).toNat)
 case atStart=>exact⟨0,rfl,rfl,Nat.zero_le _⟩
 case round=>
  obtain⟨m,rfl,rfl,hm⟩:=hrel
  by_cases hml:m<a.length
  ·obtain⟨pa,rfl,ca⟩:=VA.out gA
   obtain⟨pb,rfl,cb⟩:=VB.out gA
   have cx:=ca m hml
   have cy:=cb m gA
   obtain⟨x1,x2⟩:=RA.out m
   obtain⟨y1,y2⟩:=RB.out m
   have pq:=pK _ _ x1 x2 y1 y2
   have dd:=DB.out m
   have ST:=KJ a b m
   have i1:(m:Int)<a.length:=gA
   have i2:(m:Int)<b.length:=gA
   have HS:=Zd ST
   clear ca cb ST
   obtain⟨p1,p2⟩:=pq
   obtain⟨d1,d2⟩:=dd
   have d3:-107374182400≤fE a b m:=gA
   have d4:fE a b m≤107374182400:=gA
   clear d1 d2
   generalize fE a b m=s at *
   generalize aC a m=x at *
   generalize aC b m=y at *
   go_wp2_with fail
   go_round
   case rel=>exact⟨m+1,by go_num,by rw[HS.out],gA⟩
   case measure=>simp[intOf];omega
  obtain rfl:m=a.length:=gA
  generalize fE a b a.length=s at *
  go_wp2_with fail
  exact F.out
theorem Ct (v u:Value)(a b:List Int)(w:World)(ha:aS w v a)(hb:aS w u b)(la:a.length=40)(lb:b.length=40) :
 Calls prog 111 #[v,u] w (V9 w (Ji a b)):=by
 have IV:=Zd (fun wr (g:w.grownBy wr none)=>aP ha g)
 have IU:=Zd (fun wr (g:w.grownBy wr none)=>aP hb g)
 have F:=Zs (∀v' w',gP w.heap.size w' v' (Ji a b)→w.grownBy w' none→V9 w (Ji a b) (.returned v') w') (fun v' w' o q=>⟨v',rfl,o,q⟩)
 have EN:=Zd (fun m=>show eU (eU (aC a m)-eU (aC b m))=(fun i=>eU (eU (aC a i)-eU (aC b i))) m from rfl)
 have EL:=Zs (fM 40 (fun i=>eU (eU (aC a i)-eU (aC b i)))=Ji a b) (by unfold Ji;rw[la])
 obtain⟨ad,c,rfl,hc,_⟩:=ha
 obtain⟨bd,d,rfl,hd,_⟩:=hb
 rw[la]at hc IV ⊢
 rw[lb]at hd IU ⊢
 have LA:=Zd la
 have LB:=Zd lb
 have M0:=Zs (bO (w.alloc (.cells (aD (ay 40)) 3)) w.heap.size 3 (ay 40)∧w.grownBy (w.alloc (.cells (aD (ay 40)) 3)) none) (⟨bO.new w 3 (ay 40),ak _ _ none⟩)
 have jg:=fZ 40 gA
 rw[show((40:Nat):Int)=40 from rfl]at jg
 clear la lb
 generalize V9 w (Ji a b)=T at *
 generalize (fun i=>eU (eU (aC a i)-eU (aC b i)))=f at *
 go_enter func111,ntmps111
 go_upto_region 2 with fail
 clear jg
 generalize w.alloc (.cells (aD (ay 40)) 3)=W0 at *
 go_wp2_with fail
 go_loopw [13] (fun i wr=>∃(m:Nat) (rs:List Int),i=.int .i64 (m:Int)∧m≤40∧Hid (jh 40 f m rs)∧Hid (bO wr w.heap.size 3 rs∧w.grownBy wr none)) (fun i _=>40-(intOf i).toNat)
 case atStart=>exact⟨0,ay 40,rfl,Nat.zero_le _,gZ 40 _,M0.out⟩
 case round=>
  obtain⟨m,rs,rfl,hm,hF,hM⟩:=hrel
  clear M0
  by_cases kP:m<40
  ·have i1:(m:Int)<40:=gA
   obtain⟨p,rfl,ca⟩:=jW (IV.out _ hM.out.2) m (by rw[LA.out];exact kP)
   obtain⟨q,rfl,cb⟩:=jW (IU.out _ hM.out.2) m (by rw[LB.out];exact kP)
   have cd:=hM.out.1.cell m (by rw[hF.out.1];exact kP)
   have fd:=hM.out.1.free m
   have NF:=Zd (eP hF.out kP)
   have NM:=Zs (bO (wr.setCell ⟨w.heap.size,m,none⟩ (.int .i64 (f m))) w.heap.size 3 (rs.set m (f m))∧w.grownBy (wr.setCell ⟨w.heap.size,m,none⟩ (.int .i64 (f m))) none) (⟨hM.out.1.set m (f m),aG hM.out.2 (aF wr ⟨w.heap.size,m,none⟩ _) (Nat.le_refl _)⟩)
   have EN1:=Zd (EN.out m)
   clear hF hM
   generalize f m=R at *
   generalize aC a m=x at *
   generalize aC b m=y at *
   generalize aC rs m=z at *
   go_wp2_with fail
   refine(aeS x y _).mono ?_
   rintro e w1 ⟨rfl,rfl⟩
   rw[EN1.out]
   go_wp2_with fail
   go_roundw
   case rel=>exact⟨m+1,_,by go_num,gA,NF.out,NM.out⟩
   case measure=>simp[intOf];omega
  obtain rfl:m=40:=gA
  have RS:=fB hF.out
  have OW:=QM (base:=w.heap.size) hM.out.1 (Nat.le_refl _) (by rw[hF.out.1];omega)
  rw[hF.out.1,RS,show List.map f (List.range 40)=_ from EL.out]at OW
  have FF:=Zd (F.out _ _ OW hM.out.2)
  clear OW
  go_wp2_with fail
  exact FF.out
theorem Jk (v:Value)(a:List Int)(n:Int)(w:World)(ha:aS w v a)(la:a.length=40)(ra:aL a=true)(ht:TabA w 2 gains 8) :
 Calls prog 115 #[v,.int .i64 n] w (V9 w (Bp a (Aq n))):=by
 have IV:=Zd (fun wr (g:w.grownBy wr none)=>aP ha g)
 have F:=Zs (∀v' w',gP w.heap.size w' v' (Bp a (Aq n))→w.grownBy w' none→V9 w (Bp a (Aq n)) (.returned v') w') (fun v' w' o q=>⟨v',rfl,o,q⟩)
 have GA:=Zd (Cr n w ht)
 have gb:=ahH n
 have EN:=Zd (fun m=>show eU ((aC a m*Aq n+8192) / 16384)=(fun i=>eU ((aC a i*Aq n+8192) / 16384)) m from rfl)
 have EL:=Zs (fM 40 (fun i=>eU ((aC a i*Aq n+8192) / 16384))=Bp a (Aq n)) (by unfold Bp;rw[la])
 have RA:=Zd (fun m=>qI ra m)
 obtain⟨ad,c,rfl,hc,_⟩:=ha
 rw[la]at hc IV ⊢
 have LA:=Zd la
 have M0:=Zs (bO (w.alloc (.cells (aD (ay 40)) 3)) w.heap.size 3 (ay 40)∧w.grownBy (w.alloc (.cells (aD (ay 40)) 3)) none) (⟨bO.new w 3 (ay 40),ak _ _ none⟩)
 have jg:=fZ 40 gA
 rw[show((40:Nat):Int)=40 from rfl]at jg
 clear la ra
 generalize V9 w (Bp a (Aq n))=T at *
 generalize (fun i=>eU ((aC a i*Aq n+8192) / 16384))=f at *
 generalize Aq n=g at *
 go_enter func115,ntmps115
 go_wp2_with fail
 refine GA.out.mono ?_
 rintro e w1 ⟨rfl,rfl⟩
 clear GA
 go_upto_region 3 with fail
 clear jg
 generalize w1.alloc (.cells (aD (ay 40)) 3)=W0 at *
 go_wp2_with fail
 go_loopw [20] (fun i wr=>∃(m:Nat) (rs:List Int),i=.int .i64 (m:Int)∧m≤40∧Hid (jh 40 f m rs)∧Hid (bO wr w1.heap.size 3 rs∧w1.grownBy wr none)) (fun i _=>40-(intOf i).toNat)
 case atStart=>exact⟨0,ay 40,rfl,Nat.zero_le _,gZ 40 _,M0.out⟩
 case round=>
  obtain⟨m,rs,rfl,hm,hF,hM⟩:=hrel
  clear M0
  by_cases kP:m<40
  ·have i1:(m:Int)<40:=gA
   obtain⟨p,rfl,ca⟩:=jW (IV.out _ hM.out.2) m (by rw[LA.out];exact kP)
   have cd:=hM.out.1.cell m (by rw[hF.out.1];exact kP)
   have fd:=hM.out.1.free m
   have NF:=Zd (eP hF.out kP)
   have NM:=Zs (bO (wr.setCell ⟨w1.heap.size,m,none⟩ (.int .i64 (f m))) w1.heap.size 3 (rs.set m (f m))∧w1.grownBy (wr.setCell ⟨w1.heap.size,m,none⟩ (.int .i64 (f m))) none) (⟨hM.out.1.set m (f m),aG hM.out.2 (aF wr ⟨w1.heap.size,m,none⟩ _) (Nat.le_refl _)⟩)
   have EN1:=Zd (EN.out m)
   have bx:=RA.out m
   clear hF hM
   generalize f m=R at *
   generalize aC a m=x at *
   generalize aC rs m=z at *
   have bg:=qK x g bx.1 bx.2 gA gA
   go_wp2_with fail
   refine(qC _ _).mono ?_
   rintro e w2 ⟨rfl,rfl⟩
   rw[EN1.out]
   go_wp2_with fail
   go_roundw
   case rel=>exact⟨m+1,_,by go_num,gA,NF.out,NM.out⟩
   case measure=>simp[intOf];omega
  obtain rfl:m=40:=gA
  have RS:=fB hF.out
  have OW:=QM (base:=w1.heap.size) hM.out.1 (Nat.le_refl _) (by rw[hF.out.1];omega)
  rw[hF.out.1,RS,show List.map f (List.range 40)=_ from EL.out]at OW
  have FF:=Zd (F.out _ _ OW hM.out.2)
  clear OW
  go_wp2_with fail
  exact FF.out
theorem QS (h:List Int)(eH g:Int)(v:Value)(b:List Int)(w:World)(hv:aS w v b)(hl:b.length≠40)(ni:b.length≤1000000000000000000) :
 Calls prog 123 #[.agg (aD h),.int .i64 eH,.int .i64 g,v] w (fO w (zq h eH g b) (yH eH g b)):=by
 obtain⟨ad,c,rfl,hc,_⟩:=hv
 have hne:((b.length:Int)==40)=false:=beq_eq_false_iff_ne.2 gA
 have F:=Zs (∀w',w.grownBy w' none→fO w (zq h eH g b) (yH eH g b) (.returned (.tuple #[.slice none 0 0,.int .i64 1])) w') (fun w' q=>⟨_,by rw[(zw (h:=h) hl).2],by rw[(zw (h:=h) hl).1];exact bZ _ _,q⟩)
 have G0:=Zd (ak w (.cells (aD h) 27) none)
 clear hl
 generalize fO w (zq h eH g b) (yH eH g b)=T at *
 go_enter func123,ntmps123
 go_upto_region 1 with fail
 generalize w.alloc (.cells (aD h) 27)=W0 at *
 go_wp2_with fail
 exact F.out _ G0.out
theorem QT (h:List Int)(eH g:Int)(v:Value)(b:List Int)(w:World)(hv:aS w v b)(hl:b.length=40)(hr:¬(0≤g∧g≤32767)) :
 Calls prog 123 #[.agg (aD h),.int .i64 eH,.int .i64 g,v] w (fO w (zq h eH g b) (yH eH g b)):=by
 obtain⟨ad,c,rfl,hc,_⟩:=hv
 have q:¬PI eH g b:=by unfold PI;omega
 have F:=Zs (∀w',w.grownBy w' none→fO w (zq h eH g b) (yH eH g b) (.returned (.tuple #[.slice none 0 0,.int .i64 2])) w') (fun w' k=>⟨_,by rw[(qA (h:=h) hl q).2],by rw[(qA (h:=h) hl q).1];exact bZ _ _,k⟩)
 have G0:=Zd (ak w (.cells (aD h) 27) none)
 have WI:=Zd (fun u=>iE g 0 32767 u)
 rw[decide_eq_false hr]at WI
 rw[hl]at hc ⊢
 clear hl q hr
 generalize fO w (zq h eH g b) (yH eH g b)=T at *
 go_enter func123,ntmps123
 go_upto_region 1 with fail
 generalize w.alloc (.cells (aD h) 27)=W0 at *
 go_wp2_with fail
 refine(WI.out _).mono ?_
 rintro e w1 ⟨rfl,rfl⟩
 go_wp2_with fail
 exact F.out _ G0.out
theorem Wd (h:List Int)(eH g:Int)(v:Value)(b:List Int)(w:World)(hh:h.length=80)(hv:aS w v b)(hl:b.length=40)(hg:0≤g∧g≤32767)(hr:¬(20≤eH∧eH≤79)) :
 Calls prog 123 #[.agg (aD h),.int .i64 eH,.int .i64 g,v] w (fO w (zq h eH g b) (yH eH g b)):=by
 obtain⟨ad,c,rfl,hc,_⟩:=hv
 have q:¬PI eH g b:=by unfold PI;omega
 have F:=Zs (∀w',w.grownBy w' none→fO w (zq h eH g b) (yH eH g b) (.returned (.tuple #[.slice none 0 0,.int .i64 2])) w') (fun w' k=>⟨_,by rw[(qA (h:=h) hl q).2],by rw[(qA (h:=h) hl q).1];exact bZ _ _,k⟩)
 have B0:=Zd (bO.new w 27 h)
 have G0:=Zd (ak w (.cells (aD h) 27) none)
 have WI:=Zd (fun u=>iE g 0 32767 u)
 rw[decide_eq_true hg]at WI
 have PS:=Zd (fun u=>rX h hh eH u)
 rw[show mJ h eH=[]from if_neg hr,show AU eH=2 from if_neg hr]at PS
 have S80:=Zs ((prog.info? 27).map (·.size)=some h.length) (by rw[hh];exact fP)
 rw[hl]at hc ⊢
 clear hl q hr hg hh
 generalize fO w (zq h eH g b) (yH eH g b)=T at *
 go_enter func123,ntmps123
 go_upto_region 1 with fail
 generalize w.alloc (.cells (aD h) 27)=W0 at *
 go_wp2_with fail
 refine(WI.out _).mono ?_
 rintro e w1 ⟨rfl,rfl⟩
 clear WI
 go_wp2_with (refine lA B0.out S80.out ?_)
 refine(PS.out _).mono ?_
 rintro e w2 ⟨v2,rfl,o2,g2⟩
 have FF:=Zd (F.out _ (aB G0.out g2))
 clear PS o2 g2
 go_wp2_with fail
 exact FF.out
theorem Wh (h:List Int)(eH g:Int)(v:Value)(b:List Int)(w:World)(hh:h.length=80)(hv:aS w v b)(hk:PI eH g b) :
 Calls prog 123 #[.agg (aD h),.int .i64 eH,.int .i64 g,v] w (fO w (zq h eH g b) (yH eH g b)):=by
 have IV:=Zd (fun wr (g:w.grownBy wr none)=>aP hv g)
 obtain⟨ad,c,rfl,hc,_⟩:=hv
 have hl:=hk.1
 rw[hl]at hc IV ⊢
 obtain⟨_,⟨l0,l9⟩,g0,g9⟩:=id hk
 have PS:=Zd (fun u=>rX h hh eH u)
 have pl:(mJ h eH).length=40:=by
  obtain⟨L,rfl⟩:∃L:Nat,eH=(L:Int):=⟨eH.toNat,gA⟩
  rw[(qO h L gA gA).1];exact kW _ _
 have pe:AU eH=0:=if_pos ⟨l0,l9⟩
 rw[pe]at PS
 have F:=Zs (∀v' w',gP w.heap.size w' v' (mxA (mJ h eH) g b)→w.grownBy w' none→fO w (zq h eH g b) (yH eH g b) (.returned (.tuple #[v',.int .i64 0])) w') (fun v' w' o q=>⟨v',by rw[(zu (h:=h) hk).2],by rw[(zu (h:=h) hk).1];exact o,q⟩)
 have WI:=Zd (fun u=>iE g 0 32767 u)
 rw[decide_eq_true (show 0≤g∧g≤32767 from⟨g0,g9⟩)]at WI
 have B0:=Zd (bO.new w 27 h)
 have G0:=Zd (ak w (.cells (aD h) 27) none)
 have BL:=Zd hl
 have VL:=Zd pl
 have S80:=Zs ((prog.info? 27).map (·.size)=some h.length) (by rw[hh];exact fP)
 have jg:=fZ 40 gA
 rw[show((40:Nat):Int)=40 from rfl]at jg
 clear hl hk hh pe pl
 generalize fO w (zq h eH g b) (yH eH g b)=T at *
 generalize mJ h eH=V at *
 go_enter func123,ntmps123
 go_upto_region 1 with fail
 generalize w.alloc (.cells (aD h) 27)=W0 at *
 go_wp2_with fail
 refine(WI.out _).mono ?_
 rintro e w1 ⟨rfl,rfl⟩
 clear WI
 go_wp2_with (refine lA B0.out S80.out ?_)
 refine(PS.out _).mono ?_
 rintro e W2 ⟨v2,rfl,o2,g2⟩
 obtain⟨gv,cv',rfl,_,_,_⟩:=o2.form (by rw[VL.out];omega)
 have G2:=Zd (aB G0.out g2)
 have OV:=Zd o2
 clear o2 g2 PS
 rw[VL.out]at OV ⊢
 have M0:=Zs (bO (W2.alloc (.cells (aD (ay 40)) 3)) W2.heap.size 3 (ay 40)∧W2.grownBy (W2.alloc (.cells (aD (ay 40)) 3)) none) (⟨bO.new W2 3 (ay 40),ak _ _ none⟩)
 go_upto_region 9 with fail
 clear jg
 generalize W2.alloc (.cells (aD (ay 40)) 3)=W3 at *
 go_wp2_with fail
 go_loopw [33] (fun i wr=>∃(m:Nat) (rs:List Int),i=.int .i64 (m:Int)∧m≤40∧Hid (jh 40 (mxN V g b) m rs)∧Hid (bO wr W2.heap.size 3 rs∧W2.grownBy wr none)) (fun i _=>40-(intOf i).toNat)
 case atStart=>exact⟨0,ay 40,rfl,Nat.zero_le _,gZ 40 _,M0.out⟩
 case round=>
  obtain⟨m,rs,rfl,hm,hF,hM⟩:=hrel
  clear M0
  by_cases kP:m<40
  ·have i1:(m:Int)<40:=gA
   have cv:=(OV.out.aH hM.out.2).cell VL.out.symm m (by rw[VL.out];exact kP)
   obtain⟨a,rfl,cb⟩:=jW (IV.out _ (aB G2.out hM.out.2)) m (by rw[BL.out];exact kP)
   have cd:=hM.out.1.cell m (by rw[hF.out.1];exact kP)
   have fd:=hM.out.1.free m
   have NF:=Zd (eP hF.out kP)
   have NM:=Zs (bO (wr.drew.setCell ⟨W2.heap.size,m,none⟩ (.int .i64 (mxN V g b m))) W2.heap.size 3 (rs.set m (mxN V g b m))∧W2.grownBy (wr.drew.setCell ⟨W2.heap.size,m,none⟩ (.int .i64 (mxN V g b m))) none) (⟨(hM.out.1.aH (bW (aQ wr none))).set m _,aG (aB hM.out.2 (bW (aQ wr none))) (aF _ ⟨W2.heap.size,m,none⟩ _) (Nat.le_refl _)⟩)
   have EN:=Zs (eU ((eU (aC V m)*g+8192) / 16384+eU (aC b m))=mxN V g b m) (rfl)
   have bx:=kK (aC V m)
   have iP:=kK (aC b m)
   have bg:-1073709056≤eU (aC V m)*g∧eU (aC V m)*g≤1073741824:=qK _ _ bx.1 bx.2 gA g9
   clear hF hM
   generalize mxN V g b m=R at *
   generalize aC V m=x at *
   generalize aC b m=y at *
   generalize aC rs m=q at *
   have W3:=fH ((eU x*g+8192) / 16384+eU y) gA gA
   go_upto_region 12 with fail
   refine b_ 14 (fun w'=>w'=wr.drew) 15 (by rfl) _ rfl (by kernel_rfl) (fun aK=>?_)
   refine eF 0 rfl aK fun aK=>?_
   refine eF 1 rfl aK fun aK=>?_
   refine eF 2 rfl aK fun aK=>?_
   refine eF 4 rfl aK fun aK=>?_
   refine eF 6 rfl aK fun aK=>?_
   refine eF 7 rfl aK fun aK=>?_
   refine eF 8 rfl aK fun aK=>?_
   refine eF (v:=.int .i64 y) 9 rfl aK fun aK=>?_
   refine kT 3 aK fun K hK=>?_
   (try simp only[sZ])
   go_simp
   refine(nL x _).mono ?_
   rintro e w1 ⟨rfl,rfl⟩
   go_wp2_with fail
   refine hK.out _ _ (fun _=>rfl) (fun aK=>?_)
   (try simp only[sZ])
   refine kT 5 aK fun K hK=>?_
   (try simp only[sZ])
   go_simp
   refine(Ja (eU x) g gA gA _).mono ?_
   rintro e w1 ⟨rfl,rfl⟩
   go_wp2_with fail
   refine hK.out _ _ (fun _=>rfl) (fun aK=>?_)
   (try simp only[sZ])
   refine kT 10 aK fun K hK=>?_
   (try simp only[sZ])
   go_simp
   refine(nL y _).mono ?_
   rintro e w1 ⟨rfl,rfl⟩
   go_wp2_with fail
   refine hK.out _ _ (fun _=>rfl) (fun aK=>?_)
   (try simp only[sZ])
   refine jq (hy:=by intro w' bL;subst bL;go_simp;(try simp only[W3])) (v:=.int .i64 ((eU x*g+8192) / 16384+eU y)) 11 rfl aK fun aK=>?_
   refine kT 12 aK fun K hK=>?_
   (try simp only[sZ])
   go_simp
   refine(nL ((eU x*g+8192) / 16384+eU y) _).mono ?_
   rintro e w1 ⟨rfl,rfl⟩
   rw[EN.out]
   go_wp2_with fail
   refine hK.out _ _ (fun _=>rfl) (fun aK=>?_)
   (try simp only[sZ])
   refine eF 13 rfl aK fun aK=>?_
   refine kT 14 aK fun K hK=>?_
   (try simp only[sZ])
   go_simp
   go_wp2_with fail
   refine hK.out _ _ (fun h=>by cases h) (fun aK=>?_)
   (try simp only[sZ])
   refine bI _ _ _ _ (by rfl) ?_
   refine xP ?_
   go_wp2_with fail
   go_roundw
   case rel=>exact⟨m+1,_,by go_num,gA,NF.out,NM.out⟩
   case measure=>first|(simp[intOf];done)|(simp[intOf];omega)
  obtain rfl:m=40:=gA
  have EL:=Zs (rs=mxA V g b) (fB hF.out)
  have hlen:rs.length=40:=hF.out.1
  have OF:=F8 (base:=w.heap.size) hM.out.1 G2.out.size gA
  rw[hlen]at OF
  have FF:=Zd (F.out _ _ (by rw[←EL.out];exact OF) (aB G2.out hM.out.2))
  clear hF hM OF
  rw[show((40:Nat):Int)=40 from rfl]
  go_wp2_with fail
  exact FF.out
theorem Wj (h:List Int)(eH g:Int)(v:Value)(b:List Int)(w:World)(hh:h.length=80)(hv:aS w v b)(ni:b.length≤1000000000000000000) :
 Calls prog 123 #[.agg (aD h),.int .i64 eH,.int .i64 g,v] w (fO w (zq h eH g b) (yH eH g b)):=by
 by_cases hl:b.length=40
 ·by_cases hg:0≤g∧g≤32767
  ·by_cases hr:20≤eH∧eH≤79
   ·exact Wh h eH g v b w hh hv ⟨hl,hr,hg⟩
   exact Wd h eH g v b w hh hv hl hg hr
  exact QT h eH g v b w hv hl hg
 exact QS h eH g v b w hv hl ni
theorem Wl {y:Nat→Option Bool}{o:Oper}{a:Act}{w:World}{K:Act→World→Prop}{Q:Exit→Act→World→Prop}{E:Prop}(hg:o.guard=none)(d s:Operand)
 (hop:o.op=Op.call { callee:=Callee.builtin Builtin.copy,args:=#[d,s],argTypes:=#[32,32] }) (b off dn n dc sc:Nat) (T:TypeId) (p L:List Int) (ad:Addr) (hb:bO w b T p)
 (hd:a.eval d=.slice (some ⟨b,off,none⟩) dn dc) (hs:a.eval s=.slice (some ad) n sc) (hL:L.length=n) (hdn:n≤dn) (hsrc:∀j,j<n→w.cell? (ad.add j)=some (.int .i64 (aC L j))) (hfit:off+n≤p.length)
 (hK:∀w',bO w' b T (Jl p off L)→w.grownBy w' (some b)→K (a.put o.dst (goInt n)) w'):if Region.wanted o y=true then Oper.wp prog o a w K Q else E:=by
 have hw:Region.wanted o y=true:=by simp[Region.wanted,hg]
 rw[if_pos hw]
 have hsz:(prog.info? 3).map (·.size)=some 1:=by kernel_rfl
 have hrun:=run_copy_row (P:=prog) w 32 32 o.type 3 b off dn dc ad n sc (aD p) T (L.map (Value.int .i64)) underlying32 hsz hb (by rw[List.length_map,hL];exact(Nat.min_eq_left hdn).symm)
  (fun j v hv=>by
   have hj:j<L.length:=by
    by_cases hj:j<L.length
    ·exact hj
    rw[List.getElem?_eq_none (by simp;omega)]at hv;cases hv
   rw[hsrc j gA]
   simpa [aC,List.getD,hj] using hv)
  (by simp[aD,hL];omega) (fun v hv=>by
   obtain⟨x,_,rfl⟩:=List.mem_map.1 hv
   rfl)
 have e:((aD p).toList.take off++L.map (Value.int .i64)++(aD p).toList.drop (off+(L.map (Value.int .i64)).length)).toArray=aD (Jl p off L):=by
  simp[aD,Jl,List.map_take,List.map_drop]
 rw[e,List.length_map,hL]at hrun
 unfold Oper.wp
 simp[execOp,hop,resolve,invoke,builtin,hd,hs,hrun,Result.andThen]
 exact hK _ (setRow_heap _ _ _ _ _ _ hb) (Jm _ _ _)
theorem iD.ac9 {w wr:World}{T1 T2:TypeId}{a b b':List Int}(h:iD w wr T1 T2 a b)(hl:b'.length=b.length):bO (bT wr (w.heap.size+1) b') (w.heap.size+1) T2 b'∧w.grownBy (bT wr (w.heap.size+1) b') none:=by
 have:=bB (rs':=b') h.2.1 hl
 exact⟨this.1,aG h.2.2 this.2 gA⟩
theorem iD.set1 {w wr:World}{T1 T2:TypeId}{a b:List Int}(h:iD w wr T1 T2 a b)(k:Nat)(z:Int):iD w (wr.setCell ⟨w.heap.size,k,none⟩ (.int .i64 z)) T1 T2 (a.set k z) b:=
 ⟨h.1.set k z,h.2.1.aJ (aF wr ⟨w.heap.size,k,none⟩ (.int .i64 z)) (by simp),aG h.2.2 (aF wr ⟨w.heap.size,k,none⟩ (.int .i64 z)) (Nat.le_refl _)⟩
theorem Wm (h:List Int)(v:Value)(b:List Int)(w:World)(hh:h.length=80)(hv:aS w v b)(hl:b.length≠40)(ni:b.length≤1000000000000000000) :
 Calls prog 124 #[.agg (aD h),v] w (zy w (Dw h b) (OJ b)):=by
 obtain⟨ad,c,rfl,hc,_⟩:=hv
 have M0:=Zs (iD w _ 27 27 h (ay 80)) (nI w 27 27 h (ay 80))
 have PU:=M0.out.ac9 (b':=ay 80) rfl
 have PB:=Zd PU.1
 have ZL:=Zd (au 80)
 have hz:=gM z80
 have hne:((b.length:Int)==40)=false:=beq_eq_false_iff_ne.2 gA
 have F:=Zs (zy w (Dw h b) (OJ b) (.returned (.tuple #[.agg (aD (ay 80)),.int .i64 1])) _) (⟨by rw[(LW (h:=h) hl).1,(LW (h:=h) hl).2],PU.2⟩)
 clear PU hl hh
 generalize zy w (Dw h b) (OJ b)=T at *
 generalize ay 80=Z at *
 go_enter func124,ntmps124
 go_upto_region 1 with fail
 generalize (w.alloc (.cells (aD h) 27)).alloc (.cells (aD Z) 27)=W0 at *
 go_wp2_with (first|refine sA Z M0.out.2.1 rfl (by rw[ZL.out];exact fP) ?_)
 have eO:=lS PB.out (by rw[ZL.out];exact fP)
 refine bodyPost_ret (v:=.tuple #[.agg (aD Z),.int .i64 1]) ?_ rfl F.out
 simp[results,results124,asAddr,Act.put,eO]
theorem Nb (h b:List Int)(hh:h.length=80):jh 80 (ZX h b) (40+0) (Jl h 0 (bP h 40 40)):=by
 refine⟨by rw[ac7 _ _ _ (by rw[aR];omega)];exact hh,fun j hj=>?_⟩
 rw[ac8 _ _ _ (by rw[aR];omega),if_neg gA,aR,if_pos gA,fV _ _ _ _ gA]
 unfold ZX
 rw[if_pos gA,show 40+(j-0)=j+40 by omega]
theorem QV (h:List Int)(v:Value)(b:List Int)(w:World)(hh:h.length=80)(hv:aS w v b)(hl:b.length=40) :
 Calls prog 124 #[.agg (aD h),v] w (zy w (Dw h b) (OJ b)):=by
 have IV:=Zd (fun wr (g:w.grownBy wr none)=>aP hv g)
 obtain⟨ad,c,rfl,hc,_⟩:=hv
 rw[hl]at IV hc ⊢
 have M0:=Zs (iD w _ 27 27 h (ay 80)) (nI w 27 27 h (ay 80))
 have ZL:=Zd (au 80)
 have HH:=Zd hh
 have HL:=Zd hl
 have F_:=Zd (Nb h b hh)
 have hz:=gM z80
 have F:=Zs (∀w',w.grownBy w' none→zy w (Dw h b) (OJ b) (.returned (.tuple #[.agg (aD (Eu h b)),.int .i64 0])) w') (fun w' g=>⟨by rw[(qj (h:=h) hl).1,(qj (h:=h) hl).2],g⟩)
 clear hl hh
 generalize zy w (Dw h b) (OJ b)=T at *
 generalize ay 80=Z at *
 go_enter func124,ntmps124
 go_upto_region 3 with fail
 generalize (w.alloc (.cells (aD h) 27)).alloc (.cells (aD Z) 27)=W0 at *
 clear hz
 refine wp_region_held_drew (S:=dM w) (by kernel_rfl) (bW M0.out.2.2) (fun aj=>?_)
 refine bV (v:=.slice (some ⟨w.heap.size,0,none⟩) 80 80) 0 aj ?_
 refine bV (v:=.slice (some ⟨w.heap.size,40,none⟩) 40 40) 1 aj ?_
 refine fI 2 fun K hK=>?_
 (try simp only[sZ])
 refine Wl rfl _ _ rfl w.heap.size 0 80 40 80 40 27 h (bP h 40 40) ⟨w.heap.size,40,none⟩ (M0.out.1.aH (aZ W0)) rfl rfl (aR _ _ _) gA (fun j hj=>by rw[Addr.add_mid,fV _ _ _ _ hj];exact(M0.out.1.aH (aZ W0)).cell (40+j) (by rw[HH.out];omega)) (by rw[HH.out];omega) ?_
 intro w1 b1 g1
 have B1:=Zd b1
 have BB:=Zd ((M0.out.2.1.aH (aZ W0)).aJ g1 gA)
 have GM:=Zd (aG aj g1 (Nat.le_refl _))
 clear b1 g1 M0 aj
 refine hK.out _ _ GM.out (fun aj=>?_)
 (try simp only[sZ])
 refine bV 3 aj ?_
 refine lM ?_
 have M1:=Zs (iD w w1 27 27 (Jl h 0 (bP h 40 40)) Z) (⟨B1.out,BB.out,GM.out⟩)
 clear GM aj
 generalize Jl h 0 (bP h 40 40)=H0 at *
 rw[show goInt ((40:Nat):Int)=.int .i64 40 from rfl]
 go_wp2_with fail
 go_loopw [18] (fun i wr=>∃(m:Nat) (rs:List Int),i=.int .i64 (m:Int)∧m≤40∧Hid (jh 80 (ZX h b) (40+m) rs)∧Hid (iD w wr 27 27 rs Z)) (fun i _=>40-(intOf i).toNat)
 case atStart=>exact⟨0,H0,rfl,Nat.zero_le _,F_.out,M1.out⟩
 case round=>
  obtain⟨m,rs,rfl,hm,hF,hM⟩:=hrel
  clear M1 F_
  by_cases kP:m<40
  ·have i1:(m:Int)<40:=gA
   have rl:=hF.out.1
   obtain⟨a,rfl,cx⟩:=jW (IV.out wr hM.out.2.2) m (by rw[HL.out];omega)
   have cd:=hM.out.1.cell (40+m) gA
   have fd:=hM.out.1.free (40+m)
   have NF:=Zd (eP hF.out (show 40+m<80 by omega))
   have EK:ZX h b (40+m)=eU (aC b m):=by unfold ZX;rw[if_neg gA,show 40+m-40=m by omega]
   rw[EK]at NF
   have NM:=Zd (hM.out.set1 (40+m) (eU (aC b m)))
   have RS:=Zd (nL (aC b m) wr)
   clear hF hM EK rl
   generalize hk:40+m=k at *
   have i3:(40:Int)+(m:Int)=(k:Int):=gA
   have i4:(k:Int)<80:=gA
   have HK:=Zd hk
   clear hk
   generalize aC b m=x at *
   generalize eU x=z at *
   generalize aC rs k=y at *
   go_wp2_with fail
   refine RS.out.mono ?_
   rintro e w1 ⟨rfl,rfl⟩
   clear RS
   go_wp2_with fail
   go_roundw
   case rel=>exact⟨m+1,_,by go_num,gA,by rw[show 40+(m+1)=k+1 by have:=HK.out;omega];exact NF.out,NM.out⟩
   case measure=>first|(simp[intOf];done)|(simp[intOf];omega)
  obtain rfl:m=40:=gA
  rw[show((40:Nat):Int)=40 from rfl]
  have ers:rs=Eu h b:=fB hF.out
  subst ers
  have PU:=hM.out.ac9 (b':=Eu h b) (by rw[qg,ZL.out])
  have PB:=Zd PU.1
  have FF:=Zd (F.out _ PU.2)
  have KL:=Zd (qg h b)
  have HM:=Zd hM.out
  clear hF hM PU
  generalize Eu h b=R at *
  go_wp2_with (first|refine lA HM.out.1 (by rw[KL.out];exact fP) ?_|refine sA R HM.out.2.1 (by rw[KL.out,ZL.out]) (by rw[ZL.out];exact fP) ?_)
  have eO:=lS PB.out (by rw[KL.out];exact fP)
  refine bodyPost_ret (v:=.tuple #[.agg (aD R),.int .i64 0]) ?_ rfl FF.out
  simp[results,results124,asAddr,Act.put,eO]
theorem Cv (h:List Int)(v:Value)(b:List Int)(w:World)(hh:h.length=80)(hv:aS w v b)(ni:b.length≤1000000000000000000) :
 Calls prog 124 #[.agg (aD h),v] w (zy w (Dw h b) (OJ b)):=by
 by_cases hl:b.length=40
 ·exact QV h v b w hh hv hl
 exact Wm h v b w hh hv hl ni
theorem Ar.aiJ {w:World}{l:List Int}{s:Bool}{wr wr':World}{r:Nat}(h:Ar w l s wr)(g:wr.grownBy wr' (some r))(hr:w.heap.size+1<r):Ar w l s wr':=⟨h.1.aJ g gA,h.2.1.aJ g gA,aG h.2.2 g gA⟩
theorem Ar.ac_ {w:World}{l:List Int}{s:Bool}{wr:World}(h:Ar w l s wr)(m:List Int)(t:Bool)(hl:l.length=101)(hm:m.length=101):Ar w m t (dQ wr w.heap.size 0 (aU m t))∧wr.grownBy (dQ wr w.heap.size 0 (aU m t)) (some w.heap.size):=by
 have:=h.1.fu (m:=m) (t:=t) hl hm
 exact⟨⟨this.1,h.2.1.aJ this.2 gA,aG h.2.2 this.2 (Nat.le_refl _)⟩,this.2⟩
def NsS (w:World)(l:List Int)(s:Bool)(rs:List Int)(wr:World):Prop:=Ar w l s wr∧bO wr (w.heap.size+2) 3 rs
theorem NsS.new (w:World)(l:List Int)(s:Bool):NsS w l s (ay 40) (((w.alloc (.cells (aU l s).toArray 29)).alloc (.cells (aU (ay 101) false).toArray 29)).alloc (.cells (aD (ay 40)) 3)):=by
 refine⟨(Ar.new w l s).aH (ak _ _ none),?_⟩
 have:=bO.new ((w.alloc (.cells (aU l s).toArray 29)).alloc (.cells (aU (ay 101) false).toArray 29)) 3 (ay 40)
 simpa using this
theorem NsS.ak6 {w:World}{l:List Int}{s:Bool}{rs:List Int}{wr:World}(h:NsS w l s rs wr)(k:Nat)(z:Int)(hk:k<l.length):NsS w (l.set k z) s rs (wr.setCell ⟨w.heap.size,k,none⟩ (.int .i64 z)):=⟨h.1.set k z hk,h.2.aJ (aF wr ⟨w.heap.size,k,none⟩ (.int .i64 z)) (by simp)⟩
theorem NsS.ak7 {w:World}{l:List Int}{s:Bool}{rs:List Int}{wr:World}(h:NsS w l s rs wr)(k:Nat)(z:Int):NsS w l s (rs.set k z) (wr.setCell ⟨w.heap.size+2,k,none⟩ (.int .i64 z)):=⟨h.1.aiJ (aF wr ⟨w.heap.size+2,k,none⟩ (.int .i64 z)) (by simp),h.2.set k z⟩
def NsE (w:World)(m:List Int)(s:Bool)(L:List Int)(e:Ending)(w':World):Prop:=∃v',e=.returned (.tuple #[dI m s,v'])∧gP w.heap.size w' v' L∧w.grownBy w' none
theorem Ng (l:List Int)(s:Bool)(x:Int)(hl:l.length=101)(w:World):Calls prog 190 #[dI l s,.int .i64 x] w (NsE w (l.set 100 (uF (aC l 100) 40)) s (yI (aC l 100) x 40)):=by
 have M0:=Zd (NsS.new w l s)
 have NZ:=Zd (fun sd wr=>Nc sd x wr)
 have F:=Zs (∀v' w',gP w.heap.size w' v' (yI (aC l 100) x 40)→w.grownBy w' none→NsE w (l.set 100 (uF (aC l 100) 40)) s (yI (aC l 100) x 40) (.returned (.tuple #[dI (l.set 100 (uF (aC l 100) 40)) s,v'])) w') (fun v' w' o q=>⟨v',rfl,o,q⟩)
 have HL:=Zd hl
 have ZL:=Zd (aX (au 101) false)
 have hz:=gV
 have jg:=fZ 40 gA
 rw[show((40:Nat):Int)=40 from rfl]at jg
 have S0:=Zs (l.set 100 (uF (aC l 100) 0)=l) (set_self l 100 gA)
 clear hl
 generalize NsE w (l.set 100 (uF (aC l 100) 40)) s (yI (aC l 100) x 40)=T at *
 generalize aC l 100=sd at *
 unfold dI at hz F ⊢
 go_enter func190,ntmps190
 go_upto_region 2 with fail
 generalize ((w.alloc (.cells (aU l s).toArray 29)).alloc (.cells (aU (ay 101) false).toArray 29)).alloc (.cells (aD (ay 40)) 3)=W0 at *
 clear hz jg
 go_wp2_with fail
 go_loopw [11] (fun i wr=>∃(m:Nat) (rs:List Int),i=.int .i64 (m:Int)∧m≤40∧Hid (jh 40 (nzN sd x) m rs)∧Hid (NsS w (l.set 100 (uF sd m)) s rs wr)) (fun i _=>40-(intOf i).toNat)
 case atStart=>exact⟨0,ay 40,rfl,Nat.zero_le _,gZ 40 _,by rw[S0.out];exact M0.out⟩
 case round=>
  obtain⟨m,rs,rfl,hm,hF,hM⟩:=hrel
  clear M0 S0
  by_cases kP:m<40
  ·have i1:(m:Int)<40:=gA
   have aaf:=hM.out.1.1.cell 100 (by rw[List.length_set,HL.out];omega)
   rw[qm _ _ _ (by rw[HL.out];omega),if_pos rfl]at aaf
   have f100:=hM.out.1.1.free 100
   have cd:=hM.out.2.cell m (by rw[hF.out.1];exact kP)
   have fd:=hM.out.2.free m
   have NF:=Zd (eP hF.out kP)
   have N1:=Zd (hM.out.ak6 100 (uF sd (m+1)) (by rw[List.length_set,HL.out];omega))
   rw[List.set_set]at N1
   have NM:=Zd (N1.out.ak7 m (nzN sd x m))
   have cd1:=N1.out.2.cell m (by rw[hF.out.1];exact kP)
   have fd1:=N1.out.2.free m
   have E1:vS (uF sd m)=uF sd (m+1):=rfl
   have E2:Us (uF sd m) x=nzN sd x m:=rfl
   have NN:=Zd (NZ.out (uF sd m))
   rw[E1,E2]at NN
   clear hF hM E1 E2
   generalize hs1:uF sd (m+1)=s1 at *
   have A_:=Zd hs1
   clear hs1
   generalize uF sd m=s0 at *
   generalize nzN sd x m=z at *
   generalize aC rs m=q at *
   go_wp2_with fail
   refine(NN.out _).mono ?_
   rintro e w1 ⟨rfl,rfl⟩
   clear NN
   go_wp2_with fail
   go_roundw
   case rel=>exact⟨m+1,_,by go_num,gA,NF.out,by rw[A_.out];exact NM.out⟩
   case measure=>first|(simp[intOf];done)|(simp[intOf];omega)
  obtain rfl:m=40:=gA
  rw[show((40:Nat):Int)=40 from rfl]
  have EL:=Zs (rs=yI sd x 40) (fB hF.out)
  have hlen:rs.length=40:=hF.out.1
  have L5:=Zs ((l.set 100 (uF sd 40)).length=101) (by rw[List.length_set];exact HL.out)
  have M5:=Zd hM.out.1
  have OF:=F8 (base:=w.heap.size+2) hM.out.2 (Nat.le_refl _) gA
  rw[hlen]at OF
  generalize l.set 100 (uF sd 40)=m at *
  have A5:=Zd (dA.all s L5.out)
  have C5:=Zd (aX L5.out s)
  have ON:=Zd (dY m s)
  have PB:=Zd (M5.out.fin m s L5.out)
  have O6:=Zd (OF.dK (M5.out.2.1.fu (m:=m) (t:=s) (au 101) L5.out).2 gA)
  have FF:=Zd (F.out _ _ (by rw[←EL.out];exact O6.out.base gA) PB.out.2)
  clear OF hF hM hlen
  go_wp2_with (first|refine lV 0 M5.out.1 aY (by rw[C5.out];omega) A5.out ?_|refine sV 0 (aU m s) M5.out.2.1 (by rw[ZL.out,C5.out];omega) (by rw[C5.out];exact aY) ON.out ?_)
  have eO:=wV PB.out.1 (by rw[C5.out];exact aY)
  refine bodyPost_ret (v:=.tuple #[.agg (aU m s).toArray,_]) ?_ rfl FF.out
  simp[results,results190,asAddr,Act.put,eO]
theorem Nh (l:List Int)(s:Bool)(hl:l.length=101)(hg:cO l=false)(w:World):Calls prog 120 #[dI l s] w (xR w (yX l) (Uu l s) (yY l) (Uv l)):=by
 have M0:=Zd (Ar.new w l s)
 have GD:=Zd (fun wr=>mZ l s hl wr)
 rw[hg]at GD
 have F:=Zs (∀w',w.grownBy w' none→xR w (yX l) (Uu l s) (yY l) (Uv l) (.returned (.tuple #[dI (ay 101) false,.slice none 0 0,.int .i64 2])) w') (fun w' q=>⟨_,by rw[(Ce (s:=s) hg).1,(Ce (s:=s) hg).2.1,(Ce (s:=s) hg).2.2.2],by rw[(Ce (s:=s) hg).2.2.1];exact bZ _ _,q⟩)
 have CL:=Zd (aX hl s)
 have AL:=Zd (dA.all s hl)
 have ZL:=Zd (aX (au 101) false)
 have ZO:=Zd (dY (ay 101) false)
 have hz:=gV
 have ZB:=Zd (fun wr (h:Ar w l s wr)=>h.fin (ay 101) false (au 101))
 clear hg
 generalize xR w (yX l) (Uu l s) (yY l) (Uv l)=T at *
 unfold dI at hz F GD ⊢
 go_enter func120,ntmps120
 go_upto_region 1 with fail
 generalize (w.alloc (.cells (aU l s).toArray 29)).alloc (.cells (aU (ay 101) false).toArray 29)=W0 at *
 go_wp2_with (refine lV 0 M0.out.1 aY (by rw[CL.out];omega) AL.out ?_)
 refine(GD.out W0).mono ?_
 rintro e W1 ⟨rfl,g1⟩
 have M1:=Zd (M0.out.aH g1)
 have PB:=Zd (ZB.out W1 M1.out)
 have FF:=Zd (F.out _ PB.out.2)
 clear g1 GD
 go_wp2_with (first|refine sV 0 (aU (ay 101) false) M1.out.2.1 (by rw[ZL.out];omega) (by rw[ZL.out];exact aY) ZO.out ?_)
 have eO:=wV PB.out.1 (by rw[ZL.out];exact aY)
 refine bodyPost_ret (v:=.tuple #[.agg (aU (ay 101) false).toArray,.slice none 0 0,.int .i64 2]) ?_ rfl FF.out
 simp[results,results120,asAddr,Act.put,eO]
theorem Jo (l:List Int)(s:Bool)(hl:l.length=101)(hg:cO l=true)(w:World):Calls prog 120 #[dI l s] w (xR w (yX l) (Uu l s) (yY l) (Uv l)):=by
 have M0:=Zd (Ar.new w l s)
 have GD:=Zd (fun wr=>mZ l s hl wr)
 rw[hg]at GD
 have NZ:=Zd (fun wr=>Ng l s 8 hl wr)
 have KP:=Zd (fun v wr (hv:aS wr v (yI (aC l 100) 8 40))=>Cv (bP l 16 80) v (yI (aC l 100) 8 40) wr (aR _ _ _) hv (by rw[oG];omega))
 rw[(qj (h:=bP l 16 80) (oG (aC l 100) 8 40)).1,(qj (h:=bP l 16 80) (oG (aC l 100) 8 40)).2]at KP
 have KL:=Zd (qg (bP l 16 80) (yI (aC l 100) 8 40))
 have F:=Zd (show ∀v' w',gP w.heap.size w' v' (yI (aC l 100) 8 40)→w.grownBy w' none→xR w (yX l) (Uu l s) (yY l) (Uv l) (.returned (.tuple #[dI (jr (l.set 100 (uF (aC l 100) 40)) 16 (Eu (bP l 16 80) (yI (aC l 100) 8 40))) s,v',.int .i64 0])) w' from fun v' w' o q=>
  ⟨v',by rw[(mK (s:=s) hg).1,(mK (s:=s) hg).2.1,(mK (s:=s) hg).2.2.2];unfold memT siX;rw[set_self l 99 gA],by rw[(mK (s:=s) hg).2.2.1];exact o,q⟩)
 have PS:=Zd (fun z=>oH l 100 z 16 80 gA (.inr gA))
 have HL:=Zd hl
 have CL:=Zd (aX hl s)
 have AL:=Zd (dA.all s hl)
 have ZL:=Zd (aX (au 101) false)
 have hz:=gV
 clear hg hl
 generalize xR w (yX l) (Uu l s) (yY l) (Uv l)=T at *
 unfold NsE at NZ
 unfold dI at hz F GD NZ ⊢
 generalize yI (aC l 100) 8 40=N at *
 generalize uF (aC l 100) 40=sd at *
 go_enter func120,ntmps120
 go_upto_region 1 with fail
 generalize (w.alloc (.cells (aU l s).toArray 29)).alloc (.cells (aU (ay 101) false).toArray 29)=W0 at *
 clear hz
 go_wp2_with (refine lV 0 M0.out.1 aY (by rw[CL.out];omega) AL.out ?_)
 refine(GD.out W0).mono ?_
 rintro e W1 ⟨rfl,g1⟩
 have M1:=Zd (M0.out.aH g1)
 have B1:=Zs (w.heap.size≤W1.heap.size) (M1.out.2.2.size)
 have BL:=Zs (w.heap.size+1<W1.heap.size) (M1.out.2.1.lt)
 clear g1 GD
 have L1:=Zs ((l.set 100 sd).length=101) (by rw[List.length_set];exact HL.out)
 have C3:=Zd (aX L1.out s)
 have ON1:=Zd (dY (l.set 100 sd) s)
 go_upto_region 3 with fail
 go_wp2_with (first|refine lV 0 M1.out.1 aY (by rw[CL.out];omega) AL.out ?_)
 refine(NZ.out W1).mono ?_
 rintro e W2 ⟨v2,rfl,o2,g2⟩
 have M2:=Zd (M1.out.aH g2)
 have M3':=M2.out.ac_ (l.set 100 sd) s HL.out L1.out
 have M3:=Zd M3'.1
 have O3:=Zd (o2.dK M3'.2 (by have:=BL.out;omega))
 clear o2 g2 NZ M3'
 go_upto_region 4 with(first|refine sV 0 (aU (l.set 100 sd) s) M2.out.1 (by rw[CL.out,C3.out];omega) (by rw[C3.out];exact aY) ON1.out ?_)
 (try simp only[Act.put])
 generalize dQ W2 w.heap.size 0 (aU (l.set 100 sd) s)=W3 at *
 have P3:=Zd (dA.part (l:=l.set 100 sd) s 16 80 (by rw[L1.out];omega))
 rw[PS.out]at P3
 have KK:=Zd (KP.out v2 W3 O3.out.ints)
 go_wp2_with (first|refine lV 16 M3.out.1 fP (by rw[C3.out];omega) P3.out ?_)
 refine KK.out.mono ?_
 rintro e W4 ⟨rfl,g4⟩
 have M4:=Zd (M3.out.aH g4)
 have O4:=Zd (O3.out.aH g4)
 clear KK g4
 generalize Eu (bP l 16 80) N=R at *
 have M5:=Zd (M4.out.put 16 R (by rw[KL.out,L1.out];omega))
 have O5:=Zd (O4.out.dK (M4.out.1.put 16 R (by rw[KL.out,L1.out];omega)).2 (by have:=BL.out;omega))
 have ID:=Zd (d9 R)
 have IL:=Zs ((aO R).length=80) (by rw[aM];exact KL.out)
 go_upto_region 5 with(first|refine sV 16 (aO R) M4.out.1 (by rw[IL.out,C3.out];omega) (by rw[IL.out];exact fP) ID.out ?_)
 (try simp only[Act.put])
 generalize dQ W4 w.heap.size 16 (aO R)=W5 at *
 have L5:=Zs ((jr (l.set 100 sd) 16 R).length=101) (by rw[eG];exact L1.out)
 generalize jr (l.set 100 sd) 16 R=m at *
 have A5:=Zd (dA.all s L5.out)
 have C5:=Zd (aX L5.out s)
 have ON:=Zd (dY m s)
 have PB:=Zd (M5.out.fin m s L5.out)
 have O6:=Zd (O5.out.dK (M5.out.2.1.fu (m:=m) (t:=s) (au 101) L5.out).2 BL.out)
 have FF:=Zd (F.out _ _ (O6.out.base B1.out) PB.out.2)
 go_wp2_with (first|refine lV 0 M5.out.1 aY (by rw[C5.out];omega) A5.out ?_|refine sV 0 (aU m s) M5.out.2.1 (by rw[ZL.out,C5.out];omega) (by rw[C5.out];exact aY) ON.out ?_)
 have eO:=wV PB.out.1 (by rw[C5.out];exact aY)
 refine bodyPost_ret (v:=.tuple #[.agg (aU m s).toArray,_,.int .i64 0]) ?_ rfl FF.out
 simp[results,results120,asAddr,Act.put,eO]
theorem Jp (l:List Int)(s:Bool)(hl:l.length=101)(w:World):Calls prog 120 #[dI l s] w (xR w (yX l) (Uu l s) (yY l) (Uv l)):=by
 rcases hg:cO l with _|_
 ·exact Nh l s hl hg w
 exact Jo l s hl hg w
theorem lq {w w':World}(h:r_ w)(g:w.grownBy w' none):r_ w':=fun i hi=>bA g (h i hi)
theorem rz:(prog.info? 46).map (·.size)=some 8:=by kernel_rfl
theorem Wq:(prog.info? 44).map (·.size)=some 4:=by kernel_rfl
def Gc (w:World)(A u l:List Int)(s:Bool)(wr:World):Prop:=dA wr w.heap.size l s∧dP wr (w.heap.size+1) 58 (aO A)∧dP wr (w.heap.size+1+1) 46 (aO u)∧dA wr (w.heap.size+1+1+1) (ay 101) false∧w.grownBy wr none
theorem Gc.new (w:World)(A u l:List Int)(s:Bool):Gc w A u l s ((((w.alloc (.cells (aU l s).toArray 29)).alloc (.cells (aD A) 58)).alloc (.cells (aD u) 46)).alloc (.cells (aU (ay 101) false).toArray 29)):=by
 have g1:=ak (w.alloc (.cells (aU l s).toArray 29)) (.cells (aD A) 58) none
 have g2:=ak ((w.alloc (.cells (aU l s).toArray 29)).alloc (.cells (aD A) 58)) (.cells (aD u) 46) none
 have g3:=ak (((w.alloc (.cells (aU l s).toArray 29)).alloc (.cells (aD A) 58)).alloc (.cells (aD u) 46)) (.cells (aU (ay 101) false).toArray 29) none
 refine⟨(((dA.new w l s).aH g1).aH g2).aH g3,?_,?_,?_,aB (aB (aB (ak _ _ none) g1) g2) g3⟩
 ·have:=((dP.new (w.alloc (.cells (aU l s).toArray 29)) 58 (aO A)).aH g2).aH g3
  simpa using this
 ·have:=(dP.new ((w.alloc (.cells (aU l s).toArray 29)).alloc (.cells (aD A) 58)) 46 (aO u)).aH g3
  simpa using this
 have:=dA.new (((w.alloc (.cells (aU l s).toArray 29)).alloc (.cells (aD A) 58)).alloc (.cells (aD u) 46)) (ay 101) false
 simpa using this
theorem Gc.aH {w:World}{A u l:List Int}{s:Bool}{wr wr':World}(h:Gc w A u l s wr)(g:wr.grownBy wr' none):Gc w A u l s wr':=⟨h.1.aH g,h.2.1.aH g,h.2.2.1.aH g,h.2.2.2.1.aH g,aB h.2.2.2.2 g⟩
theorem Gc.mem {w:World}{A u l m:List Int}{s t:Bool}{wr wr':World}(h:Gc w A u l s wr)(hb:dA wr' w.heap.size m t)(g:wr.grownBy wr' (some w.heap.size)):Gc w A u m t wr':=⟨hb,h.2.1.aJ g gA,h.2.2.1.aJ g gA,h.2.2.2.1.aJ g gA,aG h.2.2.2.2 g (Nat.le_refl _)⟩
theorem Gc.put {w:World}{A u l:List Int}{s:Bool}{wr:World}(h:Gc w A u l s wr)(o:Nat)(M:List Int)(hl:o+M.length≤l.length):Gc w A u (jr l o M) s (dQ wr w.heap.size o (aO M))∧wr.grownBy (dQ wr w.heap.size o (aO M)) (some w.heap.size):=by
 have:=h.1.put o M hl
 exact⟨h.mem this.1 this.2,this.2⟩
theorem Gc.set {w:World}{A u l:List Int}{s:Bool}{wr:World}(h:Gc w A u l s wr)(k:Nat)(z:Int)(hk:k<l.length):Gc w A u (l.set k z) s (wr.setCell ⟨w.heap.size,k,none⟩ (.int .i64 z)):=h.mem (h.1.set k z hk) (aF wr ⟨w.heap.size,k,none⟩ _)
theorem Gc.fin {w:World}{A u l:List Int}{s:Bool}{wr:World}(h:Gc w A u l s wr)(m:List Int)(t:Bool)(hm:m.length=101):dA (dQ wr (w.heap.size+1+1+1) 0 (aU m t)) (w.heap.size+1+1+1) m t∧w.grownBy (dQ wr (w.heap.size+1+1+1) 0 (aU m t)) none∧wr.grownBy (dQ wr (w.heap.size+1+1+1) 0 (aU m t)) (some (w.heap.size+1+1+1)):=by
 have:=h.2.2.2.1.fu (m:=m) (t:=t) (au 101) hm
 exact⟨this.1,aG h.2.2.2.2 this.2 gA,this.2⟩
theorem Gc.sub {w:World}{A u l:List Int}{s:Bool}{wr:World}(h:Gc w A u l s wr)(i:Nat)(hi:i<u.length):wr.cell? ⟨w.heap.size+1+1,i,none⟩=some (.int .i64 (aC u i)):=(h.2.2.1.cell i).trans (qB u i hi)
theorem Gd (w:World)(m:List Int)(s:Bool)(hm:m.length=101):dA (w.alloc (.cells (aU (ay 101) false).toArray 29)) w.heap.size (ay 101) false∧dA (dQ (w.alloc (.cells (aU (ay 101) false).toArray 29)) w.heap.size 0 (aU m s)) w.heap.size m s∧w.grownBy (dQ (w.alloc (.cells (aU (ay 101) false).toArray 29)) w.heap.size 0 (aU m s)) none:=by
 have a:=dA.new w (ay 101) false
 have b:=a.fu (m:=m) (t:=s) (au 101) hm
 exact⟨a,b.1,aG (ak _ _ none) b.2 (Nat.le_refl _)⟩
theorem Q8 (A l u:List Int)(s:Bool)(k:Int)(hA:A.length=9)(hl:l.length=101)(hg:cO l=true)(hk:k=2)(w:World) :
 Calls prog 41 #[dI l s,.agg (aD A),.int .i64 k,.agg (aD u)] w (Kg w (hfM A true l u) s (VQ A true l u)):=by
 have H0:=Zd (Gc.new w A u l s)
 have SI:=Zd (fun wr=>Jp l s hl wr)
 rw[(mK (s:=s) hg).2.1,(mK (s:=s) hg).2.2.2]at SI
 have SL:=Zs ((yX l).length=101) (by have:=xk true hl u;rwa [YV]at this)
 have XL:=Zs ((yY l).length=40) (by rw[(mK (s:=true) hg).2.2.1,Yp])
 have SP:=Zd (fun v wr (h:aS wr v (yY l)) (sh:rR v (yY l))=>sI A (yX l) (yY l) s hA SL.out v wr h sh (by rw[XL.out];omega))
 have F:=Zs (∀v' w',gP w.heap.size w' v' (uM A (yX l) (yY l))→w.grownBy w' none→Kg w (hfM A true l u) s (VQ A true l u) (.returned (.tuple #[dI (qo A (yX l) (yY l)) s,v'])) w') (fun v' w' o q=>⟨v',by unfold hfM;rw[YV,acR],by unfold VQ;rw[YV,acR];exact o,q⟩)
 have ML:=Zs ((qo A (yX l) (yY l)).length=101) (by rw[vU];exact SL.out)
 have HA:=Zd hA
 have CL:=Zd (aX hl s)
 have AL:=Zd (dA.all s hl)
 have A8:=Zs (((aO A).drop 0).take 9=aO A) (by rw[List.drop_zero,List.take_of_length_le (by rw[aM,hA];omega)])
 have ZL:=Zd (aX (au 101) false)
 have hz:=gV
 have hk2:(k==2)=true:=beq_iff_eq.2 hk
 clear hA hl hg hk
 generalize Kg w (hfM A true l u) s (VQ A true l u)=T at *
 generalize qo A (yX l) (yY l)=m2 at *
 generalize uM A (yX l) (yY l)=L2 at *
 generalize yX l=m1 at *
 generalize yY l=X at *
 unfold Kg at SP
 unfold xR at SI
 unfold dI at F hz SI SP ⊢
 go_enter func41,ntmps41
 go_upto_region 1 with fail
 generalize (((w.alloc (.cells (aU l s).toArray 29)).alloc (.cells (aD A) 58)).alloc (.cells (aD u) 46)).alloc (.cells (aU (ay 101) false).toArray 29)=W0 at *
 have N0:=Zs (w.heap.size+1+1+1+1≤W0.heap.size) (H0.out.2.2.2.1.lt)
 go_wp2_with (first|refine lV 0 H0.out.1 aY (by rw[CL.out];omega) AL.out ?_)
 refine(SI.out W0).mono ?_
 rintro e W1 ⟨v1,rfl,o1,g1⟩
 have FB:=Zd (Gd W1 m1 s SL.out)
 have H2:=Zd ((H0.out.aH g1).aH FB.out.2.2)
 have O2:=Zd ((o1.base N0.out).aH FB.out.2.2)
 have N1:=Zd (Nat.le_trans N0.out g1.size)
 have C1:=Zd (aX SL.out s)
 have ON:=Zd (dY m1 s)
 clear SI g1 o1
 go_upto_region 3 with(first|refine sV 0 (aU m1 s) FB.out.1 (by rw[ZL.out,C1.out];omega) (by rw[C1.out];exact aY) ON.out ?_)
 (try simp only[Act.put])
 have V2:=Zd FB.out.2.1
 clear hz
 generalize dQ (W1.alloc (.cells (aU (ay 101) false).toArray 29)) W1.heap.size 0 (aU m1 s)=W2 at *
 generalize W1.heap.size=bm at *
 have A1:=Zd (dA.all s SL.out)
 have SP2:=Zd (SP.out v1 W2 O2.out.ints O2.out.Iy)
 go_wp2_with (first|refine lV 0 V2.out aY (by rw[C1.out];omega) A1.out ?_|refine lV 0 H2.out.2.1 dz (by rw[aM,HA.out];omega) A8.out ?_)
 refine SP2.out.mono ?_
 rintro e W3 ⟨v3,rfl,o3,g3⟩
 have H3:=Zd (H2.out.aH g3)
 have PB:=Zd (H3.out.fin m2 s ML.out)
 have O3:=Zd ((o3.base (b':=w.heap.size+1+1+1+1) (show w.heap.size+1+1+1+1≤W2.heap.size from H2.out.2.2.2.1.lt)).dK PB.out.2.2 gA)
 have FF:=Zd (F.out _ _ (O3.out.base (b':=w.heap.size) gA) PB.out.2.1)
 have C3:=Zd (aX ML.out s)
 have ON:=Zd (dY m2 s)
 clear o3 g3 SP2
 go_wp2_with (first|refine sV 0 (aU m2 s) H3.out.2.2.2.1 (by rw[ZL.out,C3.out];omega) (by rw[C3.out];exact aY) ON.out ?_)
 have eO:=wV PB.out.1 (by rw[C3.out];exact aY)
 refine bodyPost_ret (v:=.tuple #[.agg (aU m2 s).toArray,_]) ?_ rfl FF.out
 simp[results,results41,asAddr,Act.put,eO]
theorem Jr (A l u:List Int)(s:Bool)(k:Int)(hA:A.length=9)(hl:l.length=101)(hu:sJ u)(hk:¬k=2)(w:World)(ht:TabA w 2 gains 8)(hG:r_ w) :
 Calls prog 41 #[dI l s,.agg (aD A),.int .i64 k,.agg (aD u)] w (Kg w (hfM A false l u) s (VQ A false l u)):=by
 have H0:=Zd (Gc.new w A u l s)
 have GA:=Zd (fun wr (g:w.grownBy wr none)=>Cr (aC u 1) wr (gF ht g))
 rw[show Aq (aC u 1)=IG u from rfl]at GA
 have GL:=Zd (fun wr (g:w.grownBy wr none)=>zU (aC u 7) wr (lq hG g))
 rw[show glV (aC u 7)=Iz u from rfl]at GL
 have BU:=Zd (fun wr=>zT (bP u 2 4) (aR _ _ _) (aC u 6) (Iz u) wr)
 rw[show Vd (bP u 2 4) (aC u 6) (Iz u)=Mq u from rfl]at BU
 have MX:=Zd (fun v wr (h:aS wr v (Mq u))=>Wj (bP l 16 80) (20+aC u 0) (IG u) v (Mq u) wr (aR _ _ _) h (by rw[Dy hu];omega))
 rw[show zq (bP l 16 80) (20+aC u 0) (IG u) (Mq u)=qG l u from rfl]at MX
 have XL:=Zd (zI hu l)
 have KP:=Zd (fun v wr (h:aS wr v (qG l u))=>Cv (bP l 16 80) v (qG l u) wr (aR _ _ _) h (by rw[XL.out];omega))
 have KL:=Zd (LJ (bP l 16 80) (qG l u))
 have WY:=Zd (afk l u hl)
 have SL:=Zs ((yK l u).length=101) (by rw[xg];exact hl)
 have SP:=Zd (fun v wr (h:aS wr v (qG l u)) (sh:rR v (qG l u))=>sI A (yK l u) (qG l u) s hA SL.out v wr h sh (by rw[XL.out];omega))
 have F:=Zs (∀v' w',gP w.heap.size w' v' (uM A (yK l u) (qG l u))→w.grownBy w' none→Kg w (hfM A false l u) s (VQ A false l u) (.returned (.tuple #[dI (qo A (yK l u) (qG l u)) s,v'])) w') (fun v' w' o q=>⟨v',by unfold hfM;rw[YW,YX],by unfold VQ;rw[YW,YX];exact o,q⟩)
 have ML:=Zs ((qo A (yK l u) (qG l u)).length=101) (by rw[vU];exact SL.out)
 have HA:=Zd hA
 have HU:=Zd hu.len
 have eH:=hu.eH
 have A8:=Zs (((aO A).drop 0).take 9=aO A) (by rw[List.drop_zero,List.take_of_length_le (by rw[aM,hA];omega)])
 have U4:=Zd (mM u 2 4 (by rw[hu.len];omega))
 have ZL:=Zd (aX (au 101) false)
 have hz:=gV
 have hk2:(k==2)=false:=beq_eq_false_iff_ne.2 hk
 have L0:=Zd hl
 obtain⟨l1,hl1⟩:∃l1,l.set 98 (20+aC u 0)=l1:=⟨_,rfl⟩
 have L1:=Zs (l1.length=101) (by rw[←hl1,List.length_set];exact hl)
 obtain⟨l2,ni⟩:∃l2,l1.set 97 (IG u)=l2:=⟨_,rfl⟩
 have L2:=Zs (l2.length=101) (by rw[←ni,List.length_set];exact L1.out)
 obtain⟨l3,hl3⟩:∃l3,l2.set 96 (Iz u)=l3:=⟨_,rfl⟩
 have L3:=Zs (l3.length=101) (by rw[←hl3,List.length_set];exact L2.out)
 have e96:=Zs (aC l3 96=Iz u) (by rw[←hl3,qm _ _ _ (by rw[L2.out];omega),if_pos rfl])
 have e97:=Zs (aC l3 97=IG u) (by rw[←hl3,qm _ _ _ (by rw[L2.out];omega),if_neg gA,←ni,qm _ _ _ (by rw[L1.out];omega),if_pos rfl])
 have e98:=Zs (aC l3 98=20+aC u 0) (by rw[←hl3,qm _ _ _ (by rw[L2.out];omega),if_neg gA,←ni,qm _ _ _ (by rw[L1.out];omega),if_neg gA,←hl1,qm _ _ _ gA,if_pos rfl])
 have e16:=Zs (bP l3 16 80=bP l 16 80) (by rw[←hl3,oH _ _ _ _ _ (by rw[L2.out];omega) (.inr gA),←ni,oH _ _ _ _ _ (by rw[L1.out];omega) (.inr gA),←hl1,oH _ _ _ _ _ gA (.inr gA)])
 rw[hl1,ni,hl3]at WY
 have HL1:=Zd hl1
 have HL2:=Zd ni
 have HL3:=Zd hl3
 clear hA hl hk hu ht hG hl1 ni hl3
 generalize Kg w (hfM A false l u) s (VQ A false l u)=T at *
 generalize qo A (yK l u) (qG l u)=m2 at *
 generalize uM A (yK l u) (qG l u)=Lx at *
 generalize OJ (qG l u)=ke at *
 generalize Dw (bP l 16 80) (qG l u)=KK at *
 generalize yK l u=m1 at *
 generalize qG l u=X at *
 generalize yH (20+aC u 0) (IG u) (Mq u)=me at *
 generalize Ux (bP u 2 4) (aC u 6) (Iz u)=be at *
 generalize Mq u=B at *
 generalize gaE (aC u 1)=ge at *
 generalize glE (aC u 7)=le at *
 generalize IG u=sg at *
 generalize Iz u=sz at *
 unfold Kg at SP
 unfold dI at F hz SP ⊢
 go_enter func41,ntmps41
 go_upto_region 1 with fail
 generalize (((w.alloc (.cells (aU l s).toArray 29)).alloc (.cells (aD A) 58)).alloc (.cells (aD u) 46)).alloc (.cells (aU (ay 101) false).toArray 29)=W0 at *
 clear hz
 have cu:=H0.out.sub 0 (by rw[HU.out];omega)
 have cm:=H0.out.1.cell 98 (by rw[L0.out];omega)
 have fm:=H0.out.1.free 98
 have H1:=Zs (Gc w A u l1 s (W0.setCell ⟨w.heap.size,98,none⟩ (.int .i64 (20+aC u 0)))) (by rw[←HL1.out];exact H0.out.set 98 _ (by rw[L0.out];omega))
 generalize aC u 0=lg at *
 go_upto_region 5 with fail
 clear cu cm fm
 generalize W0.setCell ⟨w.heap.size,98,none⟩ (.int .i64 (20+lg))=W1 at *
 have cu:=H1.out.sub 1 (by rw[HU.out];omega)
 have cm:=H1.out.1.cell 97 (by rw[L1.out];omega)
 have fm:=H1.out.1.free 97
 have H2:=Zs (Gc w A u l2 s (W1.setCell ⟨w.heap.size,97,none⟩ (.int .i64 sg))) (by rw[←HL2.out];exact H1.out.set 97 _ (by rw[L1.out];omega))
 have GA1:=Zd (GA.out W1 H1.out.2.2.2.2)
 generalize aC u 1=u1 at *
 go_wp2_with fail
 refine GA1.out.mono ?_
 rintro e w2 ⟨rfl,rfl⟩
 clear GA1
 go_upto_region 6 with fail
 clear cu cm fm
 generalize w2.setCell ⟨w.heap.size,97,none⟩ (.int .i64 sg)=W2 at *
 have cu:=H2.out.sub 7 (by rw[HU.out];omega)
 have cm:=H2.out.1.cell 96 (by rw[L2.out];omega)
 have fm:=H2.out.1.free 96
 have H3:=Zs (Gc w A u l3 s (W2.setCell ⟨w.heap.size,96,none⟩ (.int .i64 sz))) (by rw[←HL3.out];exact H2.out.set 96 _ (by rw[L2.out];omega))
 have GL1:=Zd (GL.out W2 H2.out.2.2.2.2)
 generalize aC u 7=u7 at *
 go_wp2_with fail
 refine GL1.out.mono ?_
 rintro e w3 ⟨rfl,rfl⟩
 clear GL1
 go_upto_region 7 with fail
 clear cu cm fm
 generalize w3.setCell ⟨w.heap.size,96,none⟩ (.int .i64 sz)=W3 at *
 have cu:=H3.out.sub 6 (by rw[HU.out];omega)
 have cm:=H3.out.1.cell 96 (by rw[L3.out];omega)
 rw[e96.out]at cm
 have BU1:=Zd (BU.out W3)
 have N3:=Zs (w.heap.size+1+1+1+1≤W3.heap.size) (H3.out.2.2.2.1.lt)
 generalize aC u 6=u6 at *
 go_wp2_with (first|refine lV 2 H3.out.2.2.1 Wq (by rw[aM,HU.out];omega) U4.out ?_)
 refine BU1.out.mono ?_
 rintro e W4 ⟨v4,rfl,o4,g4⟩
 have H4:=Zd (H3.out.aH g4)
 have O4:=Zd (o4.base N3.out)
 clear o4 g4 BU1 cu cm
 go_upto_region 8 with fail
 have c98:=H4.out.1.cell 98 (by rw[L3.out];omega)
 rw[e98.out]at c98
 have c97:=H4.out.1.cell 97 (by rw[L3.out];omega)
 rw[e97.out]at c97
 have CE:=Zd (aX L3.out s)
 have PE:=Zd (dA.part (l:=l3) s 16 80 (by rw[L3.out];omega))
 rw[e16.out]at PE
 have MX1:=Zd (MX.out v4 W4 O4.out.ints)
 go_wp2_with (first|refine lV 16 H4.out.1 fP (by rw[CE.out];omega) PE.out ?_)
 refine MX1.out.mono ?_
 rintro e W5 ⟨v5,rfl,o5,g5⟩
 have H5:=Zd (H4.out.aH g5)
 have O5:=Zd (o5.base (b':=w.heap.size+1+1+1+1) (show w.heap.size+1+1+1+1≤W4.heap.size from H4.out.2.2.2.1.lt))
 clear o5 g5 MX1 c98 c97
 go_upto_region 9 with fail
 have KP1:=Zd (KP.out v5 W5 O5.out.ints)
 go_wp2_with (first|refine lV 16 H5.out.1 fP (by rw[CE.out];omega) PE.out ?_)
 refine KP1.out.mono ?_
 rintro e W6 ⟨rfl,g6⟩
 have H6:=Zd (H5.out.aH g6)
 have O6:=Zd (O5.out.aH g6)
 have PU:=H6.out.put 16 KK (by rw[KL.out,L3.out];omega)
 have H7:=Zd PU.1
 have O7:=Zd (O6.out.dK PU.2 gA)
 rw[WY.out]at H7
 have ID:=Zd (d9 KK)
 have IL:=Zs ((aO KK).length=80) (by rw[aM];exact KL.out)
 clear g6 KP1 PU
 go_upto_region 10 with(first|refine sV 16 (aO KK) H6.out.1 (by rw[IL.out,CE.out];omega) (by rw[IL.out];exact fP) ID.out ?_)
 (try simp only[Act.put])
 generalize dQ W6 w.heap.size 16 (aO KK)=W7 at *
 have A1:=Zd (dA.all s SL.out)
 have C1:=Zd (aX SL.out s)
 have SP2:=Zd (SP.out v5 W7 O7.out.ints O7.out.Iy)
 go_wp2_with (first|refine lV 0 H7.out.1 aY (by rw[C1.out];omega) A1.out ?_|refine lV 0 H7.out.2.1 dz (by rw[aM,HA.out];omega) A8.out ?_)
 refine SP2.out.mono ?_
 rintro e W8 ⟨v8,rfl,o8,g8⟩
 have H8:=Zd (H7.out.aH g8)
 have PB:=Zd (H8.out.fin m2 s ML.out)
 have O8:=Zd ((o8.base (b':=w.heap.size+1+1+1+1) (show w.heap.size+1+1+1+1≤W7.heap.size from H7.out.2.2.2.1.lt)).dK PB.out.2.2 gA)
 have FF:=Zd (F.out _ _ (O8.out.base (b':=w.heap.size) gA) PB.out.2.1)
 have C3:=Zd (aX ML.out s)
 have ON:=Zd (dY m2 s)
 clear o8 g8 SP2
 go_wp2_with (first|refine sV 0 (aU m2 s) H8.out.2.2.2.1 (by rw[ZL.out,C3.out];omega) (by rw[C3.out];exact aY) ON.out ?_)
 have eO:=wV PB.out.1 (by rw[C3.out];exact aY)
 refine bodyPost_ret (v:=.tuple #[.agg (aU m2 s).toArray,_]) ?_ rfl FF.out
 simp[results,results41,asAddr,Act.put,eO]
theorem Cw (A l u:List Int)(s:Bool)(k:Int)(hA:A.length=9)(hl:l.length=101)(hg:cO l=true)(hu:sJ u)(w:World)(ht:TabA w 2 gains 8)(hG:r_ w) :
 Calls prog 41 #[dI l s,.agg (aD A),.int .i64 k,.agg (aD u)] w (Kg w (hfM A (decide (k=2)) l u) s (VQ A (decide (k=2)) l u)):=by
 by_cases hk:k=2
 ·rw[decide_eq_true hk];exact Q8 A l u s k hA hl hg hk w
 rw[decide_eq_false hk];exact Jr A l u s k hA hl hu hk w ht hG
theorem Ws (n:Nat)(h1:n≤35184372088832)(u:World):(Instr.makeSlice 32 (.int .i64 0) (.int .i64 n)).run prog u=.ok (.slice (some ⟨u.heap.size,0,none⟩) 0 n) (u.alloc (.cells (aD (ay n)) 3)):=by
 obtain⟨i0,hi,hz0,hz1,hz2⟩:=info_parts nE
 have h:=run_make (P:=prog) u 32 3 i0 (.int .i64 0) underlying32 hi hz0 .i64 .i64 0 n (Int.le_refl _) gA (by rw[hz2];omega) gA
 have m:=J5 (n:=n)
 rw[show ay n=List.replicate n 0 by unfold ay;rfl,←m]
 simpa [hz1,Value.cells] using h
theorem aaH {w:World}{b base n:Nat}(h:bO w b 3 (ay n))(hb:base≤b)(hl:n≤35184372088832):gP base w (.slice (some ⟨b,0,none⟩) 0 n) []:=
 ⟨by simp,.inr ⟨b,n,aD (ay n),rfl,hb,h,Nat.zero_le _,by unfold maxLen;omega,by simp[aD,au],by simp⟩⟩
theorem ahP:(prog.info? 58).map (·.size)=some 9:=by kernel_rfl
theorem KR (L:List Int)(hL:L.length=18)(k:Nat)(hk:k<2)(w:World):Sem.run prog (Instr.index 73 (.agg (aD L)) (.int .i64 k)) w=.ok (.agg (aD (bP L (9*k) 9))) w:=by
 have hs:=ahP
 have hb:(0:Int)≤k∧(k:Int)<2:=gA
 have he:(aD L).extract (k*9) (k*9+9)=aD (bP L (9*k) 9):=by
  apply Array.toList_inj.1
  rw[Array.toList_extract]
  have:=mM L (9*k) 9 gA
  rw[show(aD L).toList=aO L from rfl,show(aD (bP L (9*k) 9)).toList=aO (bP L (9*k) 9)from rfl,←this]
  rw[List.extract_eq_take_drop,Nat.mul_comm k 9,Nat.add_sub_cancel_left]
 cases hq:prog.info? 58 with
 | none=>simp[hq]at hs
 | some i=>
  have hi:i.size=9:=by simpa [hq] using hs
  simp[Instr.index,run_underlying underlying73,run_underlying underlying58,asIntOf,hb,go_sem,sizeOf,typeInfo,hq,hi,part,isAgg,he]
  intro h
  omega
theorem Js (w:World)(hW:uf w)(hT:TabA w 2 gains 8)(hG:r_ w)(l:List Int)(s:Bool)(hl:l.length=101)(hg:cO l=true)(p:List Int)(hp:p.length=25)(gp:j4 p=true) :
 Calls prog 14 #[dI l s,.agg (aD p)] w (Kg w (oW l p) (oV p) (sK l p)):=by
 have M0:=Zd (vL.new w l s p)
 obtain⟨kd,hkd⟩:∃kd,aC p 0=kd:=⟨_,rfl⟩
 obtain⟨l0,hl0⟩:∃l0,plF l p=l0:=⟨_,rfl⟩
 obtain⟨f1,f2⟩:=zK (p:=p) hl hg
 rw[hl0]at f1 f2
 obtain⟨now,pz⟩:∃now,vlL p=now:=⟨_,rfl⟩
 have nl:now.length=8:=by rw[←pz];exact zH p
 have ns:bN now=true:=by rw[←pz];exact uQ p gp
 obtain⟨bS,zV⟩:∃bS,oV p=bS:=⟨_,rfl⟩
 have es:decide (kd=2)=bS:=by rw[←zV,←hkd];rfl
 have AH:=Zd (fun wr=>zC l s kd hl wr)
 rw[show(if kd=1 then iL else l)=l0 from by rw[←hl0,←hkd];rfl]at AH
 obtain⟨s0,hs0⟩:∃s0:Bool,(if kd=1 then false else s)=s0:=⟨_,rfl⟩
 rw[hs0]at AH
 have VA:=Zd (fun wr (g:w.grownBy wr none)=>FH (bP p 1 8) (aR _ _ _) wr (kJ hW g))
 rw[(xG gp).1,(xG gp).2,pz]at VA
 have PR:=Zd (fun wr=>rY (bP l0 0 8) now (aR _ _ _) nl (jI f2) ns wr)
 have IX':=Zd (fun k (hk:k<2) u=>KR (O0 (bP l0 0 8) now 2) (DU _ _ 2) k hk u)
 have IE:=Zd (fun k (hk:k<2)=>QD (bP l0 0 8) now k hk)
 have LL:=Zd (fun k=>oI bS now p f1 k)
 have OL:=Zd (fun k (hk:k≤2)=>(tT bS f1 f2 nl ns gp k hk).1)
 have AL':=Zd (fun k=>wm (bP l0 0 8) now k)
 have SP:=Zd (show ∀(k:Nat),k<2→∀wr,w.grownBy wr none→Calls prog 41 #[dI (jX bS now l0 p k) s0,.agg (aD (gK (bP l0 0 8) now k)),.int .i64 kd,.agg (aD (dS p k))] wr (Kg wr (jX bS now l0 p (k+1)) s0 (VQ (gK (bP l0 0 8) now k) bS (jX bS now l0 p k) (dS p k)))from fun k hk wr q=>by
  have c:=Cw (gK (bP l0 0 8) now k) (jX bS now l0 p k) (dS p k) s0 kd (AL'.out k) (LL.out k) (nN bS f1 f2 nl ns gp k gA) (lG p gp k hk) wr (gF hT q) (lq hG q)
  rw[es,acV bS f1 f2 nl ns gp k hk]at c
  exact c)
 have SN:=Zd (fun(k:Nat) (hk:k<2)=>ahL (gK (bP l0 0 8) now k) bS (nN bS f1 f2 nl ns gp k gA) (lG p gp k hk))
 have S2:=Zd (fun(k:Nat) (hk:k<2)=>acW bS f1 f2 nl ns gp k hk)
 have E0:=Zs (jX bS now l0 p 0=l0) (rfl)
 have E1:=Zs (IJ bS now l0 p 0=[]) (rfl)
 have F:=Zd (show ∀v' w',gP w.heap.size w' v' (IJ bS now l0 p 2)→w.grownBy w' none→Kg w (oW l p) (oV p) (sK l p) (.returned (.tuple #[dI ((jr (jX bS now l0 p 2) 0 now).set 99 0) bS,v'])) w' from fun v' w' o q=>
  ⟨v',by unfold oW;rw[zV,pz,hl0],by unfold sK;rw[zV,pz,hl0];exact o,q⟩)
 have NL:=Zd nl
 have HP:=Zd hp
 have HL:=Zd hl
 have HL0:=Zd f1
 have CL:=Zd (aX hl s)
 have C0:=Zd (aX f1 s0)
 have AL0:=Zd (dA.all s hl)
 have PS:=Zd (fun k (hk:k<2)=>mM p (9+8*k) 8 gA)
 have PV:=Zd (mM p 1 8 gA)
 have P0:=Zd (dA.part (l:=l0) s0 0 8 gA)
 have ZL:=Zd (aX (au 101) false)
 have hz:=gV
 have jg:=Ws 80 gA
 rw[show((80:Nat):Int)=80 from rfl]at jg
 have hk2:(kd==2)=bS:=by
  rw[←es]
  by_cases e:kd=2
  ·rw[decide_eq_true e];exact beq_iff_eq.2 e
  rw[decide_eq_false e];exact beq_eq_false_iff_ne.2 e
 have KD:=Zd hkd
 clear hg hl gp hp f1 f2 nl ns pz zV hkd hl0 hs0 es hW hT hG
 generalize Kg w (oW l p) (oV p) (sK l p)=T at *
 generalize jX bS now l0 p=LM at *
 generalize IJ bS now l0 p=LO at *
 generalize O0 (bP l0 0 8) now 2=PRL at *
 unfold jk at AH PR
 unfold dI at hz F SP AH ⊢
 go_enter func14,ntmps14
 go_upto_region 1 with fail
 generalize ((w.alloc (.cells (aU l s).toArray 29)).alloc (.cells (aD p) 49)).alloc (.cells (aU (ay 101) false).toArray 29)=W0 at *
 clear hz
 have cp:=M0.out.num 0 (by rw[HP.out];omega)
 rw[KD.out]at cp
 go_wp2_with (first|refine lV 0 M0.out.1 aY (by rw[CL.out];omega) AL0.out ?_)
 refine(AH.out W0).mono ?_
 rintro e W1 ⟨rfl,g1⟩
 have M1:=Zd (M0.out.aH g1)
 have MA:=M1.out.all (m:=l0) (t:=s0) HL.out HL0.out
 have M2:=Zd MA.1
 have I0:=Zd (dY l0 s0)
 clear MA M0 g1 AH cp AL0
 go_upto_region 2 with(first|refine sV 0 (aU l0 s0) M1.out.1 (by rw[CL.out,C0.out];omega) (by rw[C0.out];exact aY) I0.out ?_)
 (try simp only[Act.put])
 clear M1 I0 CL
 generalize dQ W1 w.heap.size 0 (aU l0 s0)=W2 at *
 go_wp2_with (first|refine lV 1 M2.out.2.1 dV (by rw[aM,HP.out];omega) PV.out ?_)
 refine(VA.out _ M2.out.2.2.2).mono ?_
 rintro e W3 ⟨rfl,g3⟩
 obtain⟨b1,b2,b3⟩:=dL W3 26 8 now NL.out
 have B1:=Zd b1
 have B2:=Zd b2
 have M3:=Zd ((M2.out.aH g3).aH b3)
 have NB:=Zs (w.heap.size+1+1+1≤W3.heap.size) ((M2.out.aH g3).2.2.1.lt)
 rw[rF]at B1 B2 M3
 clear g3 VA b1 b2 b3 M2 PV
 go_upto_region 3 with(first|refine sA now B1.out (by rw[NL.out,au]) (by rw[au];exact dV) ?_)
 (try simp only[Act.put])
 clear B1
 generalize bT _ W3.heap.size now=W4 at *
 generalize W3.heap.size=ba at *
 have N4:=Zs (ba+1≤W4.heap.size) (B2.out.lt)
 have OZ:=Zd (aaH (base:=ba+1) (n:=80) (bO.new W4 3 (ay 80)) N4.out gA)
 have GZ:=ak W4 (.cells (aD (ay 80)) 3) none
 have M5:=Zd (M3.out.aH GZ)
 have B5:=Zd (B2.out.aH GZ)
 have N5:=Zd (Nat.le_trans N4.out GZ.size)
 clear GZ M3 B2 N4
 go_upto_region 4 with fail
 clear jg
 generalize W4.alloc (.cells (aD (ay 80)) 3)=W5 at *
 generalize W4.heap.size=bo at *
 have PR1:=Zd (PR.out W5)
 clear PR
 go_wp2_with (first|refine lV 0 M5.out.1 dV (by rw[C0.out];omega) P0.out ?_|refine lA B5.out (by rw[NL.out];exact dV) ?_)
 refine PR1.out.mono ?_
 rintro e W6 ⟨rfl,g6⟩
 have M6:=Zd (M5.out.aH g6)
 have B6:=Zd (B5.out.aH g6)
 have O6:=Zd (OZ.out.aH g6)
 have N6:=Zd (Nat.le_trans N5.out g6.size)
 clear g6 PR1 M5 B5 OZ N5 P0
 go_wp2_with fail
 go_loopw [8,27] (fun va i wr=>∃k:Nat,i=.int .i64 (k:Int)∧k≤2∧Hid (gP (ba+1) wr va (LO k))∧Hid (vL w (LM k) s0 p wr)∧Hid (bO wr ba 26 now)∧Hid (ba+1≤wr.heap.size)) (fun _ i _=>2-(intOf i).toNat)
 case atStart=>exact⟨0,rfl,Nat.zero_le _,by rw[E1.out];exact O6.out,by rw[E0.out];exact M6.out,B6.out,N6.out⟩
 case round=>
  obtain⟨k,rfl,hk,hO,hM,hB,hN⟩:=hrel
  clear M6 B6 O6 N6
  by_cases jS:k<2
  ·have hk3:(k:Int)<2:=gA
   have A1:=Zd (dA.all s0 (LL.out k))
   have C1:=Zd (aX (LL.out k) s0)
   have CK:=Zd (aX (LL.out (k+1)) s0)
   have IK:=Zd (dY (LM (k+1)) s0)
   have Q2:=Zd (S2.out k jS)
   have OK:=Zd (OL.out k hk)
   have SK:=Zd (SN.out k jS)
   have Jt:=Zd (SP.out k jS)
   have AL:=Zd (AL'.out k)
   have PU:=Zd (PS.out k jS)
   have uT:=IX'.out k jS
   rw[IE.out k jS]at uT
   rw[show bP p (9+8*k) 8=dS p k from rfl]at PU
   clear S2 OL SN SP PS AL' F IX' IE hk2
   generalize VQ (gK (bP l0 0 8) now k) bS (LM k) (dS p k)=LX at *
   generalize gK (bP l0 0 8) now k=AK at *
   obtain⟨b1,b2,b3⟩:=dL wr 58 9 AK AL.out
   have B1:=Zd b1
   have BA:=Zd b2
   have M1:=Zd (hM.out.aH b3)
   have O1:=Zd (hO.out.aH b3)
   have BN:=Zd (hB.out.aH b3)
   have N1:=Zd (Nat.le_trans hN.out b3.size)
   rw[J7]at B1 BA M1 O1 BN N1
   clear b1 b2 b3 hM hO hB hN
   go_upto_region 7 with(first|refine sA AK B1.out (by rw[AL.out,au]) (by rw[au];exact dz) ?_)
   (try simp only[Act.put])
   clear B1 uT
   generalize bT _ wr.heap.size AK=wq at *
   generalize wr.heap.size=bq at *
   go_upto_region 8 with fail
   have hM:=M1
   have hO:=O1
   have hB:=BN
   have hN:=N1
   clear M1 O1 BN N1
   refine b_ 12 (dM wq) 14 (by rfl) _ rfl (by kernel_rfl) (fun aK=>?_)
   have aj:=(aZ wq)
   refine jq (hy:=by intro w' bL;(try dsimp only at bL);exact dD rfl rfl (hM.out.1.aH bL) _ underlying29 rfl aY (by rw[C1.out];omega) _ A1.out) (v:=.agg (aU (LM k) s0).toArray) 0 aj aK fun aK=>?_
   refine jq (hy:=by intro w' bL;(try dsimp only at bL);exact yA (BA.out.aH bL) (by rw[AL.out];exact dz)) (v:=.agg (aD AK)) 1 aj aK fun aK=>?_
   refine bF 2 aj aK fun aK=>?_
   refine jq (hy:=by intro w' bL;(try dsimp only at bL);have cc:=((hM.out.2.1.aH bL).cell 0).trans (qB p 0 (by rw[HP.out];omega));rw[KD.out]at cc;go_simp;(try with_reducible rfl)) (v:=.int .i64 kd) 3 aj aK fun aK=>?_
   refine bF 4 aj aK fun aK=>?_
   refine bF 5 aj aK fun aK=>?_
   refine jq (hy:=by intro w' bL;(try dsimp only at bL);go_simp;(try simp only[Nat.mul_comm]);(try with_reducible rfl)) (v:=.pointer (some ⟨w.heap.size+1,9+8*k,none⟩)) 6 aj aK fun aK=>?_
   refine jq (hy:=by intro w' bL;(try dsimp only at bL);exact dD rfl rfl (hM.out.2.1.aH bL) _ underlying46 rfl rz (by rw[aM,HP.out];omega) _ PU.out) (v:=.agg (aO (dS p k)).toArray) 7 aj aK fun aK=>?_
   refine kT 8 aK fun K hK=>?_
   (try simp only[sZ])
   go_simp
   refine(Jt.out _ (aB hM.out.2.2.2 aj)).mono ?_
   rintro e w2 ⟨v2,rfl,o2,q2⟩
   have Q2:=Zd q2
   have X2:=Zd (o2.base (Nat.le_trans hN.out aj.size))
   clear q2 o2
   unfold dI
   go_wp2_with fail
   have iB:=(bD aj Q2.out)
   refine hK.out _ _ (fun _=>iB) (fun aK=>?_)
   clear hK
   replace aj:=iB
   clear iB
   (try simp only[sZ])
   refine bF 9 aj aK fun aK=>?_
   refine bF 10 aj aK fun aK=>?_
   refine kC (i:=11) (v:=?am2) rfl (by kernel_rfl) aK (fun _ _ _ h=>h) (Or.inl ⟨by rfl,?aiM⟩) aj (fun aK=>?am3)
   case aiM=>(intro w' _;go_simp;(try with_reducible rfl))
   (try simp only[sZ])
   refine kT 12 aK fun K hK=>?_
   (try simp only[sZ])
   have M2:=Zd (hM.out.aH aj)
   have MA:=M2.out.all (m:=LM (k+1)) (t:=s0) (LL.out k) (LL.out (k+1))
   have M3:=Zd MA.1
   have O3:=Zd ((hO.out.aH aj).dK MA.2 (by have:=NB.out;omega))
   have X3:=Zd (X2.out.dK MA.2 (by have:=NB.out;omega))
   have B3:=Zd ((hB.out.aH aj).aJ MA.2 (by have:=NB.out;omega))
   have N3:=Zd (Nat.le_trans (Nat.le_trans hN.out aj.size) MA.2.size)
   clear MA X2
   refine dG rfl 29 _ _ rfl w.heap.size 0 29 (aU (LM k) s0) (aU (LM (k+1)) s0) rfl rfl M2.out.1 (by rw[C1.out,CK.out];omega) (by rw[CK.out];exact aY) IK.out ?_
   refine hK.out _ _ (fun h=>by cases h) (fun aK=>?_)
   clear hK aj
   (try simp only[sZ])
   clear M2 Q2 hM hO hB
   generalize dQ w2 w.heap.size 0 (aU (LM (k+1)) s0)=w3 at *
   refine bI _ _ _ _ (by rfl) ?_
   refine wpAny_take (i:=13) (v:=?am4) rfl (by kernel_rfl) (by kernel_rfl) (by kernel_rfl) (fun _ _ _ h=>h) (Or.inl ⟨by rfl,?aiN⟩) ?am5
   case aiN=>(intro w';go_simp;(try with_reducible rfl))
   (try simp only[sZ])
   refine xP ?_
   clear A1 C1 Jt PU jS BA
   go_upto_region 9 with fail
   have LB:=Zs (((LO k).length+LX.length)*8≤140737488355328) (by rw[OK.out];have:=SK.out;omega)
   have XI:=Zd X3.out.ints
   have XS:=Zd X3.out.Iy
   go_wp2_with (at_builtin;refine dF (by rfl) _ _ rfl (ba+1) _ _ (LO k) LX rfl rfl O3.out XI.out XS.out LB.out N3.out ?_)
   intro v7 w7 h7 g7
   rw[Q2.out]at h7
   have O7:=Zd h7
   have M7:=Zd (M3.out.own g7 (fun x e=>by have:=(O3.out.lt x e).1;have:=NB.out;omega))
   have B7:=Zd (dP.aiF (dP.own (dP.aiE B3.out) g7 (fun x e=>by have:=(O3.out.lt x e).1;omega)))
   have N7:=Zd (Nat.le_trans N3.out g7.size)
   clear h7 g7 O3 M3 B3 N3 X3 Q2 XI XS
   go_wp2_with fail
   go_roundw
   case rel=>exact⟨k+1,by go_num,gA,O7.out,M7.out,B7.out,N7.out⟩
   case measure=>simp[intOf];omega
  obtain rfl:k=2:=gA
  have C2:=Zd (aX (LL.out 2) s0)
  clear S2 OL SN SP PS AL' IX' IE
  go_upto_region 11 with fail
  refine wp_region_held_drew (S:=fun u=>dP u (w.heap.size+1) 49 (aO p)∧bO u ba 26 now) (by kernel_rfl) ⟨hM.out.2.1.aH (aZ wr),hB.out.aH (aZ wr)⟩ (fun aj=>?_)
  refine bV (hy:=by intro w' bL;exact yA bL.2 (by rw[NL.out];exact dV)) (v:=.agg (aD now)) 0 aj ?_
  refine bV 1 aj ?_
  refine bV (hy:=by intro w' bL;have cc:=(bL.1.cell 0).trans (qB p 0 (by rw[HP.out];omega));rw[KD.out]at cc;go_simp;(try with_reducible rfl)) (v:=.int .i64 kd) 2 aj ?_
  refine bV (hy:=by intro w' bL;go_simp;(try simp only[hk2]);(try with_reducible rfl)) (v:=.bool bS) 3 aj ?_
  refine bV 4 aj ?_
  refine fI 5 fun K hK=>?_
  (try simp only[sZ])
  have MD:=Zd (hM.out.aH (aZ wr))
  have MA:=MD.out.put 0 now (by rw[NL.out,LL.out];omega)
  have M6:=Zd MA.1
  have O6:=Zd ((hO.out.aH (aZ wr)).dK MA.2 (by have:=NB.out;omega))
  have HS6:=And.intro (aj.1.aJ MA.2 gA) (aj.2.aJ MA.2 (by have:=NB.out;omega))
  clear MA
  refine dG rfl 26 _ _ rfl w.heap.size 0 29 (aU (LM 2) s0) (aO now) rfl rfl MD.out.1 (by rw[aM,NL.out,C2.out];omega) (by rw[aM,NL.out];exact dV) (d9 _) ?_
  refine hK.out _ _ HS6 (fun aj=>?_)
  clear hK
  (try simp only[sZ])
  clear MD HS6
  generalize dQ wr.drew w.heap.size 0 (aO now)=w6 at *
  have L6:=Zs ((jr (LM 2) 0 now).length=101) (by rw[eG];exact LL.out 2)
  generalize jr (LM 2) 0 now=m6 at *
  refine bV 6 aj ?_
  refine fI 7 fun K hK=>?_
  (try simp only[sZ])
  have ck:=M6.out.1.cell 99 (by rw[L6.out];omega)
  have fk:=M6.out.1.free 99
  have M7:=Zd (M6.out.set 99 0 (by rw[L6.out];omega))
  have O7:=Zd (O6.out.dK (aF w6 ⟨w.heap.size,99,none⟩ (.int .i64 0)) (by have:=NB.out;simp;omega))
  have HS7:=And.intro (aj.1.aJ (aF w6 ⟨w.heap.size,99,none⟩ (.int .i64 0)) (by simp)) (aj.2.aJ (aF w6 ⟨w.heap.size,99,none⟩ (.int .i64 0)) (by have:=NB.out;simp;omega))
  go_simp
  go_wp2_with fail
  refine hK.out _ _ HS7 (fun aj=>?_)
  clear hK
  (try simp only[sZ])
  clear ck fk M6 O6 HS7
  generalize w6.setCell ⟨w.heap.size,99,none⟩ (.int .i64 0)=w7 at *
  have L7:=Zs ((m6.set 99 0).length=101) (by rw[List.length_set];exact L6.out)
  generalize m6.set 99 0=m7 at *
  refine bV 8 aj ?_
  refine fI 9 fun K hK=>?_
  (try simp only[sZ])
  have ck:=M7.out.1.cellS L7.out
  have fk:=M7.out.1.free 101
  have M8:=Zd (M7.out.adj L7.out bS)
  have O8:=Zd (O7.out.dK (aF w7 ⟨w.heap.size,101,none⟩ (.bool bS)) (by have:=NB.out;simp;omega))
  have HS8:=And.intro (aj.1.aJ (aF w7 ⟨w.heap.size,101,none⟩ (.bool bS)) (by simp)) (aj.2.aJ (aF w7 ⟨w.heap.size,101,none⟩ (.bool bS)) (by have:=NB.out;simp;omega))
  go_simp
  go_wp2_with fail
  refine hK.out _ _ HS8 (fun aj=>?_)
  clear hK
  (try simp only[sZ])
  clear ck fk M7 O7 HS8
  generalize w7.setCell ⟨w.heap.size,101,none⟩ (.bool bS)=w8 at *
  refine lM ?_
  clear aj
  go_upto_region 12 with fail
  have A8:=Zd (dA.all bS L7.out)
  have C8:=Zd (aX L7.out bS)
  have ON:=Zd (dY m7 bS)
  have PB:=Zd (M8.out.fin m7 bS L7.out)
  have O9:=Zd (O8.out.dK PB.out.2.2 (by have:=NB.out;omega))
  have FF:=Zd (F.out _ _ (O9.out.base (b':=w.heap.size) (by have:=NB.out;omega)) PB.out.2.1)
  clear F O8 O9
  go_wp2_with (first|refine lV 0 M8.out.1 aY (by rw[C8.out];omega) A8.out ?_|refine sV 0 (aU m7 bS) M8.out.2.2.1 (by rw[ZL.out,C8.out];omega) (by rw[C8.out];exact aY) ON.out ?_)
  have eO:=wV PB.out.1 (by rw[C8.out];exact aY)
  refine bodyPost_ret (v:=.tuple #[.agg (aU m7 bS).toArray,_]) ?_ rfl FF.out
  simp[results,results14,asAddr,Act.put,eO]

theorem jM (a:Int)(m:Nat)(hm:m≤3000)(h0:-9223372036854775808≤a)(h1:a≤9223372036854775807)(w:World) :
 Calls prog 50 #[.int .i64 a,.int .u64 m] w (gJ w (.int .i64 (a / 2^m))):=by
 have hp:(0:Int)<2^m:=Int.pow_pos (by decide)
 obtain⟨q1,q2⟩:-9223372036854775808≤a / 2^m∧a / 2^m≤9223372036854775807:=ahi a m _ _ (by decide) (by decide) h0 h1
 have h_:=Zs (∀w',w.grownBy w' none→gJ w (.int .i64 (a / 2^m)) (.returned (.int .i64 (a / 2^m))) w') (fun w' h=>⟨rfl,h⟩)
 have RS:=Zd (fun bz bx w' hz hx=>Zc bz bx a m hm w' hz hx)
 generalize a / 2^m=q at *
 generalize gJ w (.int .i64 q)=T at *
 clear hp
 go_enter func50,ntmps50
 go_wp2_with fail
 refine(eD a _ h0 h1).mono ?_
 rintro e w2 ⟨ba,rfl,hba,i2,g2⟩
 have z2:=bG (eT w) g2 (by simp)
 have L:=Zd (RS.out w.heap.size ba w2 z2 i2)
 have G2:=Zd (aB (ak w iI none) g2)
 clear g2 z2 i2
 go_wp2_with fail
 refine L.out.mono ?_
 rintro e w3 ⟨rfl,i3,g3⟩
 have I:=Zd (nT w.heap.size q w3 i3 q1 q2)
 have F:=Zd (h_.out w3 (aG G2.out g3 (Nat.le_refl _)))
 clear L g3 i3
 go_wp2_with fail
 refine I.out.mono ?_
 rintro e w4 ⟨rfl,rfl⟩
 clear I
 go_wp2_with fail
 exact F.out
theorem bM (v:Value)(l:List Int)(w:World)(h:aS w v l)(hl:l.length≤1000000000000000000) :
 Calls prog 48 #[v] w (lY w (.bool (aL l))):=by
 obtain⟨ad,c,rfl,hc,bH⟩:=h
 have Y:=Zd (fun(hh:∀i,i<l.length→-32768≤aC l i∧aC l i≤32767)=>(show lY w (.bool (aL l)) (.returned (.bool true)) w from⟨by rw[(aV l).2 hh],rfl⟩))
 have N:=Zd (fun i (hi:i<l.length) (hh:¬(-32768≤aC l i∧aC l i≤32767))=>(show lY w (.bool (aL l)) (.returned (.bool false)) w from⟨by
  have:aL l=false:=by
   rcases hb:aL l with _|_
   ·rfl
   exact absurd ((aV l).1 hb i hi) hh
  rw[this],rfl⟩))
 generalize lY w (.bool (aL l))=T at *
 go_enter func48,ntmps48
 go_wp2_with fail
 go_loop [7] (fun i=>∃k:Nat,i=.int .i64 k∧k≤l.length∧Hid (∀i,i<k→-32768≤aC l i∧aC l i≤32767)) (fun i=>l.length-(intOf i).toNat)
 case atStart=>exact⟨0,rfl,Nat.zero_le _,fun i hi=>gA⟩
 case round=>
  obtain⟨k,rfl,hk,hG⟩:=hrel
  by_cases jS:k<l.length
  ·obtain⟨a,rfl,hv⟩:=bH gA
   have hck:=hv k jS
   have NK:=Zd (N.out k jS)
   have GK:=Zd (fun(hh:-32768≤aC l k∧aC l k≤32767)=>(show ∀i,i<k+1→-32768≤aC l i∧aC l i≤32767 from fun i hi=>by
    rcases Nat.lt_or_ge i k with g|g
    ·exact hG.out i g
    obtain rfl:i=k:=gA
    exact hh))
   clear bH hv hG
   generalize aC l k=z at *
   by_cases b1:z < -32768
   ·have F:=Zd (NK.out gA)
    go_wp2_with fail
    exact F.out
   by_cases b2:32767<z
   ·have F:=Zd (NK.out gA)
    go_wp2_with fail
    exact F.out
   have F:=Zd (GK.out gA)
   go_wp2_with fail
   go_round
   case rel=>exact⟨k+1,by go_num,gA,F.out⟩
   case measure=>simp[intOf];omega
  obtain rfl:k=l.length:=gA
  have F:=Zd (Y.out hG.out)
  clear bH hG
  go_wp2_with fail
  exact F.out
theorem aaS (a b:List Int)(hl:a.length=b.length)(h:∀j,j<b.length→aC a j=aC b j):decide (a=b)=true:=by
 apply decide_eq_true
 apply List.ext_getElem hl
 intro i h1 h2
 have:=h i h2
 simpa [aC,List.getD,h1,h2] using this
theorem Rq (va vb:Value)(a b:List Int)(w:World)(ha:aS w va a)(hb:aS w vb b)(la:a.length≤1000000000000000000)(lb:b.length≤1000000000000000000) :
 Calls prog 29 #[va,vb] w fun e w'=>e=.returned (.bool (decide (a=b)))∧∃n,w'=w.drewN n:=by
 obtain⟨ada,ca,rfl,hca,qZ⟩:=ha
 obtain⟨adb,cb,rfl,hcb,qc⟩:=hb
 by_cases hl:a.length=b.length
 ·have FY:=Zd (aaS a b hl)
  have FN:=Zd (fun k (h:aC a k≠aC b k)=>(show decide (a=b)=false from decide_eq_false (fun e=>h (by rw[e]))))
  generalize decide (a=b)=d at *
  go_enter func29,ntmps29
  go_wp2_with fail
  go_loopw [13] (fun i wr=>∃k n:Nat,i=.int .i64 k∧k≤b.length∧Hid (∀j,j<k→aC a j=aC b j)∧wr=w.drewN n) (fun i _=>b.length-(intOf i).toNat)
  case atStart=>exact⟨0,0,rfl,Nat.zero_le _,fun j hj=>gA,rfl⟩
  case round=>
   obtain⟨k,n,rfl,hk,hE,rfl⟩:=hrel
   by_cases jS:k<b.length
   ·obtain⟨a0,rfl,aiW⟩:=qZ gA
    obtain⟨b0,rfl,aiX⟩:=qc gA
    have ck:=aiW k gA
    have dk:=aiX k jS
    have GK:=Zd (fun(e:aC a k=aC b k)=>(show ∀j,j<k+1→aC a j=aC b j from fun j hj=>by
     rcases Nat.lt_or_ge j k with g|g
     ·exact hE.out j g
     obtain rfl:j=k:=gA
     exact e))
    have NK:=Zd (FN.out k)
    clear qZ qc aiW aiX hE
    generalize aC a k=x at *
    generalize aC b k=y at *
    by_cases hxy:x=y
    ·have hb1:(x==y)=true:=by simp[hxy]
     have G:=Zd (GK.out hxy)
     clear hxy
     go_wp2_with fail
     go_quiet (fail)
     go_wp2_with fail
     go_roundw
     case rel=>exact⟨k+1,_,by go_num,gA,G.out,rfl⟩
     case measure=>simp[intOf];omega
    have hb1:(x==y)=false:=beq_eq_false_iff_ne.2 hxy
    have D:=Zd (NK.out hxy)
    clear hxy
    go_wp2_with fail
    go_quiet (fail)
    go_wp2_with fail
    rw[World.drewN_drewN]
    go_ret
    exact⟨by rw[D.out];rfl,_,rfl⟩
   obtain rfl:k=b.length:=gA
   have D:=Zd (FY.out hE.out)
   clear qZ qc hE
   go_wp2_with fail
   go_ret
   exact⟨by rw[D.out];rfl,_,rfl⟩
 have hb0:((a.length:Int)==(b.length:Int))=false:=beq_eq_false_iff_ne.2 gA
 have hne:decide (a=b)=false:=decide_eq_false (fun e=>hl (by rw[e]))
 rw[hne]
 clear qZ qc hne
 go_enter func29,ntmps29
 go_wp2_with fail
 go_ret
 exact⟨rfl,0,rfl⟩
theorem adC (v:Value)(l:List Int)(w:World)(h:aS w v l)(hl:l.length*8≤140737488355328) :
 Calls prog 5 #[v] w (Lists w l):=by
 obtain⟨ad,c,rfl,hc,bH⟩:=h
 obtain⟨i0,hi,hz0,hz1,hz2⟩:=info_parts nE
 rcases ad with _|a
 ·have h0:l.length=0:=by
   rcases Nat.eq_zero_or_pos l.length with h|h
   ·exact h
   obtain⟨a,e,_⟩:=bH h
   cases e
  have F:=Zs (Lists w l (.returned (.slice none 0 0)) w) (⟨_,rfl,by rw[h0,List.length_eq_zero_iff.1 h0];exact World.ownsRow_nil _ _ _ _,aQ _ _⟩)
  rw[h0]
  generalize Lists w l=T at *
  clear bH hl
  go_enter func5,ntmps5
  go_wp2_with fail
  exact F.out
 have hnews:Hid (∀j u,(l.map (Value.int .i64))[j]?=some u→w.cell? (a.add j)=some u):=by
  intro j u h
  have hj:j<l.length:=by
   by_cases hj:j<l.length
   ·exact hj
   rw[List.getElem?_eq_none (by simp;omega)]at h;cases h
  obtain⟨a',e,hv⟩:=bH gA
  cases e
  rw[hv j hj]
  simpa [aC,List.getD,hj] using h
 have hone:Hid (∀u∈l.map (Value.int .i64),u.oneCell'=true):=by
  intro u hu
  obtain⟨x,_,rfl⟩:=List.mem_map.1 hu
  rfl
 have h_:=Zs (∀v' w1,w1.ownsRow w.heap.size 3 1 v' l.length (l.map (Value.int .i64))→w.grownBy w1 none→Lists w l (.returned v') w1) (fun v' w1 h1 h2=>⟨v',rfl,h1,h2⟩)
 clear bH
 generalize Lists w l=T at *
 go_enter func5,ntmps5
 go_wp2_with (at_builtin;refine wpList_append_own _ rfl _ _ 32 rfl w.heap.size 3 i0 (.int .i64 0) 1 8 underlying32 hi hz0 hz1 hz2 rfl (by decide) _ 0 [] rfl (World.ownsRow_nil _ _ _ _) a l.length c (l.map (Value.int .i64)) rfl ?c1 hnews.out hone.out ?c2 ?c3 (Nat.le_refl _) ?_)
 case c1=>simp
 case c2=>unfold maxLen;omega
 case c3=>omega
 intro v' w1 h1 h2 h3
 have F:=Zd (h_.out v' w1 (by simpa using h1) h2)
 clear h1 h2 h3 hnews hone
 go_wp2_with fail
 exact F.out
theorem Np (va vb:Value)(a b:List Int)(w:World)(ha:aS w va a)(hb:aS w vb b)(la:a.length≤1000000000000000000)(lb:b.length≤1000000000000000000) :
 Calls prog 7 #[va,vb] w fun e w'=>e=.returned (.bool (decide (a=b)))∧∃n,w'=w.drewN n:=by
 have H:=Zd (Rq va vb a b w ha hb la lb)
 generalize decide (a=b)=d at *
 clear ha hb
 go_enter func7,ntmps7
 go_wp2_with fail
 refine H.out.mono ?_
 rintro e w1 ⟨rfl,n,rfl⟩
 go_wp2_with fail
 go_ret
 exact⟨rfl,n,rfl⟩


theorem adD {W:World}(t:TabA W 3 widq 8):uf W:=fun i hi=>by
 have e:∀i:Fin 8,widq.getD i.val 0=(wid i.val:Int):=by decide
 rw[t i hi]
 exact congrArg (fun z=>some (Value.int .i64 z)) (e ⟨i,hi⟩)
theorem aaT {W:World}(t:TabA W 5 gro 15):r_ W:=t
def Jw (w:World)(e:List Int)(s:Bool)(wr:World):Prop:=fU wr w.heap.size e s∧fU wr (w.heap.size+1) (ay 225) false∧w.grownBy wr none
theorem Jw.new (w:World)(e:List Int)(s:Bool):Jw w e s ((w.alloc (.cells (bK e s).toArray 31)).alloc (.cells (bK (ay 225) false).toArray 31)):=by
 refine⟨(fU.new w e s).aH (ak _ _ none),?_,aB (ak _ _ none) (ak _ _ none)⟩
 have:=fU.new (w.alloc (.cells (bK e s).toArray 31)) (ay 225) false
 simpa using this
theorem Jw.aH {w:World}{e:List Int}{s:Bool}{wr wr':World}(h:Jw w e s wr)(g:wr.grownBy wr' none):Jw w e s wr':=⟨h.1.aH g,h.2.1.aH g,aB h.2.2 g⟩
theorem Jw.own {w:World}{e:List Int}{s:Bool}{wr wr':World}{r:Option Nat}(h:Jw w e s wr)(g:wr.grownBy wr' r)(hr:∀x,r=some x→w.heap.size+1+1≤x):Jw w e s wr':=by
 rcases r with _|x
 ·exact h.aH g
 have:=hr x rfl
 exact⟨h.1.aJ g gA,h.2.1.aJ g gA,aG h.2.2 g gA⟩
theorem Jw.fin {w:World}{e:List Int}{s:Bool}{wr:World}(h:Jw w e s wr)(m:List Int)(t:Bool)(hm:m.length=225):fU (dQ wr (w.heap.size+1) 0 (bK m t)) (w.heap.size+1) m t∧w.grownBy (dQ wr (w.heap.size+1) 0 (bK m t)) none∧wr.grownBy (dQ wr (w.heap.size+1) 0 (bK m t)) (some (w.heap.size+1)):=by
 have:=h.2.1.fu (m:=m) (t:=t) (au 225) hm
 exact⟨this.1,aG h.2.2 this.2 gA,this.2⟩
def Gz (W:World)(bp bn bm:Nat)(p now m:List Int)(s:Bool)(wr:World):Prop:=W.grownBy wr none∧gN wr bp 49 p∧bO wr bn 26 now∧dA wr bm m s
theorem Gz.aH {W:World}{bp bn bm:Nat}{p now m:List Int}{s:Bool}{wr wr':World}(h:Gz W bp bn bm p now m s wr)(g:wr.grownBy wr' none):Gz W bp bn bm p now m s wr':=⟨aB h.1 g,h.2.1.aH g,h.2.2.1.aH g,h.2.2.2.aH g⟩
structure NB3 (W:World) (bp bn bm:Nat):Prop where
 a:W.heap.size≤bp
 b:bp<bn
 c:bn<bm
theorem Gz.aiY {W:World}{bp bn bm:Nat}{p now m:List Int}{s:Bool}{wr:World}(h:Gz W bp bn bm p now m s wr)(n:NB3 W bp bn bm)(k:Nat)(z:Int)(hk:k<p.length):Gz W bp bn bm (p.set k z) now m s (wr.setCell ⟨bp,k,none⟩ (.int .i64 z)):=by
 have:=n.b
 have:=n.c
 exact⟨aG h.1 (aF wr ⟨bp,k,none⟩ _) n.a,h.2.1.set k z hk,h.2.2.1.aJ (aF wr ⟨bp,k,none⟩ _) (by simp;omega),h.2.2.2.aJ (aF wr ⟨bp,k,none⟩ _) (by simp;omega)⟩
theorem Gz.ac_ {W:World}{bp bn bm:Nat}{p now m:List Int}{s:Bool}{wr:World}(h:Gz W bp bn bm p now m s wr)(n:NB3 W bp bn bm)(o:Nat)(M:List Int)(hl:o+M.length≤p.length):Gz W bp bn bm (jr p o M) now m s (dQ wr bp o (aO M)):=by
 have:=n.b
 have:=n.c
 have q:=h.2.1.put o M hl
 exact⟨aG h.1 q.2 n.a,q.1,h.2.2.1.aJ q.2 gA,h.2.2.2.aJ q.2 gA⟩
theorem Gz.mem {W:World}{bp bn bm:Nat}{p now m m':List Int}{s s':Bool}{wr wr':World}(h:Gz W bp bn bm p now m s wr)(n:NB3 W bp bn bm)(hb:dA wr' bm m' s')(g:wr.grownBy wr' (some bm)):Gz W bp bn bm p now m' s' wr':=by
 have:=n.a
 have:=n.b
 have:=n.c
 exact⟨aG h.1 g gA,h.2.1.aJ g gA,h.2.2.1.aJ g gA,hb⟩
theorem Gz.allM {W:World}{bp bn bm:Nat}{p now m:List Int}{s:Bool}{wr:World}(h:Gz W bp bn bm p now m s wr)(n:NB3 W bp bn bm)(m':List Int)(s':Bool)(hm:m.length=101)(hm':m'.length=101):Gz W bp bn bm p now m' s' (dQ wr bm 0 (aU m' s'))∧wr.grownBy (dQ wr bm 0 (aU m' s')) (some bm):=by
 have q:=h.2.2.2.fu (m:=m') (t:=s') hm hm'
 exact⟨h.mem n q.1 q.2,q.2⟩
theorem Gz.alc {W:World}{bp bn bm:Nat}{p now m:List Int}{s:Bool}{wr:World}(h:Gz W bp bn bm p now m s wr)(n:NB3 W bp bn bm)(o:Nat)(M:List Int)(hl:o+M.length≤m.length):Gz W bp bn bm p now (jr m o M) s (dQ wr bm o (aO M))∧wr.grownBy (dQ wr bm o (aO M)) (some bm):=by
 have q:=h.2.2.2.put o M hl
 exact⟨h.mem n q.1 q.2,q.2⟩
def nC (P:List Int)(U:Nat→List Int):Nat→List Int
 | 0=>P
 | k+1=>jr (nC P U k) (9+8*k) (U k)
theorem rC (P:List Int)(U:Nat→List Int):∀k,(nC P U k).length=P.length
 | 0=>rfl
 | k+1=>by show(jr _ _ _).length=_;rw[eG];exact rC P U k
theorem Ab {P:List Int}(U:Nat→List Int)(hP:P.length=25)(i:Nat)(hi:i<9):∀k,aC (nC P U k) i=aC P i
 | 0=>rfl
 | k+1=>by
  show aC (jr _ _ _) i=_
  rw[gD _ _ _ _ (by rw[rC,hP];omega),if_neg gA]
  exact Ab U hP i hi k
theorem Rt {P:List Int}(U:Nat→List Int)(hP:P.length=25)(k:Nat)(hk:k<2)(hU:(U k).length=8):bP (nC P U (k+1)) (9+8*k) 8=U k:=by
 refine(dJ hU (fun i hi=>?_)).symm
 show aC (U k) i=aC (jr _ _ _) _
 rw[gD _ _ _ _ (by rw[rC,hP];omega),if_pos gA,Nat.add_sub_cancel_left]
theorem Ru {P q:List Int}(U:Nat→List Int)(kd:Int)(hP:P.length=25)(h0:aC P 0=kd)(hq:q.length=8)(h1:∀i,i<8→aC P (1+i)=aC q i)(u0:(U 0).length=8)(u1:(U 1).length=8):nC P U 2=kd::(q++(U 0++U 1)):=by
 have l:(nC P U 2).length=25:=by rw[rC,hP]
 have e:(kd::(q++(U 0++U 1))).length=25:=by simp[hq,u0,u1]
 rw[dJ l (fun i _=>rfl:∀i,i<25→aC (nC P U 2) i=(fun i=>aC (nC P U 2) i) i),dJ e (fun i _=>rfl:∀i,i<25→aC (kd::(q++(U 0++U 1))) i=(fun i=>aC (kd::(q++(U 0++U 1))) i) i)]
 refine ow 25 _ _ (fun i hi=>?_)
 show aC (nC P U 2) i=aC (kd::(q++(U 0++U 1))) i
 by_cases h9:i<9
 ·rw[Ab U hP i h9 2]
  by_cases e0:i=0
  ·subst e0;exact h0
  obtain⟨j,rfl⟩:∃j,i=1+j:=⟨i-1,gA⟩
  rw[h1 j gA,Nat.add_comm]
  exact(jf q _ j gA).symm
 have r:aC (kd::(q++(U 0++U 1))) i=aC (U 0++U 1) (i-9):=by
  obtain⟨j,rfl⟩:∃j,i=(8+j)+1:=⟨i-9,gA⟩
  show aC (q++(U 0++U 1)) (8+j)=_
  rw[iw _ _ _ gA,hq]
  (congr 1<;>omega)
 rw[r]
 show aC (jr (nC P U 1) 17 (U 1)) i=_
 rw[gD _ _ _ _ (by rw[rC,hP];omega),u1]
 by_cases h17:17≤i∧i<17+8
 ·rw[if_pos h17,iw _ _ _ gA,u0]
  (congr 1<;>omega)
 rw[if_neg h17,jf _ _ _ gA]
 show aC (jr P 9 (U 0)) i=_
 rw[gD _ _ _ _ gA,u0,if_pos gA]
def Rv (q:List Int):List Int:=jr (ay 25) 1 q
theorem nX (q:List Int):(Rv q).length=25:=by unfold Rv;rw[eG,au]
theorem DZ {q:List Int}(hq:q.length=8)(i:Nat)(hi:i<25):aC (Rv q) i=if 1≤i∧i<9 then aC q (i-1)else 0:=by
 unfold Rv
 rw[gD _ _ _ _ (by rw[au];exact hi),hq,iZ]
theorem adE {q:List Int}(hq:q.length=8):bP (Rv q) 1 8=q:=by
 refine(dJ hq (fun i hi=>?_)).symm
 rw[DZ hq _ gA,if_pos gA,Nat.add_sub_cancel_left]
theorem afU {q:List Int}(hq:q.length=8):(Rv q).set 0 2=2::(q++ay 16):=by
 have l:((Rv q).set 0 2).length=25:=by rw[List.length_set,nX]
 have e:((2:Int)::(q++ay 16)).length=25:=by simp[hq,au]
 rw[dJ l (fun i _=>rfl:∀i,i<25→aC ((Rv q).set 0 2) i=(fun i=>aC ((Rv q).set 0 2) i) i),dJ e (fun i _=>rfl:∀i,i<25→aC ((2:Int)::(q++ay 16)) i=(fun i=>aC ((2:Int)::(q++ay 16)) i) i)]
 refine ow 25 _ _ (fun i hi=>?_)
 show aC ((Rv q).set 0 2) i=aC ((2:Int)::(q++ay 16)) i
 rw[qm _ _ _ (by rw[nX];omega)]
 by_cases e0:i=0
 ·subst e0;rfl
 rw[if_neg e0,DZ hq i hi]
 obtain⟨j,rfl⟩:∃j,i=j+1:=⟨i-1,gA⟩
 show _=aC (q++ay 16) j
 by_cases h8:j<8
 ·rw[if_pos gA,jf _ _ _ gA,Nat.add_sub_cancel]
 rw[if_neg gA,iw _ _ _ gA,iZ]
theorem nY {w:World}{v:Value}{l:List Int}(h:aS w v l)(hl:0<l.length):∃a c,v=.slice (some a) l.length c:=by
 obtain⟨ad,c,rfl,_,h2⟩:=h
 obtain⟨a,rfl,_⟩:=h2 hl
 exact⟨a,c,rfl⟩
theorem afV (l:List Int)(k:Nat)(h:40*k+40≤l.length):WE l (40*k) (40*k+40)=bP l (40*k) 40:=by
 refine dJ (by rw[Rs _ _ _ h];omega) (fun i hi=>?_)
 unfold WE aC List.getD
 rw[List.getElem?_drop,List.getElem?_take,if_pos gA]
theorem jZ {e l:List Int}(r:Bool)(h:¬q9 e l):nQ e l r=ay 225∧oC e l r=false∧oD e l r=[]∧nR e l r=[]:=⟨if_neg h,if_neg h,if_neg h,if_neg h⟩
theorem oK {e l:List Int}(r:Bool)(h:q9 e l):nQ e l r=vG e l++(lT e l++oW (fF e) (n_ e l r))∧oC e l r=oV (n_ e l r)∧oD e l r=Cg (n_ e l r)∧nR e l r=sK (fF e) (n_ e l r)∧je e l=0:=⟨if_pos h,if_pos h,if_pos h,if_pos h,by unfold je;rw[if_pos h.1,if_pos h]⟩
theorem xM {e l:List Int}(h:¬q9 e l)(hl:l.length=80):je e l=2:=by unfold je;rw[if_pos hl,if_neg h]
end Go.Proofs.YtbaccaipcimlhaaGreatDoor
