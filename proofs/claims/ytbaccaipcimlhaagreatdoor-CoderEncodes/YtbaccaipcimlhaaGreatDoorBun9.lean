/- Texts put together: RefPik, RefPulB, RefCho, RefLev, RefEnS, RefEnV, RefEnc, RefBeg, LCdN. -/
import Derived.Test.YtbaccaipcimlhaaGreatDoorBun8
import Derived.Test.YtbaccaipcimlhaaGreatDoorBun4
import Derived.Test.YtbaccaipcimlhaaGreatDoorBun2
import Derived.BigQuiet
import Derived.Deep.QuietTactic
import Derived.Test.YtbaccaipcimlhaaGreatDoorBun1
import Derived.Test.YtbaccaipcimlhaaGreatDoorBun3
import Derived.Test.YtbaccaipcimlhaaGreatDoorBun6
import Derived.Test.YtbaccaipcimlhaaGreatDoorBun5
import Derived.Deep.Cut
import Derived.Test.YtbaccaipcimlhaaGreatDoorBun7
namespace Go.Proofs.YtbaccaipcimlhaaGreatDoor
open Go.RowKit
open Tryz
set_option linter.unusedSimpArgs false
set_option linter.unusedVariables false
set_option maxHeartbeats 4000000
set_option maxRecDepth 100000
theorem Om (h t:List Int)(vf vt:Value)(w:World)(ht:aS w vt t)(tb:t.length≤1000000000000000000)(vI:¬t.length=40) :
 Calls prog 70 #[.agg (aD h),vf,vt] w fun e w'=>e=.returned (.tuple #[.int .i64 0,.int .i64 0,.int .i64 0,.int .i64 1])∧w.grownBy w' none:=by
 have G0:=Zd (ak w (.cells (aD h) 27) none)
 obtain⟨ad,c,rfl,hc,_⟩:=ht
 have hb:¬(t.length:Int)=40:=gA
 clear vI
 go_enter func70,ntmps70
 go_wp2_with fail
 (try simp only[Exit.inBlock,Exit.then])
 refine bodyPost_ret (iF rfl _ _ _) rfl ?_
 exact⟨rfl,G0.out⟩
theorem JU (h t:List Int)(hh:h.length=80)(n:Nat)(iN:Array Value)(vt:Value)(w:World)(ht:aS w vt t)(vI:t.length=40)(hr:(aL t&&aL h)=false) :
 Calls prog 70 #[.agg (aD h),.func (.func n) #[] iN,vt] w fun e w'=>e=.returned (.tuple #[.int .i64 0,.int .i64 0,.int .i64 0,.int .i64 2])∧w.grownBy w' none:=by
 have G0:=Zd (ak w (.cells (aD h) 27) none)
 have B0:=Zd (bO.new w 27 h)
 have RT:=Zd (bM vt t _ (aP ht G0.out) gA)
 have RH:=Zd (bM (.slice (some ⟨w.heap.size,0,none⟩) 80 80) h _ (by
  have:=(B0.out)
  refine⟨some ⟨w.heap.size,0,none⟩,80,by rw[hh],gA,fun _=>⟨_,rfl,fun i hi=>?_⟩⟩
  rw[Addr.add_mid,Nat.zero_add]
  exact this.cell i hi) gA)
 obtain⟨ad,c,rfl,hc,_⟩:=ht
 rw[vI]at RT ⊢
 have hnf:=zL (.func n) #[] iN
 clear vI hc
 rcases r1:aL t with _|_
 ·rw[r1]at RT
  clear r1 hr
  go_enter func70,ntmps70
  go_wp2_with fail
  refine RT.out.mono ?_
  rintro e w1 ⟨rfl,rfl⟩
  go_wp2_with fail
  (try simp only[Exit.inBlock,Exit.then])
  refine bodyPost_ret (iF rfl _ _ _) rfl ?_
  exact⟨rfl,G0.out⟩
 have r2:aL h=false:=by rw[r1]at hr;simpa using hr
 rw[r1]at RT
 rw[r2]at RH
 clear r1 r2 hr
 go_enter func70,ntmps70
 go_wp2_with fail
 refine RT.out.mono ?_
 rintro e w1 ⟨rfl,rfl⟩
 go_wp2_with fail
 refine RH.out.mono ?_
 rintro e w1 ⟨rfl,rfl⟩
 go_wp2_with fail
 (try simp only[Exit.inBlock,Exit.then])
 refine bodyPost_ret (iF rfl _ _ _) rfl ?_
 exact⟨rfl,G0.out⟩
def abu (w wr:World)(h:List Int)(b:Nat)(p:Nat×Int×Int):Prop:=bO wr w.heap.size 27 h∧bO wr b 146 [(p.1:Int),p.2.1,p.2.2]∧w.heap.size<b∧w.grownBy wr none
theorem abu.aH {w wr wr':World}{h:List Int}{b:Nat}{p:Nat×Int×Int}(x:abu w wr h b p)(g:wr.grownBy wr' none):abu w wr' h b p:=⟨x.1.aH g,x.2.1.aH g,x.2.2.1,aB x.2.2.2 g⟩
theorem TY (h t:List Int)(hh:h.length=80)(n:Nat)(iN:Array Value)(F:List Int→List Int)(vt:Value)(w:World)(hen:∀args u,(callFunc n args).run prog u=.ok (.enter n args) u)(HF:Folds w n iN F)(ht:aS w vt t)(vI:t.length=40)(r1:aL t=true)(r2:aL h=true) :
 Calls prog 70 #[.agg (aD h),.func (.func n) #[] iN,vt] w fun e w'=>e=.returned (if jT F h=true then vX (jy (mD t F h) (mE F h) 60)else .tuple #[.int .i64 0,.int .i64 0,.int .i64 0,.int .i64 1])∧w.grownBy w' none:=by
 generalize hRV:(if jT F h=true then vX (jy (mD t F h) (mE F h) 60)else .tuple #[.int .i64 0,.int .i64 0,.int .i64 0,.int .i64 1])=RV
 have HRV:=Zd hRV
 clear hRV
 have G0:=Zd (ak w (.cells (aD h) 27) none)
 have B0:=Zd (bO.new w 27 h)
 have HT:=Zd ht
 have RT:=Zd (bM vt t _ (aP ht G0.out) gA)
 have RH:=Zd (bM (.slice (some ⟨w.heap.size,0,none⟩) 80 80) h _ (by
  have:=(B0.out)
  refine⟨some ⟨w.heap.size,0,none⟩,80,by rw[hh],gA,fun _=>⟨_,rfl,fun i hi=>?_⟩⟩
  rw[Addr.add_mid,Nat.zero_add]
  exact this.cell i hi) gA)
 rw[r1]at RT
 rw[r2]at RH
 have M0:=Zs (abu w ((w.alloc (.cells (aD h) 27)).alloc (.cells (aD [20,0,0]) 146)) h (w.heap.size+1) (20,0,0)) (⟨B0.out.aH (ak _ _ none),bO.new1 w _ 146 [20,0,0],gA,aB G0.out (ak _ _ none)⟩)
 have FO:=Zd HF
 have PAS:=Zd (wP h hh)
 have PR:=Zd (fun k=>uL h k r2)
 have RR:=Zd r1
 have BD:=Zd (UR (mD t F h) (mE F h) 42949672960 gA (Vk t F h) (Vl F h))
 have LG:=Zd (Lv (mD t F h) (mE F h))
 obtain⟨ad,c,rfl,hc,_⟩:=ht
 rw[vI]at RT HT ⊢
 have hnf:=zL (.func n) #[] iN
 clear hc r1 r2 HF
 go_enter func70,ntmps70
 go_wp2_with fail
 refine RT.out.mono ?_
 rintro e w1 ⟨rfl,rfl⟩
 go_wp2_with fail
 refine RH.out.mono ?_
 rintro e w1 ⟨rfl,rfl⟩
 clear RT RH
 go_wp2_with fail
 clear hnf
 rw[show aD [20,0,0]=#[.int .i64 20,.int .i64 0,.int .i64 0]from rfl]at M0
 generalize (w.alloc (.cells (aD h) 27)).alloc _=W0 at *
 generalize hbb:w.heap.size+1=bb at *
 clear hbb
 go_loopw [11] (fun i wr=>∃k m:Nat,i=.int .i64 k∧Hid (k=20+m)∧20≤k∧k≤80∧Hid (∀j,j<m→jl (F (jV h (20+j)))=true)∧Hid (abu w wr h bb (jy (mD t F h) (mE F h) m))) (fun i _=>80-(intOf i).toNat)
 case atStart=>exact⟨20,0,rfl,rfl,gA,gA,fun j hj=>gA,M0.out⟩
 case round=>
  obtain⟨k,m,rfl,hkm,hk1,hk2,hGd,hM⟩:=hrel
  clear M0
  by_cases hk:k<80
  ·obtain⟨e1,e2⟩:=qO h k hk1 gA
   have P1:=Zd (PAS.out k wr)
   rw[e1,e2]at P1
   have BH:=Zd hM.out.1
   have ahY:m<60:=by have:=hkm.out;omega
   have i1:(k:Int)<80:=gA
   obtain⟨q1,q2,q3,q4⟩:=BD.out m
   have BAD:=Zd (fun(hb:jl (F (jV h k))=false)=>Vm F h m ahY (by rw[←hkm.out];exact hb))
   have GOOD:=Zd (fun(hb:jl (F (jV h k))=true)=>(show ∀j,j<m+1→jl (F (jV h (20+j)))=true from fun j hj=>by
    by_cases hj':j=m
    ·subst hj';rw[←hkm.out];exact hb
    exact hGd.out j gA))
   have NY:=Zd (fun h1=>Dv (mD t F h) (mE F h) m h1)
   have NN:=Zd (fun h1=>Lu (mD t F h) (mE F h) m h1)
   rw[←hkm.out]at NY NN
   have EC:=Zd (fun(hb:jl (F (jV h k))=true)=>(show mD t F h k=fE t (F (jV h k)) 40 by unfold mD;rw[RR.out,hb];rfl))
   have EE:=Zd (fun(hb:jl (F (jV h k))=true)=>(show mE F h k=fE (F (jV h k)) (F (jV h k)) 40 by unfold mE;rw[if_pos hb]))
   have PRk:=Zd (PR.out k)
   clear e1 e2 hGd
   go_wp2_with (first|refine lA BH.out (by rw[hh];exact aif) ?_)
   refine P1.out.mono ?_
   rintro e w2 ⟨v2,rfl,o2,g2⟩
   have F1:=Zd (FO.out w2 v2 (jV h k) (aB hM.out.2.2.2 g2) o2.ints o2.Iy (kW h k) PRk.out)
   have M2:=Zd (hM.out.aH g2)
   clear o2 g2 hM P1
   generalize mD t F h k=C at *
   generalize mE F h k=E at *
   generalize F (jV h k)=f at *
   go_wp2_with fail
   refine F1.out.mono ?_
   rintro e w3 ⟨v3,rfl,i3,b3,g3⟩
   have I3:=Zd i3
   have M3:=Zd (M2.out.aH g3)
   clear g3 F1
   obtain⟨ad3,c3,rfl,hc3,hv3⟩:=i3
   clear hv3 hen
   by_cases hlen:f.length=40
   ·rw[hlen]at I3 ⊢
    have RF:=Zd (bM _ f w3 I3.out gA)
    rcases hr:aL f with _|_
    ·rw[hr]at RF
     have AG:=Zd (BAD.out (by unfold jl;rw[hr];simp))
     have GF:=Zd M3.out.2.2.2
     clear hr
     go_wp2_with fail
     refine RF.out.mono ?_
     rintro e w4 ⟨rfl,rfl⟩
     clear RF
     go_wp2_with fail
     (try simp only[Exit.inBlock,Exit.then])
     refine bodyPost_ret (iF rfl _ _ _) rfl ?_
     exact⟨by rw[←HRV.out,AG.out];rfl,GF.out⟩
    rw[hr]at RF
    have gd:jl f=true:=by unfold jl;rw[hr];simp[hlen]
    have GD:=Zd (GOOD.out gd)
    have EC':=Zd (EC.out gd)
    have EE':=Zd (EE.out gd)
    have D1:=Zd (xO _ _ t f w3 (aP HT.out M3.out.2.2.2) I3.out gA gA RR.out hr)
    have D2:=Zd (fun wx (g:w3.grownBy wx none)=>xO _ _ f f wx (aP I3.out g) (aP I3.out g) gA gA hr hr)
    rw[vI,←EC'.out]at D1
    rw[hlen,←EE'.out]at D2
    have cB:C≤42949672960:=by rw[EC'.out];have:=mq t f RR.out hr 40;omega
    have cA:-42949672960≤C:=by rw[EC'.out];have:=mq t f RR.out hr 40;omega
    have eB:E≤42949672960:=by rw[EE'.out];have:=mq f f hr hr 40;omega
    have eA:0≤E:=by rw[EE'.out];exact AX f 40
    clear hr gd
    go_wp2_with fail
    refine RF.out.mono ?_
    rintro e w4 ⟨rfl,rfl⟩
    clear RF
    go_wp2_with fail
    refine D1.out.mono ?_
    rintro e w5 ⟨rfl,g5⟩
    have M5:=Zd (M3.out.aH g5)
    have D2':=Zd (D2.out w5 g5)
    clear g5 D1
    go_wp2_with fail
    refine D2'.out.mono ?_
    rintro e w6 ⟨rfl,g6⟩
    have M6:=Zd (M5.out.aH g6)
    clear g6 D2'
    have c1:=M6.out.2.1.cell 1 (by simp)
    have c2:=M6.out.2.1.cell 2 (by simp)
    rw[show aC [((jy (mD t F h) (mE F h) m).1:Int),(jy (mD t F h) (mE F h) m).2.1,(jy (mD t F h) (mE F h) m).2.2] 1=(jy (mD t F h) (mE F h) m).2.1 from rfl]at c1
    rw[show aC [((jy (mD t F h) (mE F h) m).1:Int),(jy (mD t F h) (mE F h) m).2.1,(jy (mD t F h) (mE F h) m).2.2] 2=(jy (mD t F h) (mE F h) m).2.2 from rfl]at c2
    have WW:=Zd (yx C E (jy (mD t F h) (mE F h) m).2.1 (jy (mD t F h) (mE F h) m).2.2 gA gA gA gA w6)
    by_cases hC:0<C
    ·rcases hb:yF C E (jy (mD t F h) (mE F h) m).2.1 (jy (mD t F h) (mE F h) m).2.2 with _|_
     ·rw[hb]at WW
      have EN:=Zd (NN.out (fun hx=>by rw[hb]at hx;cases hx.2))
      clear hb
      generalize (jy (mD t F h) (mE F h) m).2.1=bc at *
      generalize (jy (mD t F h) (mE F h) m).2.2=be at *
      go_wp2_with fail
      refine WW.out.mono ?_
      rintro e w7 ⟨rfl,g7⟩
      have M7:=Zd (M6.out.aH g7)
      clear g7 WW c1 c2
      go_wp2_with fail
      go_roundw
      case rel=>exact⟨k+1,m+1,by go_num,by have:=hkm.out;show k+1=20+(m+1);omega,gA,gA,GD.out,by rw[EN.out];exact M7.out⟩
      case measure=>simp[intOf];omega
     rw[hb]at WW
     have EN:=Zd (NY.out ⟨hC,hb⟩)
     clear hb
     generalize jy (mD t F h) (mE F h) m=p3 at *
     obtain⟨bl,bc,be⟩:=p3
     dsimp only at c1 c2 q1 q2 q3 q4
     go_wp2_with fail
     refine WW.out.mono ?_
     rintro e w7 ⟨rfl,g7⟩
     have BH:=Zd (M6.out.1.aH g7)
     have BK:=Zd (M6.out.2.1.aH g7)
     have LT:=Zd M6.out.2.2.1
     have GM:=Zd (aB M6.out.2.2.2 g7)
     clear g7 WW c1 c2
     have x0:=BK.out.cell 0 (by simp)
     have x1:=BK.out.cell 1 (by simp)
     have x2:=BK.out.cell 2 (by simp)
     rw[show aC [(bl:Int),bc,be] 0=(bl:Int)from rfl]at x0
     rw[show aC [(bl:Int),bc,be] 1=bc from rfl]at x1
     rw[show aC [(bl:Int),bc,be] 2=be from rfl]at x2
     have y0:=BK.out.free 0
     have y1:=BK.out.free 1
     have y2:=BK.out.free 2
     have B8:=Zs (bO (((w7.setCell ⟨bb,0,none⟩ (.int .i64 (k:Int))).setCell ⟨bb,1,none⟩ (.int .i64 C)).setCell ⟨bb,2,none⟩ (.int .i64 E)) bb 146 [(k:Int),C,E]) (((BK.out.set 0 (k:Int)).set 1 C).set 2 E)
     have H8:=Zd (((BH.out.aJ (aF w7 ⟨bb,0,none⟩ (.int .i64 (k:Int))) (by have:=LT.out;simp;omega)).aJ (aF _ ⟨bb,1,none⟩ (.int .i64 C)) (by have:=LT.out;simp;omega)).aJ (aF _ ⟨bb,2,none⟩ (.int .i64 E)) (by have:=LT.out;simp;omega))
     have G8:=Zd (aG (aG (aG GM.out (aF w7 ⟨bb,0,none⟩ (.int .i64 (k:Int))) (by have:=LT.out;simp;omega)) (aF _ ⟨bb,1,none⟩ (.int .i64 C)) (by have:=LT.out;simp;omega)) (aF _ ⟨bb,2,none⟩ (.int .i64 E)) (by have:=LT.out;simp;omega))
     have M8:=Zs (abu w _ h bb (k,C,E)) (⟨H8.out,B8.out,LT.out,G8.out⟩)
     go_wp2_with fail
     go_roundw
     case rel=>exact⟨k+1,m+1,by go_num,by have:=hkm.out;show k+1=20+(m+1);omega,gA,gA,GD.out,by rw[EN.out];exact M8.out⟩
     case measure=>simp[intOf];omega
    have EN:=Zd (NN.out (fun hx=>absurd hx.1 hC))
    clear WW
    have hC':C≤0:=gA
    generalize (jy (mD t F h) (mE F h) m).2.1=bc at *
    generalize (jy (mD t F h) (mE F h) m).2.2=be at *
    go_wp2_with fail
    go_roundw
    case rel=>exact⟨k+1,m+1,by go_num,by have:=hkm.out;show k+1=20+(m+1);omega,gA,gA,GD.out,by rw[EN.out];exact M6.out⟩
    case measure=>simp[intOf];omega
   have hb:¬(f.length:Int)=40:=gA
   have AG:=Zd (BAD.out (by unfold jl;simp[hlen]))
   have GF:=Zd M3.out.2.2.2
   clear hlen
   go_wp2_with fail
   (try simp only[Exit.inBlock,Exit.then])
   refine bodyPost_ret (iF rfl _ _ _) rfl ?_
   exact⟨by rw[←HRV.out,AG.out];rfl,GF.out⟩
  obtain rfl:k=80:=gA
  obtain rfl:m=60:=by have:=hkm.out;omega
  have AG:=Zd (Ch F h hGd.out)
  have c0:=hM.out.2.1.cell 0 (by simp)
  have c1:=hM.out.2.1.cell 1 (by simp)
  have c2:=hM.out.2.1.cell 2 (by simp)
  have PV:=Zs (vX (jy (mD t F h) (mE F h) 60)=.tuple #[.int .i64 ((jy (mD t F h) (mE F h) 60).1:Int),.int .i64 (jy (mD t F h) (mE F h) 60).2.1,.int .i64 (jy (mD t F h) (mE F h) 60).2.2,.int .i64 0]) (rfl)
  rw[show aC [((jy (mD t F h) (mE F h) 60).1:Int),(jy (mD t F h) (mE F h) 60).2.1,(jy (mD t F h) (mE F h) 60).2.2] 0=((jy (mD t F h) (mE F h) 60).1:Int)from rfl]at c0
  rw[show aC [((jy (mD t F h) (mE F h) 60).1:Int),(jy (mD t F h) (mE F h) 60).2.1,(jy (mD t F h) (mE F h) 60).2.2] 1=(jy (mD t F h) (mE F h) 60).2.1 from rfl]at c1
  rw[show aC [((jy (mD t F h) (mE F h) 60).1:Int),(jy (mD t F h) (mE F h) 60).2.1,(jy (mD t F h) (mE F h) 60).2.2] 2=(jy (mD t F h) (mE F h) 60).2.2 from rfl]at c2
  have GF:=Zd hM.out.2.2.2
  clear hM hGd hen
  generalize (jy (mD t F h) (mE F h) 60).1=b0 at *
  generalize (jy (mD t F h) (mE F h) 60).2.1=b1 at *
  generalize (jy (mD t F h) (mE F h) 60).2.2=b2 at *
  rw[show((80:Nat):Int)=80 from rfl]
  go_wp2_with fail
  go_quiet (fail)
  go_wp2_with fail
  (try simp only[Exit.inBlock,Exit.then])
  refine bodyPost_ret (iF rfl _ _ _) rfl ?_
  exact⟨by rw[←HRV.out,AG.out,if_pos rfl,PV.out];rfl,aB GF.out (dR _ _ none)⟩
theorem T9 (h t:List Int)(hh:h.length=80)(n:Nat)(iN:Array Value)(F:List Int→List Int)(vt:Value)(w:World)(hen:∀args u,(callFunc n args).run prog u=.ok (.enter n args) u)(HF:Folds w n iN F)(ht:aS w vt t)(tb:t.length≤1000000000000000000) :
 Calls prog 70 #[.agg (aD h),.func (.func n) #[] iN,vt] w fun e w'=>e=.returned (pX h t F)∧w.grownBy w' none:=by
 by_cases vI:t.length=40
 ·rcases hr:(aL t&&aL h)with _|_
  ·rw[show pX h t F=.tuple #[.int .i64 0,.int .i64 0,.int .i64 0,.int .i64 2] by unfold pX;rw[if_pos vI,hr];rfl]
   exact JU h t hh n iN vt w ht vI hr
  rw[show pX h t F=if jT F h=true then vX (jy (mD t F h) (mE F h) 60)else .tuple #[.int .i64 0,.int .i64 0,.int .i64 0,.int .i64 1] by unfold pX;rw[if_pos vI,hr];rfl]
  simp only[Bool.and_eq_true]at hr
  exact TY h t hh n iN F vt w hen HF ht vI hr.1 hr.2
 rw[show pX h t F=.tuple #[.int .i64 0,.int .i64 0,.int .i64 0,.int .i64 1] by unfold pX;rw[if_neg vI]]
 exact Om h t _ vt w ht tb vI
theorem T_ (v:Value)(r:List Int)(n:Nat)(hn:n≤40)(w:World)(h:aS w v r)(hl:r.length=40)(iQ:jv r) :
 Calls prog 150 #[v,.int .i64 (n:Int)] w fun e w'=>e=.returned (.slice (some ⟨w.heap.size,0,none⟩) 40 40)∧bO w' w.heap.size 3 (late r n)∧w.grownBy w' none:=by
 have IV:=Zd (fun wr (g:w.grownBy wr none)=>aP h g)
 have M0:=Zs (bO (w.alloc (.cells (aD (ay 40)) 3)) w.heap.size 3 (ay 40)∧w.grownBy (w.alloc (.cells (aD (ay 40)) 3)) none) (⟨bO.new w 3 (ay 40),ak _ _ none⟩)
 obtain⟨ad,c,rfl,hc,_⟩:=h
 have HL:=Zd hl
 rw[hl]at IV ⊢
 have jg:=fZ 40 gA
 rw[show((40:Nat):Int)=40 from rfl]at jg
 have DY:=Zd iQ
 have NB:=Zd (fun i=>(show fD r n i=if n≤i then eU (aC r (i-n))else 0 from rfl))
 clear hc hl iQ
 go_enter func150,ntmps150
 go_wp2_with fail
 clear jg
 generalize w.alloc (.cells (aD (ay 40)) 3)=W0 at *
 go_loopw [10] (fun i wr=>∃(m:Nat) (rs:List Int),i=.int .i64 m∧m≤40∧Hid (H_ 40 (fD r n) m rs)∧Hid (bO wr w.heap.size 3 rs∧w.grownBy wr none)) (fun i _=>40-(intOf i).toNat)
 case atStart=>exact⟨0,ay 40,rfl,Nat.zero_le _,CQ 40 _,M0.out⟩
 case round=>
  obtain⟨m,rs,rfl,hm,hF,hM⟩:=hrel
  clear M0
  by_cases kP:m<40
  ·have i1:(m:Int)<40:=gA
   have hlen:rs.length=40:=hF.out.1.1
   by_cases hnm:n≤m
   ·have i2:(n:Int)≤m:=gA
    have iv:=IV.out wr hM.out.2
    obtain⟨Yr,c',e',h1,h2⟩:=iv
    simp only[Value.slice.injEq]at e'
    obtain⟨rfl,e2,rfl⟩:=e'
    obtain⟨a,rfl,h3⟩:=h2 (by rw[HL.out];omega)
    have cx:=h3 (m-n) (by rw[HL.out];omega)
    obtain⟨q1,q2⟩:=DY.out (m-n)
    have SS:=Zd (nU (aC r (m-n)) wr q1 q2)
    have EV:=NB.out m
    rw[if_pos hnm]at EV
    rw[←EV]at SS
    have NF:=Zd (Ia hF.out kP)
    have KM:=Zd (fun W (g:wr.grownBy W none)=>(show bO W w.heap.size 3 rs∧w.grownBy W none from⟨hM.out.1.aH g,aB hM.out.2 g⟩))
    have J1:(m:Int)-(n:Int)=((m-n:Nat):Int):=gA
    have i3:((m-n:Nat):Int)<40:=gA
    clear e2 h1 h2 h3 hF hM EV
    have HLEN:=Zd hlen
    clear hlen
    generalize fD r n m=z at *
    generalize aC r (m-n)=x at *
    generalize m-n=J at *
    go_wp2_with fail
    refine SS.out.mono ?_
    rintro e w1 ⟨rfl,g1⟩
    have M1:=Zd (KM.out w1 g1)
    have cd:=M1.out.1.cell m (by rw[HLEN.out];omega)
    have fd:=M1.out.1.free m
    have NM:=Zs (bO (w1.setCell ⟨w.heap.size,m,none⟩ (.int .i64 z)) w.heap.size 3 (rs.set m z)∧w.grownBy (w1.setCell ⟨w.heap.size,m,none⟩ (.int .i64 z)) none) (⟨M1.out.1.set m _,aG M1.out.2 (aF w1 ⟨w.heap.size,m,none⟩ _) (Nat.le_refl _)⟩)
    clear SS g1 cx
    generalize aC rs m=q at *
    go_wp2_with fail
    go_roundw
    case rel=>exact⟨m+1,_,by go_num,gA,NF.out,NM.out⟩
    case measure=>simp[intOf];omega
   have i2:¬(n:Int)≤m:=gA
   have NF:=Zd (Ib hF.out (by rw[NB.out m,if_neg hnm]))
   clear hF
   go_wp2_with fail
   go_roundw
   case rel=>exact⟨m+1,_,by go_num,gA,NF.out,hM.out⟩
   case measure=>simp[intOf];omega
  obtain rfl:m=40:=gA
  have EL:=Zs (rs=late r n) (fB hF.out.1)
  have GF:=Zd hM.out
  clear hF hM
  rw[show((40:Nat):Int)=40 from rfl]
  go_wp2_with fail
  go_ret
  rw[EL.out]at GF
  exact⟨rfl,GF.out.1,GF.out.2⟩
theorem Ua (r:List Int)(n:Nat):(late r n).length=40:=bQ _ _
theorem agv {w:World}{b:Nat}{L:List Int}(h:bO w b 3 L)(hl:L.length=40):aS w (.slice (some ⟨b,0,none⟩) 40 40) L:=by
 have:=tN h 40 gA
 rw[hl]at this
 exact this
theorem XH (t r:List Int):(¬(t.length=40∧r.length=40)∧Km t r=1∧Jb t r=[])∨((t.length=40∧r.length=40)∧aL t=false∧Km t r=2∧Jb t r=[])∨((t.length=40∧r.length=40)∧aL t=true∧aL r=false∧Km t r=2∧Jb t r=[])∨((t.length=40∧r.length=40)∧aL t=true∧aL r=true∧Km t r=0∧Jb t r=tgL t r):=by
 by_cases h:t.length=40∧r.length=40
 ·rcases ht:aL t with _|_
  ·exact .inr (.inl ⟨h,rfl,by unfold Km;rw[if_pos h,ht];rfl,by unfold Jb;rw[if_neg (by rw[ht];simp)]⟩)
  rcases hr:aL r with _|_
  ·exact .inr (.inr (.inl ⟨h,rfl,rfl,by unfold Km;rw[if_pos h,ht,hr];rfl,by unfold Jb;rw[if_neg (by rw[ht,hr];simp)]⟩))
  exact .inr (.inr (.inr ⟨h,rfl,rfl,by unfold Km;rw[if_pos h,ht,hr];rfl,by unfold Jb;rw[if_pos (by rw[ht,hr];exact⟨h.1,h.2,rfl⟩)]⟩))
 exact .inl ⟨h,if_neg h,by unfold Jb;rw[if_neg (fun x=>h ⟨x.1,x.2.1⟩)]⟩
theorem JV (vt vr:Value)(t r:List Int)(w:World)(ht:aS w vt t)(hr:aS w vr r)(hl:t.length≤1000000000000000000)(ni:r.length≤1000000000000000000)(iQ:jv r) :
 Calls prog 73 #[vt,vr] w (fO w (Jb t r) (Km t r)):=by
 rcases XH t r with⟨h,e1,e2⟩|⟨h,h1,e1,e2⟩|⟨h,h1,h2,e1,e2⟩|⟨h,h1,h2,e1,e2⟩
 ·rw[e1,e2]
  clear e1 e2
  obtain⟨at',ct,rfl,_,_⟩:=ht
  obtain⟨ar,cr,rfl,_,_⟩:=hr
  generalize t.length=nt at *
  generalize r.length=nr at *
  by_cases q1:nt=40
  ·have b2:((nr:Int) != 40)=true:=by simp;omega
   subst q1
   clear h
   go_enter func73,ntmps73
   go_wp2_with fail
   go_ret2
   exact⟨_,rfl,bZ _ _,aQ _ _⟩
  have b1:((nt:Int) != 40)=true:=by simp;omega
  clear h q1
  go_enter func73,ntmps73
  go_wp2_with fail
  go_ret2
  exact⟨_,rfl,bZ _ _,aQ _ _⟩
 ·rw[e1,e2]
  have ST:=Zd (bM vt t w ht hl)
  rw[h1]at ST
  clear e1 e2 h1
  obtain⟨at',ct,rfl,_,_⟩:=ht
  obtain⟨ar,cr,rfl,_,_⟩:=hr
  rw[h.1]at ST
  rw[h.1,h.2]
  clear h hl ni
  go_enter func73,ntmps73
  go_wp2_with fail
  refine ST.out.mono ?_
  rintro e w1 ⟨rfl,rfl⟩
  clear ST
  go_wp2_with fail
  go_ret2
  exact⟨_,rfl,bZ _ _,aQ _ _⟩
 ·rw[e1,e2]
  have ST:=Zd (bM vt t w ht hl)
  have SR:=Zd (bM vr r w hr ni)
  rw[h1]at ST
  rw[h2]at SR
  clear e1 e2 h1 h2
  obtain⟨at',ct,rfl,_,_⟩:=ht
  obtain⟨ar,cr,rfl,_,_⟩:=hr
  rw[h.1]at ST
  rw[h.2]at SR
  rw[h.1,h.2]
  clear h hl ni
  go_enter func73,ntmps73
  go_wp2_with fail
  refine ST.out.mono ?_
  rintro e w1 ⟨rfl,rfl⟩
  clear ST
  go_wp2_with fail
  refine SR.out.mono ?_
  rintro e w2 ⟨rfl,rfl⟩
  clear SR
  go_wp2_with fail
  go_ret2
  exact⟨_,rfl,bZ _ _,aQ _ _⟩
 rw[e1,e2]
 have ST:=Zd (bM vt t w ht hl)
 have SR:=Zd (bM vr r w hr ni)
 have LA:=Zd (fun(n:Nat) (hn:n≤40) W (g:w.grownBy W none)=>T_ vr r n hn W (aP hr g) h.2 iQ)
 have DT:=Zd (fun(n:Nat) W (b:Nat) (g:w.grownBy W none) (k:bO W b 3 (late r n))=>xO vt (.slice (some ⟨b,0,none⟩) 40 40) t (late r n) W (aP ht g) (agv k (Ua r n)) gA (by rw[Ua];omega) h1 (U6 r n))
 rw[h.1]at DT
 have ET:=Zd (fun n=>aeZ t r n)
 rw[h1]at ST
 rw[h2]at SR
 clear e1 e2 h1 h2
 obtain⟨at',ct,rfl,_,_⟩:=ht
 obtain⟨ar,cr,rfl,_,_⟩:=hr
 rw[h.1]at ST DT
 rw[h.2]at SR LA
 rw[h.1,h.2]
 clear h hl ni iQ
 go_enter func73,ntmps73
 go_wp2_with fail
 refine ST.out.mono ?_
 rintro e w1 ⟨rfl,rfl⟩
 clear ST
 go_wp2_with fail
 refine SR.out.mono ?_
 rintro e w2 ⟨rfl,rfl⟩
 clear SR
 go_wp2_with fail
 go_loopw [6,7] (fun vo i wr=>∃(m:Nat),i=.int .i64 m∧m≤40∧Hid (gP w2.heap.size wr vo (fM m (Kl t r)))∧Hid (w2.grownBy wr none)) (fun _ i _=>40-(intOf i).toNat)
 case atStart=>exact⟨0,rfl,Nat.zero_le _,bZ _ _,aQ _ _⟩
 case round=>
  obtain⟨m,rfl,hm,hO,hG⟩:=hrel
  by_cases kP:m<40
  ·have i1:(m:Int)<40:=gA
   have L1:=Zd (LA.out m hm wr hG.out)
   have ES:=Zs (fM (m+1) (Kl t r)=fM m (Kl t r)++[Kl t r m]) (by unfold fM;rw[List.range_succ];simp)
   have LN:=Zd (bQ m (Kl t r))
   go_wp2_with fail
   refine L1.out.mono ?_
   rintro e w3 ⟨rfl,k3,g3⟩
   have D1:=Zd (DT.out m w3 wr.heap.size (aB hG.out g3) k3)
   rw[ET.out]at D1
   have G3:=Zd (aB hG.out g3)
   have O3:=Zd (hO.out.aH g3)
   clear k3 g3 L1 hG hO
   generalize Kl t r m=z at *
   go_wp2_with fail
   refine D1.out.mono ?_
   rintro e w4 ⟨rfl,g4⟩
   have G4:=Zd (aB G3.out g4)
   have O4:=Zd (O3.out.aH g4)
   clear g4 D1
   have SZ:=Zs (w2.heap.size≤(w4.alloc (.cells #[.int .i64 z] 3)).heap.size) (Nat.le_trans G4.out.size (ak w4 (.cells #[.int .i64 z] 3) none).size)
   go_wp2_with (at_builtin;refine dF (by rfl) _ _ rfl w2.heap.size _ (.slice (some ⟨w4.heap.size,0,none⟩) 1 1) (fM m (Kl t r)) [z] rfl rfl (O4.out.aH (ak _ _ none)) (tL w4 z) (.inr ⟨_,_,rfl⟩) (by rw[LN.out];simp;omega) SZ.out ?_)
   intro v5 w5 h5 g5
   rw[←ES.out]at h5
   have O5:=Zd h5
   have ga:=ak w4 (.cells #[.int .i64 z] 3) none
   have hlt:∀b,u6.ownBlock=some b→w2.heap.size≤b:=fun b hb=>(O4.out.lt b hb).1
   have G5:=Zd (gU (aB G4.out ga) g5 hlt)
   clear h5 g5 ga hlt
   go_wp2_with fail
   go_roundw
   case rel=>exact⟨m+1,by go_num,gA,O5.out,G5.out⟩
   case measure=>simp[intOf];omega
  obtain rfl:m=40:=gA
  have OF:=hO
  have GF:=hG
  clear hO hG
  rw[show((40:Nat):Int)=40 from rfl]
  go_wp2_with fail
  go_ret2
  exact⟨_,rfl,OF.out,GF.out⟩
theorem XO:(prog.info? 46).map (·.size)=some 8:=by kernel_rfl
theorem z8u:aD (ay 8)=#[.int .i64 0,.int .i64 0,.int .i64 0,.int .i64 0,.int .i64 0,.int .i64 0,.int .i64 0,.int .i64 0]:=rfl
theorem Cc {w:World}{b:Nat}{l:List Int}(h:bO w b 3 l)(hl:l.length=40):aS w (.slice (some ⟨b,0,none⟩) 40 40) l:=by
 refine⟨some ⟨b,0,none⟩,40,by rw[hl],gA,fun _=>⟨_,rfl,fun i hi=>?_⟩⟩
 rw[Addr.add_mid,Nat.zero_add,h.cell i hi]
theorem alZ (U X:List Int)(s:Int)(hU:U.length=8)(hX:X.length=4):bP ((jr U 2 X).set 6 s) 2 4=X:=by
 refine(dJ hX (fun i hi=>?_)).symm
 rw[qm _ _ _ (by rw[eG,hU];omega),if_neg gA,gD _ _ _ _ (by rw[hU];omega),if_pos gA,show 2+i-2=i by omega]
theorem agA (X:List Int)(hX:X.length=4)(p g s l:Int):(((jr (((ay 8).set 0 p).set 1 g) 2 X).set 6 s).set 7 l)=[p,g,aC X 0,aC X 1,aC X 2,aC X 3,s,l]:=by
 match X,hX with
 | [a,b,c,d],_=>rfl
theorem aby (b:Nat)(vr:Value)(r:List Int)(v:Value)(l:List Int)(w:World)(hc:w.cell? ⟨b,0,none⟩=some vr)(hr:aS w vr r)(hl:aS w v l)(br:r.length≤1000000000000000000)(bl:l.length≤1000000000000000000) :
 Calls prog 68 #[v,.pointer (some ⟨b,0,none⟩)] w fun e w'=>∃v',e=.returned v'∧gP w.heap.size w' v' (Es r l)∧w.grownBy w' none:=by
 have F:=Zd (TQ vr v r l w hr hl br bl)
 obtain⟨ad,c,rfl,_,_⟩:=hr
 generalize Es r l=L at *
 generalize J_ r l=en at *
 clear hl
 go_enter func68,ntmps68
 go_wp2_with fail
 refine F.out.mono ?_
 rintro e w1 ⟨v1,rfl,o1,g1⟩
 have I:=Zd o1
 have G:=Zd g1
 clear o1 g1 F hc
 go_wp2_with fail
 go_ret
 exact⟨_,rfl,I.out,G.out⟩
theorem XQ (args:Array Value)(u:World):(callFunc 68 args).run prog u=.ok (.enter 68 args) u:=by kernel_rfl
def Im (m a x:List Int)(k:Nat)(rs:List Int):Prop:=rs.length=40∧(∀j,j<k→aC rs j=Vo m a x j)∧∀j,k≤j→aC rs j=aC (Fh m a x) j
theorem Ou (m a x:List Int):Im m a x 0 (Fh m a x):=⟨(sM m a x).1,fun j hj=>gA,fun j _=>rfl⟩
theorem Ug {m a x:List Int}{k:Nat}{rs:List Int}(h:Im m a x k rs)(hk:k<40):Im m a x (k+1) (rs.set k (Vo m a x k)):=by
 refine⟨by rw[List.length_set];exact h.1,fun j hj=>?_,fun j hj=>?_⟩
 ·rw[qm _ _ _ (by rw[h.1];exact hk)]
  by_cases e:j=k
  ·rw[if_pos e,e]
  rw[if_neg e];exact h.2.1 j gA
 rw[qm _ _ _ (by rw[h.1];exact hk),if_neg gA];exact h.2.2 j gA
theorem XU {m a x:List Int}{rs:List Int}(h:Im m a x 40 rs):rs=yL m a x:=dJ h.1 (fun i hi=>h.2.1 i hi)
def al0 (W0:World)(L:List Int)(s7:Value)(wx:World):Prop:=gP W0.heap.size wx s7 L∧W0.grownBy wx none
structure ChB (w W:World) (m a:List Int) (s:Bool) (br:Nat) (vr:Value):Prop where
 mem:dA W w.heap.size m s
 wU:bO W (w.heap.size+1) 58 a
 res:gN W (w.heap.size+1+1) 46 (ay 8)
 rng:W.cell? ⟨br,0,none⟩=some vr
 ring:aS W vr (om a)
 Uz:w.grownBy W none
theorem ChB.aH {w W W':World}{m a:List Int}{s:Bool}{br:Nat}{vr:Value}(h:ChB w W m a s br vr)(g:W.grownBy W' none):ChB w W' m a s br vr:=⟨h.mem.aH g,h.wU.aH g,h.res.aH g,bA g h.rng,aP h.ring g,aB h.Uz g⟩
def Zw (W:World)(bt bu:Nat)(t u:List Int)(wr:World):Prop:=W.grownBy wr none∧bO wr bt 3 t∧gN wr bu 46 u
theorem Zw.aH {W:World}{bt bu:Nat}{t u:List Int}{wr wr':World}(h:Zw W bt bu t u wr)(g:wr.grownBy wr' none):Zw W bt bu t u wr':=⟨aB h.1 g,h.2.1.aH g,h.2.2.aH g⟩
theorem Zw.al1 {W:World}{bt bu:Nat}{t u:List Int}{wr:World}(h:Zw W bt bu t u wr)(hw:W.heap.size≤bt)(hb:bu≠bt)(k:Nat)(z:Int):Zw W bt bu (t.set k z) u (wr.setCell ⟨bt,k,none⟩ (.int .i64 z)):=
 ⟨aG h.1 (aF wr ⟨bt,k,none⟩ _) hw,h.2.1.set k z,h.2.2.aJ (aF wr ⟨bt,k,none⟩ _) hb⟩
theorem Zw.Xb {W:World}{bt bu:Nat}{t u:List Int}{wr:World}(h:Zw W bt bu t u wr)(hw:W.heap.size≤bu)(hb:bt≠bu)(k:Nat)(z:Int)(hk:k<u.length):Zw W bt bu t (u.set k z) (wr.setCell ⟨bu,k,none⟩ (.int .i64 z)):=
 ⟨aG h.1 (aF wr ⟨bu,k,none⟩ _) hw,h.2.1.aJ (aF wr ⟨bu,k,none⟩ _) hb,h.2.2.set k z hk⟩
theorem Zw.ah3 {W:World}{bt bu:Nat}{t u:List Int}{wr:World}(h:Zw W bt bu t u wr)(hw:W.heap.size≤bu)(hb:bt≠bu)(o:Nat)(M:List Int)(hl:o+M.length≤u.length):Zw W bt bu t (jr u o M) (dQ wr bu o (aO M)):=by
 have:=h.2.2.put o M hl
 exact⟨aG h.1 this.2 hw,h.2.1.aJ this.2 hb,this.1⟩
theorem JX (w:World)(a1:Addr)(c1:Nat)(hS:Steps w a1 c1)(a2:Addr)(c2:Nat)(hG:wQ w a2 c2)(m:List Int)(s:Bool)(hm:m.length=101)(hg:cO m=true)(a:List Int)(hA:j6 a)(vx:Value)(x:List Int)(hx:aS w vx x)(xl:x.length=40)(xr:aL x=true) :
 Calls prog 24 #[dI m s,.agg (aD a),vx] w (jk w (.agg (aD (Qh m a x)))):=by
 have F:=Zs (∀w',w.grownBy w' none→jk w (.agg (aD (Qh m a x))) (.returned (.agg (aD (Qh m a x)))) w') (fun w' q=>⟨rfl,q⟩)
 have B0:=Zd (show dA (((w.alloc (.cells (aU m s).toArray 29)).alloc (.cells (aD a) 58)).alloc (.cells #[.int .i64 0,.int .i64 0,.int .i64 0,.int .i64 0,.int .i64 0,.int .i64 0,.int .i64 0,.int .i64 0] 46)) w.heap.size m s∧bO (((w.alloc (.cells (aU m s).toArray 29)).alloc (.cells (aD a) 58)).alloc (.cells #[.int .i64 0,.int .i64 0,.int .i64 0,.int .i64 0,.int .i64 0,.int .i64 0,.int .i64 0,.int .i64 0] 46)) (w.heap.size+1) 58 a∧gN (((w.alloc (.cells (aU m s).toArray 29)).alloc (.cells (aD a) 58)).alloc (.cells #[.int .i64 0,.int .i64 0,.int .i64 0,.int .i64 0,.int .i64 0,.int .i64 0,.int .i64 0,.int .i64 0] 46)) (w.heap.size+1+1) 46 (ay 8)∧w.grownBy (((w.alloc (.cells (aU m s).toArray 29)).alloc (.cells (aD a) 58)).alloc (.cells #[.int .i64 0,.int .i64 0,.int .i64 0,.int .i64 0,.int .i64 0,.int .i64 0,.int .i64 0,.int .i64 0] 46)) none from by
  refine⟨((dA.new w m s).aH (ak _ _ none)).aH (ak _ _ none),?_,?_,aB (aB (ak _ _ none) (ak _ _ none)) (ak _ _ none)⟩
  ·have:=(bO.new (w.alloc (.cells (aU m s).toArray 29)) 58 a).aH (ak _ (.cells #[.int .i64 0,.int .i64 0,.int .i64 0,.int .i64 0,.int .i64 0,.int .i64 0,.int .i64 0,.int .i64 0] 46) none)
   simpa using this
  have:=gN.new ((w.alloc (.cells (aU m s).toArray 29)).alloc (.cells (aD a) 58)) 46 (ay 8)
  rw[z8u]at this
  simpa using this)
 have HX:=Zd (fun wr (g:w.grownBy wr none)=>aP hx g)
 obtain⟨adx,cx',rfl,hcx,_⟩:=hx
 rw[xl]at HX hcx ⊢
 have XL:=Zd xl
 have XR:=Zd ((aV x).1 xr)
 have MK:=Zd (fun v wr (h:aS wr v (ay 40)) (sh:rR v (ay 40))=>pF a (bP m 8 8) hA.len (aR _ _ _) v (ay 40) wr h sh (by rw[au];omega))
 rw[show xQ a (bP m 8 8) (ay 40)=Vn m a from rfl]at MK
 have PZL:=Zd (rQ a (bP m 8 8) (ay 40))
 have NJ:=Zd (fun b=>show rR (.slice (some ⟨b,0,none⟩) 40 40) (ay 40)from .inr ⟨_,_,by rw[au]⟩)
 have RG:=Zd (fun wr=>TV a hA.len 40 wr)
 rw[show rgL a 40=om a from rfl]at RG
 have ZK:=Zd (Ms hg hA)
 have RK:=Zd (pQ hA)
 have TK:=Zd (sM m a x)
 have UK:=Zd (mQ m a x)
 have CF:=Zd (fun W br vr (h:ChB w W m a s br vr) v (l:List Int) (hl:aS W v l) (ll:l.length=40)=>aby br vr (om a) v l W h.rng h.ring hl (by rw[(pQ hA).1];omega) gA)
 have CFK:=Zd (fun(l:List Int) (ll:l.length=40) (lr:aL l=true)=>Bh hA ll lr)
 have PK:=Zd (fun W br vr (h:ChB w W m a s br vr) vt (it:aS W vt (Fh m a x))=>T9 (bP m 16 80) (Fh m a x) (aR _ _ _) 68 #[.pointer (some ⟨br,0,none⟩)] (chF a) vt W XQ (fun wx v l g il sl ll rl=>(CF.out wx br vr (h.aH g) v l il ll).mono (fun e w' ⟨v',e1,o,g'⟩=>⟨v',e1,o.ints,by rw[(Bh hA ll rl).1];omega,g'⟩)) it (by rw[(sM m a x).1];omega))
 rw[YF x hg hA]at PK
 have PB:=Dz m a x
 have PC:=Qj m a x
 have NE:=Zd (fun wr (g:w.grownBy wr none)=>Ie (vE m a x).2.1 (vE m a x).2.2 a2 c2 wr gA gA gA gA (lu hG g))
 rw[show Ym (vE m a x).2.1 (vE m a x).2.2=Fj m a x from rfl]at NE
 have PA:=Zd (fun wr=>wP (bP m 16 80) (aR _ _ _) ((vE m a x).1:Int) wr)
 have PAL:=Zs ((mJ (bP m 16 80) ((vE m a x).1:Int)).length=40) (by rw[(acy m a x).1];exact kW _ _)
 have PAV:=Zs (Es (om a) (mJ (bP m 16 80) ((vE m a x).1:Int))=OY m a x) (rfl)
 have VK:=Zd (Bn x hg hA)
 have TG:=Zd (fun vt vr wr (h1:aS wr vt (yL m a x)) (h2:aS wr vr (om a))=>JV vt vr (yL m a x) (om a) wr h1 h2 (by rw[(mQ m a x).1];omega) (by rw[(pQ hA).1];omega) (Ev (pQ hA).2.1))
 rw[show Jb (yL m a x) (om a)=Au m a x from rfl]at TG
 have DK:=Zd (Bo (m:=m) x hA)
 have FW:=Zd (fun vd vr wr (h1:aS wr vd (Au m a x)) (h2:aS wr vr (om a))=>XM vd vr (Au m a x) (om a) wr h1 h2 (by rw[(Bo (m:=m) x hA).2.2.1];omega) (by rw[(pQ hA).1];omega) (fun i=>by have:=ae0 (Bo (m:=m) x hA).2.2.2 i;omega))
 rw[show Fe (Au m a x) (om a) (kR (Au m a x) (om a))=oq m a x from rfl,show Jc (Au m a x) (om a) (kR (Au m a x) (om a))=vF m a x from rfl]at FW
 have XK:=Zd (yM (m:=m) x hA)
 have BU:=Zd (fun wr=>Al (oq m a x) (yM (m:=m) x hA).1 (vF m a x) 4096 wr)
 rw[show Vd (oq m a x) (vF m a x) 4096=chO m a x from rfl]at BU
 have OK:=Zd (Mt (m:=m) x hA)
 have KO:=Zs (Es (om a) (chO m a x)=tV m a x) (rfl)
 have KK:=Zd (jY (m:=m) x hA)
 have D1:=Zd (fun vt vf wr (h1:aS wr vt (yL m a x)) (h2:aS wr vf (tV m a x))=>xO vt vf (yL m a x) (tV m a x) wr h1 h2 (by rw[(mQ m a x).1];omega) (by rw[(mQ m a x).1,(jY (m:=m) x hA).1];omega) (mQ m a x).2 (jY (m:=m) x hA).2.1)
 rw[(mQ m a x).1]at D1
 have D2:=Zd (fun vf wr (h2:aS wr vf (tV m a x))=>xO vf vf (tV m a x) (tV m a x) wr h2 h2 (by rw[(jY (m:=m) x hA).1];omega) (Nat.le_refl _) (jY (m:=m) x hA).2.1 (jY (m:=m) x hA).2.1)
 rw[(jY (m:=m) x hA).1]at D2
 have DB1:=zM (yL m a x) (tV m a x) (mQ m a x).2 (jY (m:=m) x hA).2.1
 have DB2:=zM (tV m a x) (tV m a x) (jY (m:=m) x hA).2.1 (jY (m:=m) x hA).2.1
 have GO:=Zd (fun wr (g:w.grownBy wr none)=>Ih (4096*fE (yL m a x) (tV m a x) 40) (fE (tV m a x) (tV m a x) 40) a1 c1 wr (jR hS g) gA gA)
 rw[show Yg (4096*fE (yL m a x) (tV m a x) 40) (fE (tV m a x) (tV m a x) 40)=YE m a x from rfl]at GO
 have h_:=Zd (agA (oq m a x) XK.out.1 (((vE m a x).1:Int)-20) (Fj m a x) (vF m a x) (YE m a x))
 rw[show[((vE m a x).1:Int)-20,Fj m a x,aC (oq m a x) 0,aC (oq m a x) 1,aC (oq m a x) 2,aC (oq m a x) 3,vF m a x,YE m a x]=Qh m a x from rfl]at h_
 have GB:0≤Fj m a x∧Fj m a x≤7:=Vq _ _
 obtain⟨pn,hpn⟩:∃pn:Nat,Fj m a x=(pn:Int):=⟨(Fj m a x).toNat,gA⟩
 have GT:=Zd (fun wr (g:w.grownBy wr none)=>lu hG g)
 have UN:=Zd (fun k=>show eU (aC (Fh m a x) k-eU ((aC (OY m a x) k*iR pn+8192) / 16384))=Vo m a x k by
  unfold Vo Aq
  rw[if_pos GB,hpn,show((pn:Nat):Int).toNat=pn by omega])
 have GNB:=tK pn
 have LA:=Zd hA.len
 have CM:=Zd (aX hm s)
 have P8:=Zd (dA.part (l:=m) s 8 8 gA)
 have PX:=Zd (dA.part (l:=m) s 16 80 gA)
 have jg:=fZ 40 gA
 rw[show((40:Nat):Int)=40 from rfl]at jg
 rw[hpn]at NE h_
 have pn7:pn≤7:=gA
 have T0:=Zs (∀i,i<40→aC (Fh m a x) i=eU (aC x i-aC (Vn m a) i)) (fun i hi=>dN _ _ _ hi)
 have TF:=Zs (∀rs,jh 40 (fun i=>eU (aC x i-aC (Vn m a) i)) 40 rs→rs=Fh m a x) (fun rs h=>fB h)
 have TS:=Zd (gZ 40 (fun i=>eU (aC x i-aC (Vn m a) i)))
 have US:=Zd (Ou m a x)
 clear hS hG hm hg hA xl xr hpn GB
 generalize jk w (.agg (aD (Qh m a x)))=T at *
 unfold vX at PK
 generalize Qh m a x=CW at *
 generalize Du a (bP m 8 8) (ay 40)=PZ at *
 generalize I8 a (bP m 8 8) (ay 40)=en1 at *
 generalize rgE a 40=en2 at *
 generalize vE m a x=PP at *
 obtain⟨eH,pc,pe⟩:=PP
 simp only at PK NE PA PAL PAV PB PC h_ VK
 generalize AU (eH:Int)=en3 at *
 generalize mJ (bP m 16 80) (eH:Int)=PL at *
 generalize Vn m a=Z at *
 generalize Km (yL m a x) (om a)=en4 at *
 generalize vJ (Au m a x) (om a)=en5 at *
 generalize Ux (oq m a x) (vF m a x) 4096=en6 at *
 unfold dI at *
 go_enter func24,ntmps24
 go_upto_region 1 with fail
 generalize ((w.alloc (.cells (aU m s).toArray 29)).alloc (.cells (aD a) 58)).alloc (.cells #[.int .i64 0,.int .i64 0,.int .i64 0,.int .i64 0,.int .i64 0,.int .i64 0,.int .i64 0,.int .i64 0] 46)=W0 at *
 have BM:=Zd B0.out.1
 have BA:=Zd B0.out.2.1
 go_cut [7,8,9]from 29 (fun s7 s8 s9 wx=>al0 W0 Z s7 wx)
 case first=>
  refine wp_region_held_drew (S:=dM W0) (by kernel_rfl) (aZ _) (fun aj=>?_)
  refine bV (hy:=by intro w' bL;exact yA (BA.out.aH bL) (by rw[LA.out];exact dz)) (v:=.agg (aD a)) 0 aj ?_
  refine bV 1 aj ?_
  refine bV (hy:=by intro w' bL;exact dD rfl rfl (BM.out.aH bL) _ underlying26 rfl dV (by rw[CM.out];omega) _ P8.out) (v:=.agg (aO (bP m 8 8)).toArray) 2 aj ?_
  refine oL 3 9 (fun K hK=>?al2) fun K hK=>?al3
  case al2=>
   (try simp only[sZ])
   go_simp
   go_wp2_with fail
   refine hK.out _ _ (dX aj (.cells (aD (ay 40)) 3)) (fun aj=>?_)
   have OM:=Zs (bO ((W0.alloc (.cells (aD (ay 40)) 3)).drew) W0.heap.size 3 (ay 40)) (bO.new W0.drew 3 (ay 40))
   generalize (W0.alloc (.cells (aD (ay 40)) 3)).drew=Io at *
   (try simp only[sZ])
   refine oL 4 9 (fun K hK=>?al4) fun K hK=>?al5
   case al4=>
    (try simp only[sZ])
    go_simp
    refine(MK.out _ _ (Cc OM.out (au 40)) (NJ.out _)).mono ?_
    rintro e Uh ⟨vx',rfl,ox,akb⟩
    have akc:=Zd akb
    have OX:=Zd (ox.base (b':=W0.heap.size) (World.grownBy.size aj))
    clear akb ox
    go_wp2_with fail
    refine hK.out _ _ (bD aj akc.out) (fun aj=>?_)
    have OM:=Zd (OM.out.aH akc.out)
    (try simp only[sZ])
    refine bV 5 aj ?_
    refine bV 6 aj ?_
    refine bV 7 aj ?_
    refine bV 8 aj ?_
    refine fI 9 fun K hK=>?_
    (try simp only[sZ])
    go_simp
    go_wp2_with fail
    have HB:=Zs (W0.heap.size≤Uh.heap.size) (by first|exact Nat.le_refl _|exact World.grownBy.size aj)
    refine hK.out _ _ (dX aj (.cells #[.int .i64 0,.int .i64 0,.int .i64 0,.int .i64 0,.int .i64 0,.int .i64 0,.int .i64 0,.int .i64 0] 26)) (fun aj=>?_)
    have HZ:=Zs (bO (Uh.alloc (.cells #[.int .i64 0,.int .i64 0,.int .i64 0,.int .i64 0,.int .i64 0,.int .i64 0,.int .i64 0,.int .i64 0] 26)) Uh.heap.size 26 (ay 8)) (bO.new Uh 26 (ay 8))
    have OM:=Zd (OM.out.aH (ak Uh (.cells #[.int .i64 0,.int .i64 0,.int .i64 0,.int .i64 0,.int .i64 0,.int .i64 0,.int .i64 0,.int .i64 0] 26) none))
    have OX:=Zd (OX.out.aH (ak Uh (.cells #[.int .i64 0,.int .i64 0,.int .i64 0,.int .i64 0,.int .i64 0,.int .i64 0,.int .i64 0,.int .i64 0] 26) none))
    generalize Uh.alloc (.cells #[.int .i64 0,.int .i64 0,.int .i64 0,.int .i64 0,.int .i64 0,.int .i64 0,.int .i64 0,.int .i64 0] 26)=al6 at *
    (try simp only[sZ])
    refine bV 10 aj ?_
    refine fI 11 fun K hK=>?_
    (try simp only[sZ])
    refine dW rfl 26 _ _ rfl (Uh.heap.size) (ay 8) PZ rfl rfl HZ.out (by rw[PZL.out,au]) (by rw[au];exact aW) ?_
    have PU:=bB (rs':=PZ) HZ.out (by rw[PZL.out,au])
    refine hK.out _ _ (iV aj PU.2 HB.out) (fun aj=>?_)
    have OM:=Zd (OM.out)
    have OX:=Zd (OX.out.aJ PU.2 HZ.out (by decide))
    (try simp only[sZ])
    refine bV 12 aj ?_
    refine lM ?_
    go_wp2_with fail
    go_meet
    exact⟨OX.out,aj⟩
   case al5=>
    (try simp only[sZ])
    go_simp
    go_wp2_with fail
    have HB:=Zs (W0.heap.size≤Io.heap.size) (by first|exact Nat.le_refl _|exact World.grownBy.size aj)
    refine hK.out _ _ (dX aj (.cells #[.int .i64 0,.int .i64 0,.int .i64 0,.int .i64 0,.int .i64 0,.int .i64 0,.int .i64 0,.int .i64 0] 26)) (fun aj=>?_)
    have HZ:=Zs (bO (Io.alloc (.cells #[.int .i64 0,.int .i64 0,.int .i64 0,.int .i64 0,.int .i64 0,.int .i64 0,.int .i64 0,.int .i64 0] 26)) Io.heap.size 26 (ay 8)) (bO.new Io 26 (ay 8))
    have OM:=Zd (OM.out.aH (ak Io (.cells #[.int .i64 0,.int .i64 0,.int .i64 0,.int .i64 0,.int .i64 0,.int .i64 0,.int .i64 0,.int .i64 0] 26) none))
    generalize Io.alloc (.cells #[.int .i64 0,.int .i64 0,.int .i64 0,.int .i64 0,.int .i64 0,.int .i64 0,.int .i64 0,.int .i64 0] 26)=al7 at *
    (try simp only[sZ])
    refine fI 4 fun K hK=>?_
    (try simp only[sZ])
    go_simp
    refine(MK.out _ _ (Cc OM.out (au 40)) (NJ.out _)).mono ?_
    rintro e anp ⟨vx',rfl,ox,ahc⟩
    have aey:=Zd ahc
    have OX:=Zd (ox.base (b':=W0.heap.size) (World.grownBy.size aj))
    clear ahc ox
    go_wp2_with fail
    refine hK.out _ _ (bD aj aey.out) (fun aj=>?_)
    have HZ:=Zd (HZ.out.aH aey.out)
    have OM:=Zd (OM.out.aH aey.out)
    (try simp only[sZ])
    refine bV 5 aj ?_
    refine bV 6 aj ?_
    refine bV 7 aj ?_
    refine bV 8 aj ?_
    refine bV 10 aj ?_
    refine fI 11 fun K hK=>?_
    (try simp only[sZ])
    refine dW rfl 26 _ _ rfl (Io.heap.size) (ay 8) PZ rfl rfl HZ.out (by rw[PZL.out,au]) (by rw[au];exact aW) ?_
    have PU:=bB (rs':=PZ) HZ.out (by rw[PZL.out,au])
    refine hK.out _ _ (iV aj PU.2 HB.out) (fun aj=>?_)
    have OM:=Zd (OM.out)
    have OX:=Zd (OX.out.aJ PU.2 HZ.out (by decide))
    (try simp only[sZ])
    refine bV 12 aj ?_
    refine lM ?_
    go_wp2_with fail
    go_meet
    exact⟨OX.out,aj⟩
  case al3=>
   (try simp only[sZ])
   go_simp
   go_wp2_with fail
   have HB:=Zs (W0.heap.size≤W0.heap.size) (by first|exact Nat.le_refl _|exact World.grownBy.size aj)
   refine hK.out _ _ (dX aj (.cells #[.int .i64 0,.int .i64 0,.int .i64 0,.int .i64 0,.int .i64 0,.int .i64 0,.int .i64 0,.int .i64 0] 26)) (fun aj=>?_)
   have HZ:=Zs (bO ((W0.alloc (.cells #[.int .i64 0,.int .i64 0,.int .i64 0,.int .i64 0,.int .i64 0,.int .i64 0,.int .i64 0,.int .i64 0] 26)).drew) W0.heap.size 26 (ay 8)) (bO.new W0.drew 26 (ay 8))
   generalize (W0.alloc (.cells #[.int .i64 0,.int .i64 0,.int .i64 0,.int .i64 0,.int .i64 0,.int .i64 0,.int .i64 0,.int .i64 0] 26)).drew=Ip at *
   (try simp only[sZ])
   refine fI 3 fun K hK=>?_
   (try simp only[sZ])
   go_simp
   go_wp2_with fail
   refine hK.out _ _ (dX aj (.cells (aD (ay 40)) 3)) (fun aj=>?_)
   have OM:=Zs (bO (Ip.alloc (.cells (aD (ay 40)) 3)) Ip.heap.size 3 (ay 40)) (bO.new Ip 3 (ay 40))
   have HZ:=Zd (HZ.out.aH (ak Ip (.cells (aD (ay 40)) 3) none))
   generalize Ip.alloc (.cells (aD (ay 40)) 3)=al8 at *
   (try simp only[sZ])
   refine fI 4 fun K hK=>?_
   (try simp only[sZ])
   go_simp
   refine(MK.out _ _ (Cc OM.out (au 40)) (NJ.out _)).mono ?_
   rintro e anq ⟨vx',rfl,ox,ahd⟩
   have aez:=Zd ahd
   have OX:=Zd (ox.base (b':=W0.heap.size) (World.grownBy.size aj))
   clear ahd ox
   go_wp2_with fail
   refine hK.out _ _ (bD aj aez.out) (fun aj=>?_)
   have HZ:=Zd (HZ.out.aH aez.out)
   have OM:=Zd (OM.out.aH aez.out)
   (try simp only[sZ])
   refine bV 5 aj ?_
   refine bV 6 aj ?_
   refine bV 7 aj ?_
   refine bV 8 aj ?_
   refine bV 10 aj ?_
   refine fI 11 fun K hK=>?_
   (try simp only[sZ])
   refine dW rfl 26 _ _ rfl (W0.heap.size) (ay 8) PZ rfl rfl HZ.out (by rw[PZL.out,au]) (by rw[au];exact aW) ?_
   have PU:=bB (rs':=PZ) HZ.out (by rw[PZL.out,au])
   refine hK.out _ _ (iV aj PU.2 HB.out) (fun aj=>?_)
   have OM:=Zd (OM.out)
   have OX:=Zd (OX.out.aJ PU.2 HZ.out (by decide))
   (try simp only[sZ])
   refine bV 12 aj ?_
   refine lM ?_
   go_wp2_with fail
   go_meet
   exact⟨OX.out,aj⟩
 case rest=>
 obtain⟨o1,g1⟩:=hcut
 obtain⟨gz,cz',rfl,_,_,_⟩:=o1.form (by rw[ZK.out.1];omega)
 rw[ZK.out.1]at o1 ⊢
 have OZ:=Zd o1
 have B1:=Zs (dA wc w.heap.size m s∧bO wc (w.heap.size+1) 58 a∧gN wc (w.heap.size+1+1) 46 (ay 8)∧w.grownBy wc none) (⟨B0.out.1.aH g1,B0.out.2.1.aH g1,B0.out.2.2.1.aH g1,aB B0.out.2.2.2 g1⟩)
 clear o1 g1 MK PZL NJ
 go_wp2_with (first|refine lA B1.out.2.1 (by rw[LA.out];exact dz) ?_)
 refine(RG.out _).mono ?_
 rintro e W2 ⟨vr,rfl,o2,g2⟩
 have N2:=Zs (w.heap.size+1+1+1≤W2.heap.size) (by have:=(B1.out.2.2.1.aH g2).lt;omega)
 have BB:=Zd (show ChB w (W2.alloc (.cells #[vr] 32)) m a s W2.heap.size vr from by
  have g:=aB g2 (ak W2 (.cells #[vr] 32) none)
  exact⟨B1.out.1.aH g,B1.out.2.1.aH g,B1.out.2.2.1.aH g,by rw[aI (cK W2 (.cells #[vr] 32))];rfl,aP o2.ints (ak W2 _ none),aB B1.out.2.2.2 g⟩)
 have IZ:=Zd (aP OZ.out.ints (aB g2 (ak W2 (.cells #[vr] 32) none)))
 obtain⟨gr,cr',hvr,_,_,_⟩:=o2.form (by rw[RK.out.1];omega)
 rw[RK.out.1]at hvr
 subst hvr
 clear o2 g2 RG
 have N3:=Zs (W2.heap.size+1=(W2.alloc (.cells #[.slice (some ⟨gr,0,none⟩) 40 cr'] 32)).heap.size) (by simp)
 go_upto_region 3 with fail
 generalize W2.alloc (.cells #[.slice (some ⟨gr,0,none⟩) 40 cr'] 32)=W3 at *
 generalize W2.heap.size=br at *
 have BT0:=Zs (bO (W3.alloc (.cells (aD (ay 40)) 3)) W3.heap.size 3 (ay 40)∧W3.grownBy (W3.alloc (.cells (aD (ay 40)) 3)) none) (⟨bO.new W3 3 (ay 40),ak _ _ none⟩)
 go_upto_region 5 with fail
 clear jg
 generalize W3.alloc (.cells (aD (ay 40)) 3)=W4 at *
 generalize hbt:W3.heap.size=bt at BT0 ⊢
 have NT:=Zs (W3.heap.size≤bt) gA
 clear hbt
 go_wp2_with fail
 go_loopw [47] (fun i wr=>∃(k:Nat) (rs:List Int),i=.int .i64 (k:Int)∧k≤40∧Hid (jh 40 (fun i=>eU (aC x i-aC Z i)) k rs)∧Hid (bO wr bt 3 rs∧W3.grownBy wr none)) (fun i _=>40-(intOf i).toNat)
 case atStart=>exact⟨0,ay 40,rfl,Nat.zero_le _,TS.out,BT0.out⟩
 case round=>
  obtain⟨k,rs,rfl,hk,hF,hM⟩:=hrel
  clear BT0 TS
  by_cases wR:k<40
  ·have i1:(k:Int)<40:=gA
   obtain⟨ax,rfl,cx⟩:=jW (HX.out _ (aB BB.out.Uz hM.out.2)) k (by rw[XL.out];exact wR)
   obtain⟨az,haz,cz⟩:=jW (aP IZ.out hM.out.2) k (by rw[ZK.out.1];exact wR)
   cases haz
   rw[Addr.add_mid,Nat.zero_add]at cz
   have xb:=XR.out k (by rw[XL.out];exact wR)
   have zb:=(aV Z).1 ZK.out.2 k (by rw[ZK.out.1];exact wR)
   have BT:=Zd hM.out.1
   have GW:=Zd hM.out.2
   have RL:=Zd hF.out.1
   have NF:=Zd (eP hF.out wR)
   obtain⟨R,hR⟩:∃R,eU (aC x k-aC Z k)=R:=⟨_,rfl⟩
   rw[hR]at NF
   have EN:=Zd hR
   clear hF hM hR
   generalize aC x k=xv at *
   generalize aC Z k=zv at *
   have W1:=fH (xv-zv) gA gA
   go_upto_region 8 with fail
   refine b_ 13 (dM wr) 14 (by rfl) _ rfl (by kernel_rfl) (fun aK=>?_)
   have aj:=(aZ wr)
   refine bF 0 aj aK fun aK=>?_
   refine bF 1 aj aK fun aK=>?_
   refine bF 2 aj aK fun aK=>?_
   refine bF 3 aj aK fun aK=>?_
   refine bF 4 aj aK fun aK=>?_
   refine jq (hy:=by intro w' bL;(try dsimp only at bL);have cc:=bA bL cx;go_simp;(try with_reducible rfl)) (v:=.int .i64 xv) 5 aj aK fun aK=>?_
   refine bF 6 aj aK fun aK=>?_
   refine bF 7 aj aK fun aK=>?_
   refine bF 8 aj aK fun aK=>?_
   refine jq (hy:=by intro w' bL;(try dsimp only at bL);have cc:=bA bL cz;go_simp;(try with_reducible rfl)) (v:=.int .i64 zv) 9 aj aK fun aK=>?_
   refine jq (hy:=by intro w' bL;(try dsimp only at bL);go_simp;(try simp only[W1])) (v:=.int .i64 (xv-zv)) 10 aj aK fun aK=>?_
   refine kT 11 aK fun K hK=>?_
   (try simp only[sZ])
   go_simp
   refine(nU (xv-zv) _ gA gA).mono ?_
   rintro e w1 ⟨rfl,q1⟩
   have Q1:=Zd q1
   clear q1
   rw[EN.out]
   go_wp2_with fail
   have iB:=(bD aj Q1.out)
   refine hK.out _ _ (fun _=>iB) (fun aK=>?_)
   replace aj:=iB
   clear iB
   (try simp only[sZ])
   refine bF 12 aj aK fun aK=>?_
   refine kT 13 aK fun K hK=>?_
   (try simp only[sZ])
   have BD:=Zd (BT.out.aH aj)
   have cd:=BD.out.cell k (by rw[RL.out];exact wR)
   have fd:=BD.out.free k
   have NM:=Zs (bO (w1.setCell ⟨bt,k,none⟩ (.int .i64 R)) bt 3 (rs.set k R)∧W3.grownBy (w1.setCell ⟨bt,k,none⟩ (.int .i64 R)) none) (⟨BD.out.set k R,aG (aB GW.out aj) (aF w1 ⟨bt,k,none⟩ _) NT.out⟩)
   generalize aC rs k=q at cd
   go_simp
   go_wp2_with fail
   refine hK.out _ _ (fun h=>by cases h) (fun aK=>?_)
   clear aj
   (try simp only[sZ])
   clear cd fd
   generalize w1.setCell ⟨bt,k,none⟩ (.int .i64 R)=w2 at *
   refine bI _ _ _ _ (by rfl) ?_
   refine xP ?_
   go_wp2_with fail
   go_roundw
   case rel=>exact⟨k+1,_,by go_num,gA,NF.out,NM.out⟩
   case measure=>first|(simp[intOf];done)|(simp[intOf];omega)
  obtain rfl:k=40:=gA
  rw[show((40:Nat):Int)=40 from rfl]
  obtain rfl:=TF.out _ hF.out
  have BT:=Zd hM.out.1
  have BW:=Zs (Zw W3 bt wr.heap.size (Fh m a x) (ay 8) (wr.alloc (.cells #[.int .i64 0,.int .i64 0,.int .i64 0,.int .i64 0,.int .i64 0,.int .i64 0,.int .i64 0,.int .i64 0] 46))) (⟨aB hM.out.2 (ak _ _ none),hM.out.1.aH (ak _ _ none),by have:=gN.new wr 46 (ay 8);rw[z8u]at this;exact this⟩)
  have NU:=Zs (wr.heap.size≠bt) (by have:=hM.out.1.lt;omega)
  have NW:=Zs (W3.heap.size≤wr.heap.size) (hM.out.2.size)
  clear hF hM
  go_upto_region 11 with fail
  generalize wr.alloc (.cells #[.int .i64 0,.int .i64 0,.int .i64 0,.int .i64 0,.int .i64 0,.int .i64 0,.int .i64 0,.int .i64 0] 46)=W5 at *
  generalize wr.heap.size=bu at *
  have B5:=Zd (BB.out.aH BW.out.1)
  have PK1:=Zd (PK.out W5 br _ B5.out _ (Cc BW.out.2.1 TK.out.1))
  go_wp2_with (first|refine lV 16 B5.out.mem fP (by rw[CM.out];omega) PX.out ?_)
  refine PK1.out.mono ?_
  rintro e W6 ⟨rfl,g6⟩
  have S6:=Zd (BW.out.aH g6)
  have B6:=Zd (B5.out.aH g6)
  clear PK1 g6
  have w20:(20:Int)≤eH:=gA
  go_upto_region 12 with fail
  go_wp2_with fail
  refine(NE.out _ B6.out.Uz).mono ?_
  rintro e W7 ⟨rfl,g7⟩
  have S7:=Zd (S6.out.aH g7)
  have B7:=Zd (B6.out.aH g7)
  clear NE g7 B6
  have u0:=S7.out.2.2.cell 0 (by rw[au];omega)
  have u1:=S7.out.2.2.cell 1 (by rw[au];omega)
  have v0:=S7.out.2.2.free 0
  have v1:=S7.out.2.2.free 1
  have S8:=Zd ((S7.out.Xb NW.out NU.out.symm 0 ((eH:Int)-20) (by rw[au];omega)).Xb NW.out NU.out.symm 1 (pn:Int) (by rw[List.length_set,au];omega))
  have B8:=Zs (ChB w ((W7.setCell ⟨bu,0,none⟩ (.int .i64 ((eH:Int)-20))).setCell ⟨bu,1,none⟩ (.int .i64 (pn:Int))) m a s br _) (BB.out.aH S8.out.1)
  go_upto_region 13 with fail
  clear u0 u1 v0 v1
  generalize (W7.setCell ⟨bu,0,none⟩ (.int .i64 ((eH:Int)-20))).setCell ⟨bu,1,none⟩ (.int .i64 (pn:Int))=W8 at *
  have UL:=Zs (((((ay 8).set 0 ((eH:Int)-20)).set 1 (pn:Int))).length=8) (by rw[List.length_set,List.length_set,au])
  have UP:=Zs (aC ((((ay 8).set 0 ((eH:Int)-20)).set 1 (pn:Int))) 1=(pn:Int)) (rfl)
  generalize (((ay 8).set 0 ((eH:Int)-20)).set 1 (pn:Int))=U8 at *
  go_wp2_with (first|refine lV 16 B8.out.mem fP (by rw[CM.out];omega) PX.out ?_)
  refine(PA.out _).mono ?_
  rintro e W9 ⟨vp,rfl,op,g9⟩
  have S9:=Zd (S8.out.aH g9)
  have B9:=Zd (B8.out.aH g9)
  have CF1:=Zd (CF.out W9 br _ B9.out vp PL op.ints PAL.out)
  rw[PAV.out]at CF1
  clear PA g9 op
  go_upto_region 14 with fail
  go_wp2_with fail
  refine CF1.out.mono ?_
  rintro e W10 ⟨vv,rfl,ov,g10⟩
  have S10:=Zd (S9.out.aH g10)
  have B10:=Zd (B9.out.aH g10)
  obtain⟨gv',cv',rfl,_,_,_⟩:=ov.form (by rw[VK.out.1];omega)
  rw[VK.out.1]at ov ⊢
  have OV:=Zd ov
  have NV:=Zs (bt<W9.heap.size) (S9.out.2.1.lt)
  clear CF1 g10 ov
  generalize W9.heap.size=bv at *
  go_wp2_with fail
  go_loopw [92] (fun i wr=>∃(k:Nat) (rs:List Int),i=.int .i64 (k:Int)∧k≤40∧Hid (Im m a x k rs)∧Hid (Zw W3 bt bu rs U8 wr)∧Hid (gP bv wr (.slice (some ⟨gv',0,none⟩) 40 cv') (OY m a x))) (fun i _=>40-(intOf i).toNat)
  case atStart=>exact⟨0,Fh m a x,rfl,Nat.zero_le _,US.out,S10.out,OV.out⟩
  case round=>
   obtain⟨k,rs,rfl,hk,hF,hM,hV⟩:=hrel
   clear S10 US
   by_cases wR:k<40
   ·have i1:(k:Int)<40:=gA
    obtain⟨av,hav,cv⟩:=jW hV.out.ints k (by rw[VK.out.1];exact wR)
    cases hav
    rw[Addr.add_mid,Nat.zero_add]at cv
    have RL:=Zd hF.out.1
    have ct:=hM.out.2.1.cell k (by rw[RL.out];exact wR)
    rw[hF.out.2.2 k (Nat.le_refl _)]at ct
    have cp:=hM.out.2.2.cell 1 (by rw[UL.out];omega)
    rw[UP.out]at cp
    have GTk:=GT.out _ (aB BB.out.Uz hM.out.1)
    have cg:=GTk.1
    have cga:=GTk.2.2 pn gA
    rw[show gains.getD pn 0=iR pn from rfl]at cga
    have gl:=GTk.2.1
    clear GTk
    have tb:=(aV (Fh m a x)).1 TK.out.2 k (by rw[TK.out.1];exact wR)
    have fb:=(aV (OY m a x)).1 VK.out.2.1 k (by rw[VK.out.1];exact wR)
    have NF:=Zd (Ug hF.out wR)
    have EN:=Zd (UN.out k)
    have mb:=qK (aC (OY m a x) k) (iR pn) fb.1 fb.2 gA gA
    have VV:=Zd hV.out
    clear hF hV
    generalize Vo m a x k=R at *
    generalize aC (Fh m a x) k=tv at *
    generalize aC (OY m a x) k=fv at *
    generalize iR pn=gv at *
    have pi1:(pn:Int)<8:=gA
    have cb:=kK ((fv*gv+8192) / 16384)
    have W1:=fH (fv*gv) gA gA
    have W2:=fH (fv*gv+8192) gA gA
    have W3':=fH (tv-eU ((fv*gv+8192) / 16384)) gA gA
    go_upto_region 17 with fail
    refine b_ 19 (dM wr) 20 (by rfl) _ rfl (by kernel_rfl) (fun aK=>?_)
    have aj:=(aZ wr)
    refine bF 0 aj aK fun aK=>?_
    refine bF 1 aj aK fun aK=>?_
    refine bF 2 aj aK fun aK=>?_
    refine bF 3 aj aK fun aK=>?_
    refine bF 4 aj aK fun aK=>?_
    refine jq (hy:=by intro w' bL;(try dsimp only at bL);have cc:=bA bL ct;go_simp;(try with_reducible rfl)) (v:=.int .i64 tv) 5 aj aK fun aK=>?_
    refine bF 6 aj aK fun aK=>?_
    refine jq (hy:=by intro w' bL;(try dsimp only at bL);have cc:=bA bL cg;go_simp;(try with_reducible rfl)) (v:=.slice (some a2) 8 c2) 7 aj aK fun aK=>?_
    refine bF 8 aj aK fun aK=>?_
    refine jq (hy:=by intro w' bL;(try dsimp only at bL);have cc:=bA bL cp;go_simp;(try with_reducible rfl)) (v:=.int .i64 (pn:Int)) 9 aj aK fun aK=>?_
    refine bF (v:=.pointer (some (a2.add pn))) 10 aj aK fun aK=>?_
    refine jq (hy:=by intro w' bL;(try dsimp only at bL);have cc:=bA bL cga;go_simp;(try with_reducible rfl)) (v:=.int .i64 gv) 11 aj aK fun aK=>?_
    refine jq (hy:=by intro w' bL;(try dsimp only at bL);go_simp;(try simp only[W1])) (v:=.int .i64 (fv*gv)) 12 aj aK fun aK=>?_
    refine jq (hy:=by intro w' bL;(try dsimp only at bL);go_simp;(try simp only[W2])) (v:=.int .i64 (fv*gv+8192)) 13 aj aK fun aK=>?_
    refine kT 14 aK fun K hK=>?_
    (try simp only[sZ])
    go_simp
    refine(jM (fv*gv+8192) 14 gA gA gA _).mono ?_
    rintro e w1 ⟨rfl,q1⟩
    have Q1:=Zd q1
    clear q1
    rw[show((2:Int)^14)=16384 from rfl]
    go_wp2_with fail
    have iB:=(bD aj Q1.out)
    refine hK.out _ _ (fun _=>iB) (fun aK=>?_)
    replace aj:=iB
    clear iB
    (try simp only[sZ])
    refine kT 15 aK fun K hK=>?_
    (try simp only[sZ])
    go_simp
    refine(nU ((fv*gv+8192) / 16384) _ gA gA).mono ?_
    rintro e w2 ⟨rfl,q2⟩
    have Q2:=Zd q2
    clear q2
    go_wp2_with fail
    have iB:=(bD aj Q2.out)
    refine hK.out _ _ (fun _=>iB) (fun aK=>?_)
    replace aj:=iB
    clear iB
    (try simp only[sZ])
    refine jq (hy:=by intro w' bL;(try dsimp only at bL);go_simp;(try simp only[W3'])) (v:=.int .i64 (tv-eU ((fv*gv+8192) / 16384))) 16 aj aK fun aK=>?_
    refine kT 17 aK fun K hK=>?_
    (try simp only[sZ])
    go_simp
    refine(nU (tv-eU ((fv*gv+8192) / 16384)) _ gA gA).mono ?_
    rintro e w3 ⟨rfl,q3⟩
    have Q3:=Zd q3
    clear q3
    rw[EN.out]
    go_wp2_with fail
    have iB:=(bD aj Q3.out)
    refine hK.out _ _ (fun _=>iB) (fun aK=>?_)
    replace aj:=iB
    clear iB
    (try simp only[sZ])
    refine bF 18 aj aK fun aK=>?_
    refine kT 19 aK fun K hK=>?_
    (try simp only[sZ])
    have SD:=Zd (hM.out.aH aj)
    have cd:=SD.out.2.1.cell k (by rw[RL.out];exact wR)
    have fd:=SD.out.2.1.free k
    have NM:=Zd (SD.out.al1 NT.out NU.out k R)
    have VW:=Zd ((VV.out.aH aj).dK (aF w3 ⟨bt,k,none⟩ (.int .i64 R)) NV.out)
    generalize aC rs k=q at cd
    go_simp
    go_wp2_with fail
    refine hK.out _ _ (fun h=>by cases h) (fun aK=>?_)
    clear aj
    (try simp only[sZ])
    clear cd fd
    generalize w3.setCell ⟨bt,k,none⟩ (.int .i64 R)=w4 at *
    refine bI _ _ _ _ (by rfl) ?_
    refine xP ?_
    have VN:=Zs (gP bv w4 (.slice (some ⟨gv',0,none⟩) 40 cv') (OY m a x)) (VW.out)
    clear hM
    go_wp2_with fail
    go_roundw
    case rel=>exact⟨k+1,_,by go_num,gA,NF.out,NM.out,VN.out⟩
    case measure=>first|(simp[intOf];done)|(simp[intOf];omega)
   obtain rfl:k=40:=gA
   rw[show((40:Nat):Int)=40 from rfl]
   obtain rfl:=XU hF.out
   have S11:=Zd hM.out
   have B11:=Zd (BB.out.aH hM.out.1)
   clear hF hM hV
   have rc:=B11.out.rng
   have TG1:=Zd (TG.out _ _ _ (Cc S11.out.2.1 UK.out.1) B11.out.ring)
   go_upto_region 19 with fail
   go_wp2_with fail
   refine TG1.out.mono ?_
   rintro e W12 ⟨vd,rfl,od,g12⟩
   have S12:=Zd (S11.out.aH g12)
   have B12:=Zd (B11.out.aH g12)
   have FW1:=Zd (FW.out _ _ _ od.ints B12.out.ring)
   clear TG1 g12 rc od
   have rc:=B12.out.rng
   go_upto_region 20 with fail
   go_wp2_with fail
   refine FW1.out.mono ?_
   rintro e W13 ⟨rfl,g13⟩
   have S13:=Zd (S12.out.aH g13)
   have X4:=Zs ((aO (oq m a x)).length=4) (by rw[aM];exact XK.out.1)
   have IX:=Zd (d9 (oq m a x))
   have U4:=Zs ((aO U8).length=8) (by rw[aM];exact UL.out)
   have S14:=Zd (S13.out.ah3 NW.out NU.out.symm 2 (oq m a x) (by rw[XK.out.1,UL.out];omega))
   have U14:=Zs ((jr U8 2 (oq m a x)).length=8) (by rw[eG];exact UL.out)
   have S15:=Zd (S14.out.Xb NW.out NU.out.symm 6 (vF m a x) (by rw[U14.out];omega))
   have c6:=S14.out.2.2.cell 6 (by rw[U14.out];omega)
   have f6:=S14.out.2.2.free 6
   clear FW1 g13 rc
   go_upto_region 21 with(first|refine sV 2 (aO (oq m a x)) S13.out.2.2 (by rw[X4.out,U4.out];omega) (by rw[X4.out];exact Xx) IX.out ?_)
   (try simp only[Act.put])
   clear c6 f6
   generalize (dQ W13 bu 2 (aO (oq m a x))).setCell ⟨bu,6,none⟩ (.int .i64 (vF m a x))=W15 at *
   have P4:=Zs (bP ((jr U8 2 (oq m a x)).set 6 (vF m a x)) 2 4=oq m a x) (alZ U8 (oq m a x) (vF m a x) UL.out XK.out.1)
   have P6:=Zs (aC ((jr U8 2 (oq m a x)).set 6 (vF m a x)) 6=vF m a x) (by rw[qm _ _ _ (by rw[U14.out];omega),if_pos rfl])
   have U15:=Zs (((jr U8 2 (oq m a x)).set 6 (vF m a x)).length=8) (by rw[List.length_set];exact U14.out)
   generalize (jr U8 2 (oq m a x)).set 6 (vF m a x)=U16 at *
   have c6:=S15.out.2.2.cell 6 (by rw[U15.out];omega)
   rw[P6.out]at c6
   have PT:=Zd (gN.part (l:=U16) 2 4 (by rw[U15.out];omega))
   rw[P4.out]at PT
   have UV:=Zs ((aO U16).length=8) (by rw[aM];exact U15.out)
   go_wp2_with (first|refine lV 2 S15.out.2.2 Xx (by rw[UV.out];omega) PT.out ?_)
   refine(BU.out _).mono ?_
   rintro e W16 ⟨vo,rfl,oo,g16⟩
   have S16:=Zd (S15.out.aH g16)
   have B16:=Zd (BB.out.aH S16.out.1)
   have CF2:=Zd (CF.out W16 br _ B16.out vo (chO m a x) oo.ints OK.out.1)
   rw[KO.out]at CF2
   clear BU g16 oo c6
   go_upto_region 22 with fail
   go_wp2_with fail
   refine CF2.out.mono ?_
   rintro e W17 ⟨vf,rfl,of,g17⟩
   have S17:=Zd (S16.out.aH g17)
   have IF:=Zd of.ints
   have D11:=Zd (D1.out _ _ _ (Cc S17.out.2.1 UK.out.1) IF.out)
   clear CF2 g17 of
   go_upto_region 23 with fail
   generalize fE (yL m a x) (tV m a x) 40=d1 at *
   generalize fE (tV m a x) (tV m a x) 40=d2 at *
   go_wp2_with fail
   refine D11.out.mono ?_
   rintro e W18 ⟨rfl,g18⟩
   have S18:=Zd (S17.out.aH g18)
   have D21:=Zd (D2.out _ _ (aP IF.out g18))
   clear D11 g18
   go_wp2_with fail
   refine D21.out.mono ?_
   rintro e W19 ⟨rfl,g19⟩
   have S19:=Zd (S18.out.aH g19)
   have GO1:=Zd (GO.out _ (aB BB.out.Uz S19.out.1))
   clear D21 g19
   go_wp2_with fail
   refine GO1.out.mono ?_
   rintro e W20 ⟨rfl,g20⟩
   have S20:=Zd (S19.out.aH g20)
   have c7:=S20.out.2.2.cell 7 (by rw[U15.out];omega)
   have f7:=S20.out.2.2.free 7
   have S21:=Zd (S20.out.Xb NW.out NU.out.symm 7 (YE m a x) (by rw[U15.out];omega))
   rw[h_.out]at S21
   clear GO1 g20
   go_upto_region 24 with fail
   clear c7 f7
   generalize W20.setCell ⟨bu,7,none⟩ (.int .i64 (YE m a x))=W21 at *
   have B21:=Zd (BB.out.aH S21.out.1)
   have CW8:=Zs ((aO CW).length=8) (by rw[aM,←h_.out,List.length_set];exact U15.out)
   have CA:=Zd (gN.all CW 8 (by have:=CW8.out;rwa [aM]at this))
   have ZV:=Zs ((aO (ay 8)).length=8) (by rw[aM,au])
   have IC:=Zd (d9 CW)
   have PB:=Zd (B21.out.res.fu (m:=CW) (by have:=CW8.out;rw[aM]at this;rw[this,au]))
   have FF:=Zd (F.out _ (aG B21.out.Uz PB.out.2 gA))
   go_wp2_with (first|refine lV 0 S21.out.2.2 XO (by rw[CW8.out];omega) CA.out ?_|refine sV 0 (aO CW) B21.out.res (by rw[CW8.out,ZV.out];omega) (by rw[CW8.out];exact XO) IC.out ?_)
   have eO:=wV PB.out.1.v (by rw[CW8.out];exact XO)
   refine bodyPost_ret (v:=.agg (aD CW)) ?_ rfl FF.out
   simp[results,results24,asAddr,Act.put,eO]
   rfl
def Ov (w:World)(K:List Int)(e:Int)(g:Bool)(en:Ending)(w':World):Prop:=en=.returned (.tuple #[.agg (aD K),.int .i64 e,.bool g])∧w.grownBy w' none
theorem agB (S e:Int)(he:0<e)(h1:-144115188075855872≤S)(h2:S≤144115188075855872):-144115188075855872≤S.tdiv e∧S.tdiv e≤144115188075855872:=by
 have key:∀X:Int,0≤X→X≤144115188075855872→0≤X.tdiv e∧X.tdiv e≤144115188075855872:=fun X h0 h3=>by
  rw[Int.tdiv_eq_ediv_of_nonneg h0]
  have a:=Int.ediv_nonneg h0 (Int.le_of_lt he)
  have b:=Int.ediv_le_self e h0
  omega
 rcases Int.le_total 0 S with h|h
 ·have:=key S h h2;omega
 have e1:S.tdiv e=-((-S).tdiv e):=by rw[Int.neg_tdiv];omega
 have:=key (-S) gA gA
 omega
theorem aeA (r:Nat→Int):[16777216]=fM 1 (gG r 0).p:=by
 apply dJ rfl
 intro i hi
 match i,hi with
 | 0,_=>rfl
theorem Iq {w wr wr':World}{T1 T2 T3:TypeId}{a b c:List Int}{z:Nat}(h:g_ w wr T1 T2 T3 a b c)(g:wr.grownBy wr' (some z))(hz:w.heap.size+1+1<z):g_ w wr' T1 T2 T3 a b c:=
 ⟨h.1.aJ g gA,h.2.1.aJ g gA,h.2.2.1.aJ g gA,aG h.2.2.2 g gA⟩
theorem Dl (R:List Int)(hR:R.length=9)(w:World):Calls prog 18 #[.agg (aD R)] w (Ov w (lN R) (vw R) (vC R)):=by
 have L0:=Zs (g_ w _ 58 26 26 R (ay 8) (ay 8)) (mW w 58 26 26 R (ay 8) (ay 8))
 rw[rF]at L0
 have IX:=Zd (fun j hj=>fQ R underlying58 j hj hR)
 have NO:=Zs (Ya R=false→Ov w (lN R) (vw R) (vC R)=Ov w (ay 8) 0 false) (fun h=>by simp[lN,vw,vC,h])
 have NR:=Zd (fun i (hi:i<9) hh=>aeJ (k:=R) i gA hh)
 have YR:=Zd (fun(hh:∀i,i<9→-2147483647≤aC R i∧aC R i≤2147483647)=>(Ej R).2 (fun i hi=>hh i gA))
 go_enter func18,ntmps18
 go_wp2_with (refine lA L0.out.1 (by rw[hR];exact dz) ?_)
 generalize ((w.alloc (.cells (aD R) 58)).alloc _).alloc _=W0 at *
 go_loop [16] (fun i=>∃m:Nat,i=.int .i64 m∧m≤9∧Hid (∀i,i<m→-2147483647≤aC R i∧aC R i≤2147483647)) (fun i=>9-(intOf i).toNat)
 case atStart=>exact⟨0,rfl,Nat.zero_le _,fun i hi=>gA⟩
 case round=>
  obtain⟨m,rfl,hm,hG⟩:=hrel
  by_cases hm9:m<9
  ·have ix:=IX.out m gA
   by_cases hb:-2147483647≤aC R m∧aC R m≤2147483647
   ·have NG:=Zd (show ∀i,i<m+1→-2147483647≤aC R i∧aC R i≤2147483647 from fun i hi=>by
     rcases Nat.lt_or_ge i m with q|q
     ·exact hG.out i q
     obtain rfl:i=m:=gA
     exact hb)
    obtain⟨b1,b2⟩:=hb
    clear hG
    generalize aC R m=x at *
    have n1:¬2147483647<x:=gA
    have n2:¬x < -2147483647:=gA
    go_wp2_with fail
    go_round
    case rel=>exact⟨m+1,by go_num,gA,NG.out⟩
    case measure=>simp[intOf];omega
   have ER:=Zd (NO.out (by unfold Ya;rw[NR.out m hm9 hb];rfl))
   have HB:=Zd hb
   have BK:=Zd L0.out.2.2.1
   have BB:=Zd L0.out.2.1
   have GM:=Zd L0.out.2.2.2
   clear hG hb
   obtain⟨ks,hks⟩:∃ks,ks=ay 8:=⟨_,rfl⟩
   have wG:ks.length=8:=by subst hks;rfl
   rw[←hks]at BK ER
   clear hks
   generalize aC R m=x at *
   rcases (show 2147483647<x∨x < -2147483647 by have:=HB.out;omega)with hc|hc
   all_goals
    go_wp2_with (first|refine lA BK.out (by rw[wG];exact aW) ?_|refine sA ks BB.out (by rw[wG,au]) (by rw[au];exact aW) ?_)
    have PU:=bB (rs':=ks) BB.out (by rw[wG,au])
    have eO:=lS PU.1 (by rw[wG];exact aW)
    have GF:=Zd (aG GM.out PU.2 gA)
    refine bodyPost_ret (v:=.tuple #[.agg (aD ks),.int .i64 0,.bool false]) ?_ rfl ?_
    ·simp[results,results18,asAddr,Act.put,eO]
    rw[ER.out];exact⟨rfl,GF.out⟩
  obtain rfl:m=9:=gA
  rw[show((9:Nat):Int)=9 from rfl]
  have hB:=YR.out hG.out
  have c0:=L0.out.1.cell 0 gA
  by_cases h0:0<aC R 0
  ·have ho:Ya R=true:=by unfold Ya;rw[hB];simp[h0]
   have HB:=Zd (agN hB)
   obtain⟨b1,b2⟩:=HB.out 0
   have EK:=Zs (lN R=fM 8 (gG (aC R) 8).k) (by simp[lN,ho])
   have EE:=Zs (vw R=(gG (aC R) 8).e) (by simp[vw,ho])
   have EG:=Zs (vC R=(gG (aC R) 8).go) (by simp[vC,ho])
   have IS:=Zd (AQ (aC R) h0)
   have h0':¬aC R 0<1:=gA
   have E0:=Zs ((gG (aC R) 0).e=aC R 0) (rfl)
   have hs1:w.heap.size+1+1+1≤W0.heap.size:=L0.out.2.2.1.lt
   have M2:=Zd (L0.out.aH (ak W0 (.cells #[.int .i64 16777216] 3) none))
   have O2:=Zd (wY W0 (w.heap.size+1+1+1) hs1 16777216)
   rw[aeA (aC R)]at O2
   rw[show ay 8=fM 8 (gG (aC R) 0).k from Ay 8]at M2
   have ZK:=Zs (fM 8 (gG (aC R) 0).k=ay 8) ((Ay 8).symm)
   have M2':=Zd (show g_ w (W0.alloc (.cells #[.int .i64 16777216] 3)) 58 26 26 R (ay 8) (fM 8 (gG (aC R) 0).k)from by
    have:=M2.out
    rw[ZK.out]at this ⊢
    exact this)
   clear ho hB hG hs1
   generalize hr0:aC R 0=r0 at *
   have HR0:=Zd hr0
   clear hr0
   go_wp2_with fail
   generalize W0.alloc _=W1 at *
   go_loopw [8,9,10] (fun e va i wr=>∃m:Nat,e=.int .i64 (gG (aC R) m).e∧i=.int .i64 m∧m≤8∧Hid ((gG (aC R) m).go=true)∧Hid (Pp (aC R) m (gG (aC R) m))∧Hid (gP (w.heap.size+1+1+1) wr va (fM (m+1) (gG (aC R) m).p))∧Hid (g_ w wr 58 26 26 R (ay 8) (fM 8 (gG (aC R) m).k))) (fun _ _ i _=>8-(intOf i).toNat)
   case atStart=>exact⟨0,by rw[E0.out],rfl,Nat.zero_le _,rfl,IS.out,O2.out,M2'.out⟩
   case round=>
    obtain⟨m,rfl,rfl,hm,hgo,hI,hO,hM⟩:=hrel
    clear M2' O2 IS E0
    by_cases vD:m<8
    ·have hlen:=bQ (m+1) (gG (aC R) m).p
     obtain⟨g,cap,hv,hg1,hg2,hcap⟩:=hO.out.form (by rw[hlen];omega)
     subst hv
     rw[hlen]at hO hcap
     rw[hlen]
     have PB:=Zd (hI.out.pb' gA)
     have MBD:=Zd (Lj PB.out HB.out (m+1))
     go_wp2_with fail
     rw[show decide ((m:Int)<8)=true by simp;omega]
     go_loopw [11,39] (fun s i wr=>∃i':Nat,s=.int .i64 (mis (gG (aC R) m).p (aC R) (m+1) i')∧i=.int .i64 i'∧i'≤m+1∧Hid (gP (w.heap.size+1+1+1) wr (.slice (some ⟨g,0,none⟩) (m+1) cap) (fM (m+1) (gG (aC R) m).p))∧Hid (g_ w wr 58 26 26 R (ay 8) (fM 8 (gG (aC R) m).k))) (fun _ i _=>m+1-(intOf i).toNat)
     case atStart=>exact⟨0,rfl,rfl,Nat.zero_le _,hO.out,hM.out⟩
     case round=>
      obtain⟨i,rfl,rfl,hi,hO',hM'⟩:=hrel
      clear hO hM hg1 hg2
      by_cases him:i<m+1
      ·have ca:=hO'.out.cell hlen.symm i gA
       rw[dN _ _ _ him]at ca
       have cr:=hM'.out.1.cell (m+1-i) gA
       obtain⟨a1,a2⟩:=PB.out i
       obtain⟨r1,r2⟩:=HB.out (m+1-i)
       obtain⟨⟨p1,p2⟩,p3,p4⟩:=Eh _ _ a1 a2 r1 r2
       obtain⟨s1,s2⟩:=MBD.out i
       have EMI:=Zs (mis (gG (aC R) m).p (aC R) (m+1) (i+1)=mis (gG (aC R) m).p (aC R) (m+1) i+((gG (aC R) m).p i / 512*aC R (m+1-i)) / 32768) (rfl)
       have D9:=Zd (fun u=>jM ((gG (aC R) m).p i) 9 gA gA gA u)
       have D15:=Zd (fun u=>jM ((gG (aC R) m).p i / 512*aC R (m+1-i)) 15 gA gA gA u)
       rw[show((9:Nat):Int)=9 from rfl,show(2:Int)^9=512 by decide]at D9
       rw[show((15:Nat):Int)=15 from rfl,show(2:Int)^15=32768 by decide]at D15
       have E4:=Zd (fH ((m:Int)+1) gA gA)
       have EJ:=Zs (IntKind.i64.wrap ((m:Int)+1-(i:Int))=((m+1-i:Nat):Int)) (by rw[fH _ gA gA];omega)
       have E9:=Zd (fH ((gG (aC R) m).p i / 512*aC R (m+1-i)) gA gA)
       have E11:=Zd (fH (mis (gG (aC R) m).p (aC R) (m+1) i+(gG (aC R) m).p i / 512*aC R (m+1-i) / 32768) gA gA)
       have j0:(0:Int)≤((m+1-i:Nat):Int):=gA
       have j9:((m+1-i:Nat):Int)<9:=gA
       clear hI hgo
       generalize mis (gG (aC R) m).p (aC R) (m+1) i=s at *
       generalize (gG (aC R) m).p i=x at *
       generalize aC R (m+1-i)=y at *
       generalize m+1-i=j at *
       have im:(i:Int)<((m+1:Nat):Int):=gA
       have im':(i:Int)<(m:Int)+1:=gA
       go_wp2_with fail
       refine wp_region_held_drew (S:=dM wr) (by kernel_rfl) (aZ _) (fun aj=>?_)
       refine sF 0 aj ?_
       refine sF 1 aj ?_
       refine sF 3 aj ?_
       refine bV (hy:=by intro w' bL;(try dsimp only at bL);go_simp;(first|exact E4.out|rw[E4.out])) (v:=(.int .i64 ((m:Int)+1))) 4 aj ?_
       refine sF 5 aj ?_
       refine bV (hy:=by intro w' bL;(try dsimp only at bL);go_simp;(first|exact EJ.out|rw[EJ.out])) (v:=(.int .i64 (j:Int))) 6 aj ?_
       refine sF 7 aj ?_
       refine bV (hy:=by intro w' bL;have q0:=bA bL cr;go_simp;(try with_reducible rfl)) 8 aj ?_
       refine fI 2 fun K hK=>?_
       (try simp only[sZ])
       go_simp
       refine(D9.out _).mono ?_
       rintro e w2 ⟨rfl,g2⟩
       have S2:=Zd (bD aj g2)
       clear g2
       go_wp2_with fail
       refine hK.out _ _ S2.out (fun aj=>?_)
       (try simp only[sZ])
       refine bV (hy:=by intro w' bL;(try dsimp only at bL);go_simp;(first|exact E9.out|rw[E9.out])) (v:=(.int .i64 (x / 512*y))) 9 aj ?_
       refine fI 10 fun K hK=>?_
       (try simp only[sZ])
       go_simp
       refine(D15.out _).mono ?_
       rintro e w3 ⟨rfl,g3⟩
       have S3:=Zd (bD S2.out g3)
       clear g3
       go_wp2_with fail
       refine hK.out _ _ S3.out (fun aj=>?_)
       (try simp only[sZ])
       refine bV (hy:=by intro w' bL;(try dsimp only at bL);go_simp;(first|exact E11.out|rw[E11.out])) (v:=(.int .i64 (s+x / 512*y / 32768))) 11 aj ?_
       refine sF 12 aj ?_
       refine lM ?_
       go_wp2_with fail
       have OE:=Zd (hO'.out.aH S3.out)
       have ME:=Zd (hM'.out.aH S3.out)
       go_roundw
       case rel=>exact⟨i+1,by rw[EMI.out],by go_num,gA,OE.out,ME.out⟩
       case measure=>simp[intOf];omega
      obtain rfl:i=m+1:=gA
      have EQ:=Zs (sG (aC R) m (gG (aC R) m)=(-(mis (gG (aC R) m).p (aC R) (m+1) (m+1))*32768).tdiv (gG (aC R) m).e) (rfl)
      have HST:=Zd (fun hq=>Pq hgo.out hq vD)
      have HSP:=Zd (fun q1 q2=>Ei hI.out hgo.out q1 q2)
      obtain⟨e0,e1⟩:=And.intro hI.out.e0 hI.out.e1
      rw[HR0.out]at e1
      obtain⟨s1,s2⟩:=MBD.out (m+1)
      have WP:=Zd (Zp PB.out (by decide) (m+1))
      have GR:=Zd (fun(u:World) (hi:aS u (.slice (some ⟨g,0,none⟩) (m+1) cap) (fM (m+1) (gG (aC R) m).p)) (hs:rR (.slice (some ⟨g,0,none⟩) (m+1) cap) (fM (m+1) (gG (aC R) m).p)) (q:Int) (q1:-32768≤q) (q2:q≤32768)=>
       (show Calls prog 61 #[.slice (some ⟨g,0,none⟩) (m+1) cap,.int .i64 q] u (fun e w'=>∃v',e=.returned v'∧gP u.heap.size w' v' (fM (m+1+1) (gr (gG (aC R) m).p (m+1) q))∧u.grownBy w' none)from by
        have:=Ak _ _ (by rw[hlen];omega) (by rw[hlen];omega) q q1 q2 WP.out u hi hs
        rw[hlen,Zo _ _ hI.out.po]at this
        exact this))
      have ST:=Zd (fun q=>X9 8 (gG (aC R) m).k m q vD)
      have wG:=bQ 8 (gG (aC R) m).k
      have hsz:w.heap.size+1+1+1≤wr.heap.size:=hM'.out.2.2.1.lt
      have hgl:g<wr.heap.size:=(hO'.out.lt g rfl).2
      clear hI hgo
      generalize mis (gG (aC R) m).p (aC R) (m+1) (m+1)=s at *
      generalize sG (aC R) m (gG (aC R) m)=q at *
      generalize (gG (aC R) m).e=e at *
      generalize (gG (aC R) m).p=p at *
      generalize (gG (aC R) m).k=kf at *
      have x1:-4398046511104≤s:=gA
      have x2:s≤4398046511104:=gA
      clear s1 s2
      have ne:e≠0:=gA
      obtain⟨d1,d2⟩:=agB (-s*32768) e e0 gA gA
      rw[←EQ.out]at d1 d2
      have z1:Struct ((wr.alloc iI).alloc iI) wr.heap.size:=bG (eT wr) (ak (wr.alloc iI) iI none) (by simp)
      have z2:Struct ((wr.alloc iI).alloc iI) (wr.heap.size+1):=by simpa using eT (wr.alloc iI)
      have ga:wr.grownBy ((wr.alloc iI).alloc iI) none:=aB (ak wr iI none) (ak (wr.alloc iI) iI none)
      have Z1:=Zd z1
      have Z2:=Zd z2
      have GA:=Zd ga
      clear z1 z2 ga
      have hx1:¬((m+1:Nat):Int)<((m+1:Nat):Int):=gA
      go_wp2_with fail
      refine(eD (-s) ((wr.alloc iI).alloc iI) gA gA).mono ?_
      rintro en w3 ⟨b3,rfl,hb3,i3,g3⟩
      have Z13:=Zd (bG Z1.out g3 (by simp))
      have Z23:=Zd (bG Z2.out g3 (by simp))
      have I3:=Zd i3
      have M3:=Zd (hM'.out.aH (aB GA.out g3))
      have O3:=Zd (hO'.out.aH (aB GA.out g3))
      clear i3 g3 hM' hO' hb3
      have LS:=Zd (wF (wr.heap.size+1) b3 (-s) 15 gA w3 Z23.out I3.out (by have:=rA;rw[show(2:Int)^15=32768 by decide];omega) (by have:=rA;rw[show(2:Int)^15=32768 by decide];omega))
      rw[show((15:Nat):Int)=15 from rfl,show(2:Int)^15=32768 by decide]at LS
      go_wp2_with fail
      refine LS.out.mono ?_
      rintro en w4 ⟨rfl,i4,g4⟩
      have Z14:=Zd (bG Z13.out g4 (by simp))
      have I4:=Zd i4
      have M4:=Zd (Iq M3.out g4 gA)
      have O4:=Zd (O3.out.UW g4 gA)
      clear i4 g4 LS
      go_wp2_with fail
      refine(eD e w4 gA gA).mono ?_
      rintro en w5 ⟨b5,rfl,hb5,i5,g5⟩
      have Z15:=Zd (bG Z14.out g5 (by simp))
      have I45:=Zd (bJ I4.out g5)
      have I5:=Zd i5
      have M5:=Zd (M4.out.aH g5)
      have O5:=Zd (O4.out.aH g5)
      clear i5 g5 hb5
      have QU:=Zd (Zn wr.heap.size (wr.heap.size+1) b5 (-s*32768) e w5 Z15.out I45.out I5.out ne gA gA)
      rw[←EQ.out]at QU
      go_wp2_with fail
      refine QU.out.mono ?_
      rintro en w6 ⟨rfl,i6,g6⟩
      have M6:=Zd (Iq M5.out g6 gA)
      have O6:=Zd (O5.out.UW g6 gA)
      have IS6:=Zd (Ui wr.heap.size q w6 i6 gA gA)
      have V6:=Zd (nT wr.heap.size q w6 i6 gA gA)
      clear i6 g6 QU
      rcases (show q≤-32000∨(¬q≤-32000∧32000≤q)∨(¬q≤-32000∧¬32000≤q) by omega)with k1|⟨k1,k2⟩|⟨k1,k2⟩
      ·have H8:=Zd (HST.out (fun h=>gA))
       have BK:=Zd M6.out.2.2.1
       have BB:=Zd M6.out.2.1
       have GM:=Zd M6.out.2.2.2
       have ER:=Zs (Ov w (lN R) (vw R) (vC R)=Ov w (fM 8 kf) e false) (by rw[EK.out,EE.out,EG.out,H8.out])
       generalize fM 8 kf=ks at *
       go_wp2_with fail
       refine IS6.out.mono ?_
       rintro en w7 ⟨rfl,rfl⟩
       go_wp2_with fail
       refine V6.out.mono ?_
       rintro en w7 ⟨rfl,rfl⟩
       go_wp2_with (first|refine lA BK.out (by rw[wG];exact aW) ?_|refine sA ks BB.out (by rw[wG,au]) (by rw[au];exact aW) ?_)
       have PU:=bB (rs':=ks) BB.out (by rw[wG,au])
       have eO:=lS PU.1 (by rw[wG];exact aW)
       have GF:=Zd (aG GM.out PU.2 gA)
       refine bodyPost_ret (v:=.tuple #[.agg (aD ks),.int .i64 e,.bool false]) ?_ rfl ?_
       ·simp[results,results18,asAddr,Act.put,eO]
       rw[ER.out];exact⟨rfl,GF.out⟩
      ·have H8:=Zd (HST.out (fun h=>gA))
       have BK:=Zd M6.out.2.2.1
       have BB:=Zd M6.out.2.1
       have GM:=Zd M6.out.2.2.2
       have ER:=Zs (Ov w (lN R) (vw R) (vC R)=Ov w (fM 8 kf) e false) (by rw[EK.out,EE.out,EG.out,H8.out])
       generalize fM 8 kf=ks at *
       go_wp2_with fail
       refine IS6.out.mono ?_
       rintro en w7 ⟨rfl,rfl⟩
       go_wp2_with fail
       refine V6.out.mono ?_
       rintro en w7 ⟨rfl,rfl⟩
       go_wp2_with fail
       refine V6.out.mono ?_
       rintro en w7 ⟨rfl,rfl⟩
       go_wp2_with (first|refine lA BK.out (by rw[wG];exact aW) ?_|refine sA ks BB.out (by rw[wG,au]) (by rw[au];exact aW) ?_)
       have PU:=bB (rs':=ks) BB.out (by rw[wG,au])
       have eO:=lS PU.1 (by rw[wG];exact aW)
       have GF:=Zd (aG GM.out PU.2 gA)
       refine bodyPost_ret (v:=.tuple #[.agg (aD ks),.int .i64 e,.bool false]) ?_ rfl ?_
       ·simp[results,results18,asAddr,Act.put,eO]
       rw[ER.out];exact⟨rfl,GF.out⟩
      have en:=abL e q e0 gA gA
      have HN:=Zs (eN e q=e-(e*q / 32768)*q / 32768) (rfl)
      unfold eN at en
      obtain⟨f1,f2,⟨f3,f4⟩,f5,f6⟩:=en
      have SP:=Zd (HSP.out gA gA)
      have cd:=M6.out.2.2.1.cell m gA
      have fd:=M6.out.2.2.1.free m
      have M7:=Zd (La M6.out m q)
      have O7:=Zd (O6.out.dK (aF w6 ⟨w.heap.size+1+1,m,none⟩ (.int .i64 q)) (by simp))
      have GQ:=Zd (GR.out _ O7.out.ints O7.out.Iy q gA gA)
      have hs7:w.heap.size+1+1+1≤(w6.setCell ⟨w.heap.size+1+1,m,none⟩ (.int .i64 q)).heap.size:=M7.out.2.2.1.lt
      have DA:=Zd (fun u=>jM (e*q) 15 gA gA gA u)
      have DB:=Zd (fun u=>jM (e*q / 32768*q) 15 gA gA gA u)
      rw[show((15:Nat):Int)=15 from rfl,show(2:Int)^15=32768 by decide]at DA DB
      have F5:=Zd (fH (e*q) gA gA)
      have F10:=Zd (fH (e*q / 32768*q) gA gA)
      have F12:=Zd (fH (e-e*q / 32768*q / 32768) gA gA)
      have f7:¬e-(e*q / 32768)*q / 32768<1:=gA
      have m0:(0:Int)≤m:=gA
      have m8:(m:Int)<8:=gA
      generalize aC (fM 8 kf) m=y' at *
      go_wp2_with fail
      refine IS6.out.mono ?_
      rintro en w7 ⟨rfl,rfl⟩
      go_wp2_with fail
      refine V6.out.mono ?_
      rintro en w7 ⟨rfl,rfl⟩
      go_wp2_with fail
      refine V6.out.mono ?_
      rintro en w7 ⟨rfl,rfl⟩
      go_wp2_with fail
      refine V6.out.mono ?_
      rintro en w7 ⟨rfl,rfl⟩
      clear V6 IS6
      go_wp2_with fail
      refine GQ.out.mono ?_
      rintro en w9 ⟨v9,rfl,o9,g9⟩
      have O9:=Zd (gP.base o9 hs7)
      have M9:=Zd (M7.out.aH g9)
      have ck:=M9.out.2.2.1.cell m (by rw[List.length_set,wG];omega)
      rw[show aC ((fM 8 kf).set m q) m=q by simp[aC,List.getD,wG,vD]]at ck
      clear GQ o9 g9 cd fd hs7
      go_upto_region 26 with fail
      refine wp_region_held_drew (S:=dM w9) (by kernel_rfl) (aZ _) (fun aj=>?_)
      refine sF 0 aj ?_
      refine sF 1 aj ?_
      refine sF 2 aj ?_
      refine sF 3 aj ?_
      refine bV (hy:=by intro w' bL;have q0:=bA bL ck;go_simp;(try with_reducible rfl)) 4 aj ?_
      refine bV (hy:=by intro w' bL;(try dsimp only at bL);go_simp;(first|exact F5.out|rw[F5.out])) (v:=(.int .i64 (e*q))) 5 aj ?_
      refine sF 7 aj ?_
      refine sF 8 aj ?_
      refine bV (hy:=by intro w' bL;have q0:=bA bL ck;go_simp;(try with_reducible rfl)) 9 aj ?_
      refine fI 6 fun K hK=>?_
      (try simp only[sZ])
      go_simp
      refine(DA.out _).mono ?_
      rintro en w10 ⟨rfl,g10⟩
      have S10:=Zd (bD aj g10)
      clear g10
      go_wp2_with fail
      refine hK.out _ _ S10.out (fun aj=>?_)
      (try simp only[sZ])
      refine bV (hy:=by intro w' bL;(try dsimp only at bL);go_simp;(first|exact F10.out|rw[F10.out])) (v:=(.int .i64 (e*q / 32768*q))) 10 aj ?_
      refine fI 11 fun K hK=>?_
      (try simp only[sZ])
      go_simp
      refine(DB.out _).mono ?_
      rintro en w11 ⟨rfl,g11⟩
      have S11:=Zd (bD S10.out g11)
      clear g11
      go_wp2_with fail
      refine hK.out _ _ S11.out (fun aj=>?_)
      (try simp only[sZ])
      refine bV (hy:=by intro w' bL;(try dsimp only at bL);go_simp;(first|exact F12.out|rw[F12.out])) (v:=(.int .i64 (e-e*q / 32768*q / 32768))) 12 aj ?_
      refine sF 13 aj ?_
      refine lM ?_
      go_wp2_with fail
      have OE:=Zd (O9.out.aH S11.out)
      have ME:=Zd (M9.out.aH S11.out)
      go_roundw
      case rel=>
       refine⟨m+1,?_,by go_num,gA,?_,SP.out.2,?_,?_⟩
       ·rw[SP.out.1];exact congrArg (Value.int .i64) HN.out.symm
       ·rw[SP.out.1];exact rfl
       ·rw[SP.out.1];exact OE.out
       rw[SP.out.1,←ST.out q];exact ME.out
      case measure=>simp[intOf];omega
    obtain rfl:m=8:=gA
    have wG:=bQ 8 (gG (aC R) 8).k
    have ER:=Zs (Ov w (lN R) (vw R) (vC R)=Ov w (fM 8 (gG (aC R) 8).k) (gG (aC R) 8).e true) (by rw[EK.out,EE.out,EG.out,hgo.out])
    have BK:=Zd hM.out.2.2.1
    have BB:=Zd hM.out.2.1
    have GM:=Zd hM.out.2.2.2
    clear hM hI hgo hO
    generalize fM 8 (gG (aC R) 8).k=ks at *
    generalize (gG (aC R) 8).e=e at *
    go_wp2_with (first|refine lA BK.out (by rw[wG];exact aW) ?_|refine sA ks BB.out (by rw[wG,au]) (by rw[au];exact aW) ?_)
    have PU:=bB (rs':=ks) BB.out (by rw[wG,au])
    have eO:=lS PU.1 (by rw[wG];exact aW)
    have GF:=Zd (aG GM.out PU.2 gA)
    refine bodyPost_ret (v:=.tuple #[.agg (aD ks),.int .i64 e,.bool true]) ?_ rfl ?_
    ·simp[results,results18,asAddr,Act.put,eO]
    rw[ER.out];exact⟨rfl,GF.out⟩
  have ER:=Zd (NO.out (by unfold Ya;simp[h0]))
  have BK:=Zd L0.out.2.2.1
  have BB:=Zd L0.out.2.1
  have GM:=Zd L0.out.2.2.2
  clear hG hB
  obtain⟨ks,hks⟩:∃ks,ks=ay 8:=⟨_,rfl⟩
  have wG:ks.length=8:=by subst hks;rfl
  rw[←hks]at BK ER
  clear hks
  generalize aC R 0=x at *
  have hx:x<1:=gA
  go_wp2_with (first|refine lA BK.out (by rw[wG];exact aW) ?_|refine sA ks BB.out (by rw[wG,au]) (by rw[au];exact aW) ?_)
  have PU:=bB (rs':=ks) BB.out (by rw[wG,au])
  have eO:=lS PU.1 (by rw[wG];exact aW)
  have GF:=Zd (aG GM.out PU.2 gA)
  refine bodyPost_ret (v:=.tuple #[.agg (aD ks),.int .i64 0,.bool false]) ?_ rfl ?_
  ·simp[results,results18,asAddr,Act.put,eO]
  rw[ER.out];exact⟨rfl,GF.out⟩
theorem abC (w:World):Sem.run prog (zeroValue 49) w=.ok (.agg (aD (ay 25))) w:=abq w
theorem Uq (v:Value)(l:List Int)(w:World)(h:aS w v l)(hl:l.length=120)(hr:aL l=true) :
 Calls prog 17 #[v] w fun x w'=>x=.returned (.tuple #[.agg (aD (oz l)),.int .i64 ((VP l:Int)-31),.int .i64 0])∧w.grownBy w' none:=by
 refine(S_ v l w h hl hr).mono ?_
 rintro x w' ⟨n,hn,hx,hg⟩
 have hp:=xq (f:=wN l)
 have hb:=tY (Mw l hl hr) 0 gA
 have e:n=VP l:=Ck gA hn (Fx _ gA gA)
 subst e
 exact⟨by rw[hx,Kv];rfl,hg⟩
theorem abD (l:List Int)(i:Nat)(x:Int)(h:aC l i=x):l.set i x=l:=by
 apply List.ext_getElem?
 intro j
 rw[List.getElem?_set]
 split
 ·rename_i e
  subst e
  split
  ·rename_i q
   rw[List.getElem?_eq_getElem q,←h]
   simp[aC,List.getD,q]
  rename_i q
  rw[List.getElem?_eq_none gA]
 rfl
theorem Ur (a0:Addr)(c0:Nat)(a1:Addr)(c1:Nat)(a2:Addr)(c2:Nat)(w:World)(e:List Int)(s:Bool)(he:e.length=225)(iQ:jv e)(v:Value)(l:List Int)(hi:aS w v l)(hsz:l.length*8≤140737488351232)(r:Bool)(hW:oZ w a0 c0)(hS:Steps w a1 c1)(hG:wQ w a2 c2)(hok:q9 e l) :Calls prog 6 #[eX e s,v,.bool r] w (pW w (nQ e l r) (oC e l r) (oD e l r) (nR e l r) (je e l)):=by
 have Q0:=Zd (Jw.new w e s)
 have CE:=Zd (bY he s)
 have ZC:=Zd (bY (au 225) false)
 have ZO:=Zd (gu (ay 225) false)
 have hz:=jo
 have HE:=Zd he
 have hl:=hok.1
 have hg:=hok.2.1
 have hh:=hok.2.2.1
 have hc:=hok.2.2.2
 have yP:=Zs ((iG e l).length=80) ((xH hh).trans hl)
 have IW:=Zd (xJ hl hh)
 obtain⟨al,cl,rfl⟩:=nY hi gA
 have HI:=Zd (fun wr (g:w.grownBy wr none)=>aP hi g)
 rw[hl]at HI ⊢
 have HL:=Zd hl
 have GD:=Zd (fun wr=>lI (fF e) s (aR _ _ _) (fun i=>by
  by_cases q:i<101
  ·unfold fF;rw[fV _ _ _ _ q];exact iQ _
  rw[dO _ i (by unfold fF;rw[aR];omega)];omega) wr)
 rw[hg]at GD
 have PM:=Zd (lZ s he)
 rw[show bP e 124 101=fF e from rfl]at PM
 have PH:=Zd (show((bK e s).drop 0).take 4=aO [aC e 0,aC e 1,aC e 2,aC e 3]from by
  rw[m_ s 0 4 gA];rfl)
 have HG:=Zd (fun wr (h:aS wr (.slice (some al) 80 cl) l)=>wK (aC e 0) (aC e 1) (aC e 2) (aC e 3) (.slice (some al) 80 cl) l wr h (.inr ⟨al,cl,by rw[HL.out]⟩) gA)
 rw[show Vx (aC e 0) (aC e 1) (aC e 2) (aC e 3) l=iG e l from rfl]at HG
 unfold hiT at HG
 generalize hh0:hiM (aC e 0) (aC e 1) (aC e 2) (aC e 3) l 0=h0 at HG
 generalize hh1:hiM (aC e 0) (aC e 1) (aC e 2) (aC e 3) l 1=h1 at HG
 generalize Zb:hiM (aC e 0) (aC e 1) (aC e 2) (aC e 3) l 2=h2 at HG
 generalize hh3:hiM (aC e 0) (aC e 1) (aC e 2) (aC e 3) l 3=h3 at HG
 have hE:Qr (aC e 0) (aC e 1) (aC e 2) (aC e 3) l=0:=by unfold Qr;unfold vH at hh;rw[if_pos hh]
 rw[hE]at HG
 have EHP:=Zs (vG e l=[h0,h1,h2,h3]) (by unfold vG;rw[hh0,hh1,Zb,hh3])
 have CO:=Zd (fun v wr (h:aS wr v (lT e l))=>Uq v (lT e l) wr h IW.out hc)
 have RL:=Zd (zR (lT e l))
 have LV:=Zd (fun wr=>Dl (oz (lT e l)) (zR _) wr)
 have KL:=Zd (zk (oz (lT e l)))
 have QA:=Zd (fun wr (g:w.grownBy wr none)=>Qy (lN (oz (lT e l))) (zk _) a0 c0 wr (jm hW g))
 rw[(DL _ (YZ (oz (lT e l)))).1,(DL _ (YZ (oz (lT e l)))).2]at QA
 rw[show quL (lN (oz (lT e l)))=kG e l from rfl]at QA
 have gq:VO (kG e l):=vY _
 have QL:=Zd gq.1
 have VA:=Zd (fun wr (g:w.grownBy wr none)=>sO (kG e l) gq.1 a0 c0 wr (jm hW g))
 rw[(zQ _ gq).1,(zQ _ gq).2]at VA
 have ns:bN (gY (kG e l))=true:=rW _ gq
 have NL:=Zd (kX (kG e l))
 have FR:=Zd (fun u=>qx u)
 have DT:=Zd (fun v wr (h:aS wr v (iG e l))=>xO v v (iG e l) (iG e l) wr h h (by rw[yP.out];omega) (Nat.le_refl _) (xI hh) (xI hh))
 rw[yP.out]at DT
 obtain⟨f1,f2⟩:=FM (e:=e) r hg
 obtain⟨kd,hkd⟩:∃kd:Int,Jh e l r=kd:=⟨_,rfl⟩
 obtain⟨s0,hs0⟩:∃s0:Bool,(if r=true then false else s)=s0:=⟨_,rfl⟩
 have ekd:Jh e l r=kd:=hkd
 have GP:=FQ (l:=l) r hg
 have PLN:=Zd (Y2 (l:=l) r hg)
 have PC:=Zd (fun wr (g:w.grownBy wr none)=>Uo (n_ e l r) PLN.out (fun i=>by
  by_cases q:i<25
  ·have:=(kF _).1 GP i q;have:=(Bf i q).2.2;omega
  rw[dO _ i (by rw[PLN.out];omega)];omega) GP a0 c0 wr (jm hW g))
 have PY:=Zd (fun wr (g:w.grownBy wr none)=>TM w a0 c0 hW a1 c1 hS a2 c2 hG (fF e) s (aR _ _ _) hg (n_ e l r) PLN.out GP wr g)
 have MYL:=Zd (Fg (l:=fF e) (n_ e l r) (aR _ _ _))
 obtain⟨P1,hP1⟩:∃P1,(Rv (kG e l)).set 0 kd=P1:=⟨_,rfl⟩
 have P1L:=Zs (P1.length=25) (by rw[←hP1,List.length_set];exact nX _)
 have P10:=Zs (aC P1 0=kd) (by rw[←hP1];rw[qm _ _ _ (by rw[nX];omega),if_pos rfl])
 have UG:=fun k=>uh (iG e l) f1 f2 (kX (kG e l)) ns k
 have h_:=Zd (show ∀k,(kd=2→k=0)→(¬kd=2→k=2)→nC P1 (pR (gY (kG e l)) (pG e r) (iG e l)) k=n_ e l r from fun k z0 z2=>by
  by_cases q2:kd=2
  ·rw[z0 q2]
   show P1=_
   rw[←hP1,q2,afU gq.1]
   unfold n_ enS
   rw[ekd,q2,if_pos rfl]
  rw[z2 q2,Ru _ kd P1L.out P10.out gq.1 (fun i hi=>by rw[←hP1];rw[qm _ _ _ (by rw[nX];omega),if_neg gA,DZ gq.1 _ gA,if_pos gA,Nat.add_sub_cancel_left]) (UG 0).len (UG 1).len]
  unfold n_ enS
  rw[ekd,if_neg q2])
 have PSL:=Zd (fun k=>show(nC P1 (pR (gY (kG e l)) (pG e r) (iG e l)) k).length=25 by rw[rC];exact P1L.out)
 have PS0:=Zd (fun k=>(Ab (pR (gY (kG e l)) (pG e r) (iG e l)) P1L.out 0 gA k).trans P10.out)
 have PSS:=Zd (fun k (hk:k<2)=>Rt (pR (gY (kG e l)) (pG e r) (iG e l)) P1L.out k hk (UG k).len)
 have PST:=Zd (fun k=>show jr (nC P1 (pR (gY (kG e l)) (pG e r) (iG e l)) k) (9+8*k) (pR (gY (kG e l)) (pG e r) (iG e l) k)=nC P1 (pR (gY (kG e l)) (pG e r) (iG e l)) (k+1)from rfl)
 have MG:=fun k=>vZ (iG e l) f1 f2 (kX (kG e l)) ns k
 have ML:=Zd (fun k=>oJ (gY (kG e l)) (iG e l) f1 k)
 have AW:=fun k=>FK (iG e l) f1 f2 (kX (kG e l)) ns k
 have AWL:=Zd (fun k=>(AW k).len)
 have ULs:=Zd (fun k=>(UG k).len)
 have PRs:=Zd (fun(k:Nat) wr=>yT (bP (sU (gY (kG e l)) (pG e r) (iG e l) k) 0 8) (gY (kG e l)) (aR _ _ _) (kX _) k wr)
 have CHs:=Zs (∀(k:Nat),k<2→∀(sm:Bool) (vs:Value) (wr:World),w.grownBy wr none→aS wr vs (bP (iG e l) (40*k) 40)→Calls prog 24 #[dI (sU (gY (kG e l)) (pG e r) (iG e l) k) sm,.agg (aD (enA (gY (kG e l)) (pG e r) (iG e l) k)),vs] wr (jk wr (.agg (aD (pR (gY (kG e l)) (pG e r) (iG e l) k))))) (fun k hk sm vs wr g h=>JX wr a1 c1 (jR hS g) a2 c2 (lu hG g) (sU (gY (kG e l)) (pG e r) (iG e l) k) sm (oJ _ _ f1 k) (MG k) (enA (gY (kG e l)) (pG e r) (iG e l) k) (AW k) vs (bP (iG e l) (40*k) 40) h (aR _ _ _) ((AY _ _ _).2 (fun i hi=>(aV _).1 (xI hh) _ (by rw[yP.out];omega))))
 have SPs:=Zd (fun(k:Nat) (sm:Bool) wr (g:w.grownBy wr none)=>yu wr a1 c1 (jR hS g) a2 c2 (lu hG g) (sU (gY (kG e l)) (pG e r) (iG e l) k) sm (oJ _ _ f1 k) (L9 (oJ _ _ f1 k) (MG k)) (pR (gY (kG e l)) (pG e r) (iG e l) k) (UG k))
 have MKs:=Zd (fun(k:Nat) vs wr (h:aS wr vs (qG (sU (gY (kG e l)) (pG e r) (iG e l) k) (pR (gY (kG e l)) (pG e r) (iG e l) k))) (sh:rR vs (qG (sU (gY (kG e l)) (pG e r) (iG e l) k) (pR (gY (kG e l)) (pG e r) (iG e l) k)))=>pF (enA (gY (kG e l)) (pG e r) (iG e l) k) (bP (yK (sU (gY (kG e l)) (pG e r) (iG e l) k) (pR (gY (kG e l)) (pG e r) (iG e l) k)) 8 8) (AW k).len (aR _ _ _) vs (qG (sU (gY (kG e l)) (pG e r) (iG e l) k) (pR (gY (kG e l)) (pG e r) (iG e l) k)) wr h sh (by rw[zI (UG k)];omega))
 have SMs:=Zd (fun k=>show(yK (sU (gY (kG e l)) (pG e r) (iG e l) k) (pR (gY (kG e l)) (pG e r) (iG e l) k)).length=101 by rw[xg];exact oJ _ _ f1 k)
 have MST:=Zd (fun k=>show jr (yK (sU (gY (kG e l)) (pG e r) (iG e l) k) (pR (gY (kG e l)) (pG e r) (iG e l) k)) 8 (Du (enA (gY (kG e l)) (pG e r) (iG e l) k) (bP (yK (sU (gY (kG e l)) (pG e r) (iG e l) k) (pR (gY (kG e l)) (pG e r) (iG e l) k)) 8 8) (qG (sU (gY (kG e l)) (pG e r) (iG e l) k) (pR (gY (kG e l)) (pG e r) (iG e l) k)))=sU (gY (kG e l)) (pG e r) (iG e l) (k+1)from rfl)
 have APK:=Zd (fun k=>show gK (bP (sU (gY (kG e l)) (pG e r) (iG e l) k) 0 8) (gY (kG e l)) k=enA (gY (kG e l)) (pG e r) (iG e l) k from rfl)
 have M00:=Zs (sU (gY (kG e l)) (pG e r) (iG e l) 0=if r=true then iL else fF e) (by show pG e r=_;unfold pG;rcases r<;>rfl)
 have P1V:=Zd (show kd=0→P1=Rv (kG e l)from fun q=>by
  rw[←hP1,q]
  refine abD (Rv (kG e l)) 0 0 ?_
  rw[DZ gq.1 0 gA,if_neg gA])
 have CUT:=Zd (fun(k:Nat) (hk:k<2)=>afV (iG e l) k (by rw[yP.out];omega))
 have CELLS:=Zd (fun(M:List Int) (b:Bool) (h:M.length=101)=>aaU [h0,h1,h2,h3] (lT e l) M b rfl IW.out h)
 have FL:=Zs (([h0,h1,h2,h3]++(lT e l++oW (fF e) (n_ e l r))).length=225) (by rw[List.length_append,List.length_append,IW.out,MYL.out];rfl)
 have F:=Zd (show ∀vb vl w',jw w.heap.size w' vb (Cg (n_ e l r))→gP w.heap.size w' vl (sK (fF e) (n_ e l r))→w.grownBy w' none→pW w (nQ e l r) (oC e l r) (oD e l r) (nR e l r) (je e l) (.returned (.tuple #[eX ([h0,h1,h2,h3]++(lT e l++oW (fF e) (n_ e l r))) (oV (n_ e l r)),vb,vl,.int .i64 0])) w' from fun vb vl w' o1 o2 q=>
  ⟨vb,vl,by rw[(oK r hok).1,(oK r hok).2.1,(oK r hok).2.2.2.2,EHP.out],by rw[(oK r hok).2.2.1];exact o1,by rw[(oK r hok).2.2.2.1];exact o2,q⟩)
 have HP1:=Zd hP1
 have hzp:=abC
 have hzm:=gV
 have d80:=Zd (show(r=true∧kd=1)∨(r=false∧fE (iG e l) (iG e l) 80<1280∧kd=2)∨(r=false∧¬fE (iG e l) (iG e l) 80<1280∧kd=0)from by
  rw[←hkd]
  unfold Jh
  cases r
  ·by_cases hd:fE (iG e l) (iG e l) 80<1280
   ·exact .inr (.inl ⟨rfl,hd,by rw[if_neg (by decide),if_pos hd]⟩)
   exact .inr (.inr ⟨rfl,hd,by rw[if_neg (by decide),if_neg hd]⟩)
  exact .inl ⟨rfl,if_pos rfl⟩)
 clear hl hg hh hc hE hh0 hh1 Zb hh3 hok iQ gq ns f1 f2 ekd GP hW hS hG hP1 UG MG AW hkd
 have XF:=Zd hs0
 clear hs0
 generalize pW w (nQ e l r) (oC e l r) (oD e l r) (nR e l r) (je e l)=T at *
 unfold dI at GD PY FR SPs CHs
 unfold jk at FR
 unfold eX at hz F ⊢
 generalize vw (oz (lT e l))=le at *
 generalize vC (oz (lT e l))=lg at *
 generalize lN (oz (lT e l))=KK at *
 generalize hcx:((VP (lT e l):Int)-31)=cx at CO
 clear hcx
 generalize oz (lT e l)=R at *
 generalize pR (gY (kG e l)) (pG e r) (iG e l)=US at *
 generalize enA (gY (kG e l)) (pG e r) (iG e l)=AS at *
 generalize sU (gY (kG e l)) (pG e r) (iG e l)=MS at *
 generalize gY (kG e l)=now at *
 generalize kG e l=q at *
 generalize fE (iG e l) (iG e l) 80=dd at *
 generalize oW (fF e) (n_ e l r)=YM at *
 generalize sK (fF e) (n_ e l r)=YL at *
 generalize oV (n_ e l r)=YS at *
 generalize Cg (n_ e l r)=YB at *
 generalize n_ e l r=PF at *
 go_enter func6,ntmps6
 go_upto_region 1 with fail
 generalize (w.alloc (.cells (bK e s).toArray 31)).alloc (.cells (bK (ay 225) false).toArray 31)=W0 at *
 go_wp2_with (first|refine lV 124 Q0.out.1 aY (by rw[CE.out];omega) PM.out ?_)
 refine(GD.out W0).mono ?_
 rintro x W1 ⟨rfl,g1⟩
 have Q1:=Zd (Q0.out.aH g1)
 clear g1 GD
 go_wp2_with (first|refine lV 0 Q1.out.1 pV (by rw[CE.out];omega) PH.out ?_)
 refine(HG.out W1 (HI.out W1 Q1.out.2.2)).mono ?_
 rintro x W2 ⟨vc,rfl,ic,g2⟩
 have Q3:=Zd ((Q1.out.aH g2).aH (ak W2 (.cells #[.int .i64 h0,.int .i64 h1,.int .i64 h2,.int .i64 h3] 24) none))
 have BH:=Zs (gN (W2.alloc (.cells #[.int .i64 h0,.int .i64 h1,.int .i64 h2,.int .i64 h3] 24)) W2.heap.size 24 [h0,h1,h2,h3]) (gN.new W2 24 [h0,h1,h2,h3])
 have IC:=Zd (aP ic (ak W2 (.cells #[.int .i64 h0,.int .i64 h1,.int .i64 h2,.int .i64 h3] 24) none))
 obtain⟨ac,cc,rfl⟩:=nY ic (by rw[yP.out];omega)
 rw[yP.out]at IC ⊢
 clear Q1 g2 HG ic
 go_upto_region 8 with fail
 generalize W2.alloc (.cells #[.int .i64 h0,.int .i64 h1,.int .i64 h2,.int .i64 h3] 24)=W3 at *
 generalize W2.heap.size=bh at *
 have N3:=Zs (w.heap.size+1+1≤W3.heap.size) (Q3.out.2.1.lt)
 have IP:=Zd (Q3.out.1.input 84 40 40 (by rw[HE.out];omega) gA)
 have SP:=Zs (rR (.slice (some ⟨w.heap.size,84,none⟩) 40 40) (bP e 84 40)) (.inr ⟨_,_,by rw[aR]⟩)
 go_wp2_with (at_builtin;refine dF (by rfl) _ _ rfl W3.heap.size _ _ [] (bP e 84 40) rfl rfl (bZ _ _) IP.out SP.out (by rw[aR];simp) (Nat.le_refl _) ?_)
 intro v4 w4 o4 g4
 (try rw[List.nil_append]at o4)
 have Q4:=Zd (Q3.out.aH g4)
 have BH4:=Zd (BH.out.aH g4)
 have IC4:=Zd (aP IC.out g4)
 have SC:=Zs (rR (.slice (some ac) 80 cc) (iG e l)) (.inr ⟨_,_,by rw[yP.out]⟩)
 have O4:=Zd o4
 have N4:=Zd (Nat.le_refl w4.heap.size)
 have G4:=Zd g4
 have A4:=Zs (∀x,v4.ownBlock=some x→W3.heap.size≤x) (fun x hx=>(o4.lt x hx).1)
 have S4:=Zs (W3.heap.size≤w4.heap.size) (g4.size)
 clear o4 g4
 go_wp2_with (at_builtin;refine dF (by rfl) _ _ rfl W3.heap.size _ _ (bP e 84 40) (iG e l) rfl rfl O4.out IC4.out SC.out (by rw[aR,yP.out];omega) S4.out ?_)
 intro v5 W5 o5 g5
 rw[show bP e 84 40++iG e l=lT e l from rfl]at o5
 have O5:=Zd o5
 have Q5:=Zd (Q4.out.own g5 (fun x hx=>by have:=A4.out x hx;have:=N3.out;omega))
 have BH5:=Zd (Ta BH4.out g5 (fun x hx=>by have:=A4.out x hx;have:=BH.out.lt;omega))
 have IC5:=Zs (aS W5 (.slice (some ac) 80 cc) (iG e l)) (Tc (w:=W3) IC.out G4.out g5 (fun x hx=>A4.out x hx))
 clear o5 g5
 obtain⟨gi,ci,rfl,_,_,_⟩:=O5.out.form (by rw[IW.out];omega)
 rw[IW.out]at O5 ⊢
 generalize lT e l=II at *
 generalize iG e l=CC at *
 go_upto_region 9 with fail
 go_wp2_with fail
 refine(CO.out _ W5 O5.out.ints).mono ?_
 rintro x W6 ⟨rfl,g6⟩
 obtain⟨b1,b2,b3⟩:=dL W6 58 9 R RL.out
 have B1:=Zd b1
 have B7:=Zd b2
 have G7:=Zd (aB g6 b3)
 rw[J7]at B1 B7 G7
 clear g6 CO b1 b2 b3
 go_upto_region 10 with(first|refine sA R B1.out (by rw[RL.out,au]) (by rw[au];exact dz) ?_)
 generalize bT _ W6.heap.size R=W7 at *
 generalize W6.heap.size=bR at *
 go_wp2_with (first|refine lA B7.out (by rw[RL.out];exact dz) ?_)
 refine(LV.out W7).mono ?_
 rintro x W8 ⟨rfl,g8⟩
 obtain⟨b1,b2,b3⟩:=dL W8 26 8 KK KL.out
 have B1:=Zd b1
 have B9:=Zd b2
 have G9:=Zd (aB G7.out (aB g8 b3))
 rw[rF]at B1 B9 G9
 clear g8 LV b1 b2 b3
 go_upto_region 13 with(first|refine sA KK B1.out (by rw[KL.out,au]) (by rw[au];exact dV) ?_)
 generalize bT _ W8.heap.size KK=W9 at *
 generalize W8.heap.size=bk at *
 have Q9:=Zd (Q5.out.aH G9.out)
 have BH9:=Zd (BH5.out.aH G9.out)
 have IC9:=Zd (aP IC5.out G9.out)
 have IN9:=Zd (aP O5.out.ints G9.out)
 clear O5
 have agK:=Zd (gN.new W9 49 (ay 25))
 have PA:=agK.out.fu (m:=ay 25) rfl
 have aiz:=Zd PA.1
 have G10:=Zd (aG (ak W9 (.cells (aD (ay 25)) 49) none) PA.2 (Nat.le_refl _))
 have aiA:=Zs ((aO (ay 25)).length=25) (by rw[aM,au])
 have akK:=Zd (d9 (ay 25))
 have E12:=Zs (jr (ay 25) 1 q=Rv q) (rfl)
 have akL:=Zd (au 25)
 clear PA
 unfold gN at agK
 generalize ay 25=Z25 at *
 go_upto_region 14 with(first|refine sV 0 (aO Z25) agK.out gA (by rw[aiA.out];exact nS) akK.out ?_)
 (try simp only[Act.put])
 clear hzp
 generalize dQ (W9.alloc (.cells (aD Z25) 49)) W9.heap.size 0 (aO Z25)=W10 at *
 have NP:=Zd (Nat.le_refl W9.heap.size)
 have B10:=Zd (B9.out.aH G10.out)
 generalize hbp:W9.heap.size=bp at aiz ⊢
 have HBP:=Zd hbp
 clear hbp
 go_wp2_with (first|refine lA B10.out (by rw[KL.out];exact dV) ?_)
 refine(QA.out W10 (aB Q9.out.2.2 G10.out)).mono ?_
 rintro x W11 ⟨rfl,g11⟩
 have B11:=Zd (aiz.out.aH g11)
 have PU:=B11.out.put 1 q (by rw[QL.out,akL.out];omega)
 have B12:=Zd PU.1
 rw[E12.out]at B12
 have G12:=Zd (aG (aB G10.out g11) PU.2 (by have:=HBP.out;omega))
 have IQ:=Zd (d9 q)
 have IQL:=Zs ((aO q).length=8) (by rw[aM];exact QL.out)
 clear g11 QA aiz G10 PU
 go_upto_region 15 with(first|refine sV 1 (aO q) B11.out.v (by rw[IQL.out,aiA.out];omega) (by rw[IQL.out];exact dV) IQ.out ?_)
 (try simp only[Act.put])
 generalize dQ W11 bp 1 (aO q)=W12 at *
 have PQ:=Zd (gN.part (l:=Rv q) 1 8 (by rw[nX];omega))
 rw[adE QL.out]at PQ
 have PQL:=Zs ((aO (Rv q)).length=25) (by rw[aM];exact nX q)
 go_wp2_with (first|refine lV 1 B12.out.v dV (by rw[PQL.out];omega) PQ.out ?_)
 refine(VA.out W12 (aB Q9.out.2.2 G12.out)).mono ?_
 rintro x W13 ⟨rfl,g13⟩
 obtain⟨b1,b2,b3⟩:=dL W13 26 8 now NL.out
 have B1:=Zd b1
 have BN:=Zd b2
 have G13:=Zd (aB g13 b3)
 have NBN:=Zs (bp<W13.heap.size) ((B12.out.aH g13).lt)
 rw[rF]at B1 BN G13
 clear g13 VA b1 b2 b3
 go_upto_region 16 with(first|refine sA now B1.out (by rw[NL.out,au]) (by rw[au];exact dV) ?_)
 generalize bT _ W13.heap.size now=W14 at *
 generalize W13.heap.size=bn at *
 have B14:=Zd (B12.out.aH G13.out)
 have G14:=Zd (aB G12.out G13.out)
 have Q14:=Zd (Q9.out.aH G14.out)
 have M15:=Zd (dA.new W14 (ay 101) false)
 have MP:=M15.out.fu (m:=fF e) (t:=s) (au 101) (aR _ _ _)
 have NBM:=Zs (bn<W14.heap.size) (BN.out.lt)
 have NB:=Zs (NB3 W9 bp bn W14.heap.size) (⟨by have:=HBP.out;omega,NBN.out,NBM.out⟩)
 have ga:=ak W14 (.cells (aU (ay 101) false).toArray 29) none
 have E15:=Zs (Gz W9 bp bn W14.heap.size (Rv q) now (fF e) s (dQ (W14.alloc (.cells (aU (ay 101) false).toArray 29)) W14.heap.size 0 (aU (fF e) s))) (⟨aG (aB G14.out ga) MP.2 (by have:=HBP.out;have:=NBN.out;have:=NBM.out;omega),(B14.out.aH ga).aJ MP.2 (by have:=NBN.out;have:=NBM.out;omega),(BN.out.aH ga).aJ MP.2 (by have:=NBM.out;omega),MP.1⟩)
 have ZML:=Zd (aX (au 101) false)
 have CMM:=Zd (aX (show(fF e).length=101 from aR _ _ _) s)
 have IMM:=Zd (dY (fF e) s)
 clear MP ga G12
 unfold dA at M15
 unfold dI at hzm
 generalize aU (ay 101) false=ZM at *
 go_upto_region 17 with(first|refine lV 124 Q14.out.1 aY (by rw[CE.out];omega) PM.out ?_|refine sV 0 (aU (fF e) s) M15.out (by rw[ZML.out,CMM.out];omega) (by rw[CMM.out];exact aY) IMM.out ?_)
 (try simp only[Act.put])
 clear hzm
 generalize dQ (W14.alloc (.cells ZM.toArray 29)) W14.heap.size 0 (aU (fF e) s)=W15 at *
 generalize W14.heap.size=bm at *
 go_upto_if 86 with fail
 go_cut []from 28 (fun wx=>Gz W9 bp bn bm P1 now (MS 0) s0 wx)
 case first=>
  rcases d80.out with⟨r1,k1⟩|⟨r1,dc,k1⟩|⟨r1,dc,k1⟩
  ·subst r1 k1
   rw[if_pos rfl]at M00 XF
   clear d80
   go_wp2_with fail
   refine(FR.out _).mono ?_
   rintro x W16 ⟨rfl,g16⟩
   have E16:=Zd (E15.out.aH g16)
   have c0':=E16.out.2.1.cell 0 (by rw[nX];omega)
   have f0':=E16.out.2.1.free 0
   have E17:=Zd (E16.out.aiY NB.out 0 1 (by rw[nX];omega))
   rw[HP1.out]at E17
   have MA:=E17.out.allM NB.out iL false (aR _ _ _) jH
   have E18:=Zd MA.1
   have CFF:=Zd (aX jH false)
   have CMM:=Zd (aX (show(fF e).length=101 from aR _ _ _) s)
   have IFF:=Zd (dY iL false)
   clear g16 MA FR
   unfold Gz at E17
   generalize aU iL false=FC at *
   go_wp2_with (first|refine sV 0 FC E17.out.2.2.2 (by rw[CMM.out,CFF.out];omega) (by rw[CFF.out];exact aY) IFF.out ?_)
   go_meet
   rw[M00.out,←XF.out];exact E18.out
  ·subst r1 k1
   rw[if_neg (by decide)]at M00 XF
   have D9:=Zd dc
   clear FR d80 dc
   go_wp2_with fail
   refine(DT.out _ W15 (aP IC9.out E15.out.1)).mono ?_
   rintro x W16 ⟨rfl,g16⟩
   have E16:=Zd (E15.out.aH g16)
   have c0':=E16.out.2.1.cell 0 (by rw[nX];omega)
   have f0':=E16.out.2.1.free 0
   have E17:=Zd (E16.out.aiY NB.out 0 2 (by rw[nX];omega))
   rw[HP1.out]at E17
   clear E15 g16 DT
   have dc:=D9.out
   go_wp2_with fail
   go_meet
   rw[M00.out,←XF.out];exact E17.out
  subst r1 k1
  rw[if_neg (by decide)]at M00 XF
  have PV:=Zd (P1V.out rfl)
  have D9:=Zd dc
  clear FR d80 dc
  go_wp2_with fail
  refine(DT.out _ W15 (aP IC9.out E15.out.1)).mono ?_
  rintro x W16 ⟨rfl,g16⟩
  have E16:=Zd (E15.out.aH g16)
  clear E15 g16 DT
  have dc:=D9.out
  go_wp2_with fail
  go_meet
  rw[M00.out,←XF.out,PV.out];exact E16.out
 case rest=>
 have E19:=Zd hcut
 clear hcut E15 FR DT d80
 go_wp2_with fail
 go_loopw [23] (fun i wr=>∃k:Nat,i=.int .i64 k∧k≤2∧Hid (kd=2→k=0)∧Hid (Gz W9 bp bn bm (nC P1 US k) now (MS k) s0 wr)) (fun i _=>2-(intOf i).toNat)
 case atStart=>exact⟨0,rfl,Nat.zero_le _,fun _=>rfl,E19.out⟩
 case round=>
  obtain⟨k,rfl,hk,hZ,hE⟩:=hrel
  clear E19
  by_cases hkl':k<2∧¬kd=2
  ·obtain⟨jS,kd2⟩:=hkl'
   have hk2:(kd==2)=false:=beq_eq_false_iff_ne.2 kd2
   have KD2:=Zs (kd=2→k+1=0) (fun z=>absurd z kd2)
   clear kd2 hZ
   have aj5:(k:Int)<2:=gA
   have cp:=hE.out.2.1.cell 0 (by rw[PSL.out];omega)
   rw[PS0.out]at cp
   obtain⟨sm,hsm⟩:∃sm:Bool,s0=sm:=⟨_,rfl⟩
   have Jt:=Zd (SPs.out k sm)
   have MKl:=Zd (MKs.out k)
   have PR1:=Zd (PRs.out k)
   have CHk:=Zd (CHs.out k jS sm)
   have PS1:=Zd (PST.out k)
   have MS1:=Zd (MST.out k)
   have MKL:=Zd (ML.out k)
   have AL:=Zd (AWL.out k)
   have UL:=Zd (ULs.out k)
   have SML:=Zd (SMs.out k)
   have TL:=Zd (PSL.out k)
   have akM:=Zd (PSL.out (k+1))
   have PUP:=Zd (PSS.out k jS)
   obtain⟨vsl,tZ,isl,_⟩:=afT IC9.out (show rR (.slice (some ac) 80 cc) CC from .inr ⟨_,_,by rw[yP.out]⟩) (40*k) (40*k+40) gA (by rw[yP.out];omega) (by rw[yP.out];omega)
   rw[CUT.out k jS]at isl
   have IS:=Zd isl
   clear isl
   rw[show gK (bP (MS k) 0 8) now k=AS k from APK.out k]at PR1
   have PPL:=Zd (rQ (AS k) (bP (yK (MS k) (US k)) 8 8) (qG (MS k) (US k)))
   generalize Du (AS k) (bP (yK (MS k) (US k)) 8 8) (qG (MS k) (US k))=PP at *
   generalize xQ (AS k) (bP (yK (MS k) (US k)) 8 8) (qG (MS k) (US k))=LX at *
   generalize I8 (AS k) (bP (yK (MS k) (US k)) 8 8) (qG (MS k) (US k))=x3 at *
   generalize qG (MS k) (US k)=XK at *
   generalize yK (MS k) (US k)=SM at *
   generalize AS k=AK at *
   generalize US k=UK at *
   obtain⟨MK,hMK⟩:∃MK,MS k=MK:=⟨_,rfl⟩
   rw[hMK,hsm]at hE
   rw[hMK]at Jt PR1 CHk MKL
   have HSM:=Zd hsm
   clear hsm
   obtain⟨PK,hPK⟩:∃PK,nC P1 US k=PK:=⟨_,rfl⟩
   rw[hPK]at hE PS1 TL
   clear hMK hPK
   generalize akN:nC P1 US (k+1)=PK1 at *
   generalize akO:MS (k+1)=MK1 at *
   have amZ:=Zd akN
   have am0:=Zd akO
   clear akN akO
   have CMK:=Zd (aX MKL.out sm)
   have AMK:=Zd (dA.all sm MKL.out)
   have CSM:=Zd (aX SML.out sm)
   have ISM:=Zd (dY SM sm)
   have P0:=Zd (dA.part (l:=MK) sm 0 8 (by rw[MKL.out];omega))
   have P8:=Zd (dA.part (l:=SM) sm 8 8 (by rw[SML.out];omega))
   have PUK:=Zd (gN.part (l:=PK1) (9+8*k) 8 (by rw[akM.out];omega))
   rw[PUP.out]at PUK
   go_upto_region 24 with fail
   clear cp
   go_wp2_with (first|refine lV 0 hE.out.2.2.2 dV (by rw[CMK.out];omega) P0.out ?_|refine lA hE.out.2.2.1 (by rw[NL.out];exact dV) ?_)
   refine(PR1.out _).mono ?_
   rintro x w2 ⟨rfl,g2⟩
   obtain⟨b1,b2,b3⟩:=dL w2 58 9 AK AL.out
   have B1:=Zd b1
   have B3:=Zd b2
   have E3:=Zd ((hE.out.aH g2).aH b3)
   have NBA:=Zs (bm<w2.heap.size) ((hE.out.aH g2).2.2.2.lt)
   rw[J7]at B1 B3 E3
   clear g2 b1 b2 b3 hE PR1
   go_upto_region 25 with(first|refine sA AK B1.out (by rw[AL.out,au]) (by rw[au];exact dz) ?_)
   generalize bT _ w2.heap.size AK=w3 at *
   generalize w2.heap.size=ba at *
   have N3':=Zs (ba+1≤w3.heap.size) (B3.out.lt)
   have CH1:=Zd (fun u (h:dM w3 u)=>CHk.out vsl u (aB Q9.out.2.2 (aB E3.out.1 h)) (aP IS.out (aB E3.out.1 h)))
   have Jt:=Zd (fun u (h:W9.grownBy u none)=>Jt.out u (aB Q9.out.2.2 h))
   obtain⟨K1,hK1⟩:∃K1:Nat,40*k=K1:=⟨_,rfl⟩
   obtain⟨K2,hK2⟩:∃K2:Nat,K1+40=K2:=⟨_,rfl⟩
   rw[hK1,hK2]at tZ
   have EK1:=Zs (IntKind.i64.wrap ((40:Int)*(k:Int))=(K1:Int)) (by rw[fH _ gA gA];omega)
   have EK2:=Zs (IntKind.i64.wrap ((K1:Int)+40)=(K2:Int)) (by rw[fH _ gA gA];omega)
   refine b_ 13 (dM w3) 14 (by rfl) _ rfl (by kernel_rfl) (fun aK=>?_)
   have aj:=(aZ w3)
   refine bF 0 aj aK fun aK=>?_
   refine jq (hy:=by intro w' bL;(try dsimp only at bL);exact dD rfl rfl (E3.out.2.2.2.aH bL) _ underlying29 rfl aY (by rw[CMK.out];omega) _ AMK.out) (v:=.agg (aU MK sm).toArray) 1 aj aK fun aK=>?_
   refine jq (hy:=by intro w' bL;(try dsimp only at bL);exact yA (B3.out.aH bL) (by rw[AL.out];exact dz)) (v:=.agg (aD AK)) 2 aj aK fun aK=>?_
   refine bF 3 aj aK fun aK=>?_
   refine bF 4 aj aK fun aK=>?_
   refine jq (hy:=by intro w' bL;(try dsimp only at bL);go_simp;(first|exact EK1.out|rw[EK1.out]|simp only[EK1.out])) (v:=.int .i64 (K1:Int)) 5 aj aK fun aK=>?_
   refine bF 6 aj aK fun aK=>?_
   refine jq (hy:=by intro w' bL;(try dsimp only at bL);go_simp;(first|exact EK1.out|rw[EK1.out]|simp only[EK1.out])) (v:=.int .i64 (K1:Int)) 7 aj aK fun aK=>?_
   refine jq (hy:=by intro w' bL;(try dsimp only at bL);go_simp;(first|exact EK2.out|rw[EK2.out]|simp only[EK2.out])) (v:=.int .i64 (K2:Int)) 8 aj aK fun aK=>?_
   refine bF (v:=vsl) 9 aj aK fun aK=>?_
   refine kC (i:=11) (v:=?an0) rfl (by kernel_rfl) aK (fun _ _ _ h=>h) (Or.inl ⟨by rfl,?akP⟩) aj (fun aK=>?an1)
   case akP=>(intro w' _;go_simp;(try with_reducible rfl))
   (try simp only[sZ])
   refine kT 10 aK fun K hK=>?_
   (try simp only[sZ])
   go_simp
   refine(CH1.out _ aj).mono ?_
   rintro x w4 ⟨rfl,q4⟩
   have Q4:=Zd q4
   clear q4
   go_wp2_with fail
   have iB:=(bD aj Q4.out)
   refine hK.out _ _ (fun _=>iB) (fun aK=>?_)
   replace aj:=iB
   clear iB
   (try simp only[sZ])
   refine jq (hy:=by intro w' bL;(try dsimp only at bL);go_simp;(try simp only[Nat.mul_comm]);(try with_reducible rfl)) (v:=.pointer (some ⟨bp,9+8*k,none⟩)) 12 aj aK fun aK=>?_
   refine kT 13 aK fun K hK=>?_
   (try simp only[sZ])
   have E4:=Zd (E3.out.aH aj)
   have E5:=Zd (E4.out.ac_ NB.out (9+8*k) UK (by rw[UL.out,TL.out];omega))
   rw[PS1.out]at E5
   have B5:=Zd ((B3.out.aH aj).aJ (E4.out.2.1.put (9+8*k) UK (by rw[UL.out,TL.out];omega)).2 (by have:=NBA.out;have:=NB.out.b;have:=NB.out.c;omega))
   have N5:=Zd (Nat.le_trans (Nat.le_trans N3'.out aj.size) (E4.out.2.1.put (9+8*k) UK (by rw[UL.out,TL.out];omega)).2.size)
   refine dG rfl 46 _ _ rfl bp (9+8*k) 49 (aO PK) (aO UK) rfl rfl E4.out.2.1 (by rw[aM,aM,UL.out,TL.out];omega) (by rw[aM,UL.out];exact Ir) (d9 _) ?_
   refine hK.out _ _ (fun h=>by cases h) (fun aK=>?_)
   clear aj
   (try simp only[sZ])
   clear E4
   generalize dQ w4 bp (9+8*k) (aO UK)=w5 at *
   refine bI _ _ _ _ (by rfl) ?_
   refine xP ?_
   clear CH1 tZ
   have Jt:=Zd (fun u (h:dM w5 u)=>Jt.out u (aB E5.out.1 h))
   go_upto_region 27 with fail
   refine b_ 9 (dM w5) 11 (by rfl) _ rfl (by kernel_rfl) (fun aK=>?_)
   have aj:=(aZ w5)
   refine jq (hy:=by intro w' bL;(try dsimp only at bL);exact dD rfl rfl (E5.out.2.2.2.aH bL) _ underlying29 rfl aY (by rw[CMK.out];omega) _ AMK.out) (v:=.agg (aU MK sm).toArray) 0 aj aK fun aK=>?_
   refine bF 1 aj aK fun aK=>?_
   refine bF 2 aj aK fun aK=>?_
   refine jq (hy:=by intro w' bL;(try dsimp only at bL);go_simp;(try simp only[Nat.mul_comm]);(try with_reducible rfl)) (v:=.pointer (some ⟨bp,9+8*k,none⟩)) 3 aj aK fun aK=>?_
   refine jq (hy:=by intro w' bL;(try dsimp only at bL);exact dD rfl rfl (E5.out.2.1.v.aH bL) _ underlying46 rfl Ir (by rw[aM,akM.out];omega) _ PUK.out) (v:=.agg (aO UK).toArray) 4 aj aK fun aK=>?_
   refine kT 5 aK fun K hK=>?_
   (try simp only[sZ])
   go_simp
   refine(Jt.out _ aj).mono ?_
   rintro x w6 ⟨v6,rfl,o6,q6⟩
   have Q6:=Zd q6
   have X6:=Zd (o6.base (Nat.le_trans N5.out aj.size))
   clear q6 o6
   unfold dI
   go_wp2_with fail
   have iB:=(bD aj Q6.out)
   refine hK.out _ _ (fun _=>iB) (fun aK=>?_)
   replace aj:=iB
   clear iB
   (try simp only[sZ])
   refine bF 6 aj aK fun aK=>?_
   refine bF 7 aj aK fun aK=>?_
   refine kC (i:=8) (v:=?apJ) rfl (by kernel_rfl) aK (fun _ _ _ h=>h) (Or.inl ⟨by rfl,?am1⟩) aj (fun aK=>?apK)
   case am1=>(intro w' _;go_simp;(try with_reducible rfl))
   (try simp only[sZ])
   refine kT 9 aK fun K hK=>?_
   (try simp only[sZ])
   have E6:=Zd (E5.out.aH aj)
   have MA:=E6.out.allM NB.out SM sm MKL.out SML.out
   have E7:=Zd MA.1
   have X7:=Zd (X6.out.dK MA.2 (by have:=NBA.out;omega))
   have B7:=Zd ((B5.out.aH aj).aJ MA.2 (by have:=NBA.out;omega))
   have N7:=Zd (Nat.le_trans (Nat.le_trans N5.out aj.size) MA.2.size)
   clear MA
   refine dG rfl 29 _ _ rfl bm 0 29 (aU MK sm) (aU SM sm) rfl rfl E6.out.2.2.2 (by rw[CMK.out,CSM.out];omega) (by rw[CSM.out];exact aY) ISM.out ?_
   refine hK.out _ _ (fun h=>by cases h) (fun aK=>?_)
   clear aj
   (try simp only[sZ])
   clear E6
   generalize dQ w6 bm 0 (aU SM sm)=w7 at *
   refine bI _ _ _ _ (by rfl) ?_
   refine wpAny_take (i:=10) (v:=?an2) rfl (by kernel_rfl) (by kernel_rfl) (by kernel_rfl) (fun _ _ _ h=>h) (Or.inl ⟨by rfl,?akQ⟩) ?an3
   case akQ=>(intro w';go_simp;(try with_reducible rfl))
   (try simp only[sZ])
   refine xP ?_
   clear Jt
   go_upto_region 28 with fail
   have akR:=Zd (MKl.out v6 w7 X7.out.ints X7.out.Iy)
   go_wp2_with (first|refine lA B7.out (by rw[AL.out];exact dz) ?_|refine lV 8 E7.out.2.2.2 dV (by rw[CSM.out];omega) P8.out ?_)
   refine akR.out.mono ?_
   rintro x w8 ⟨v8,rfl,o8,g8⟩
   have E8:=Zd (E7.out.aH g8)
   have MA:=E8.out.alc NB.out 8 PP (by rw[PPL.out,SML.out];omega)
   have E9:=Zd MA.1
   rw[MS1.out]at E9
   have IPP:=Zd (d9 PP)
   have LPP:=Zs ((aO PP).length=8) (by rw[aM];exact PPL.out)
   clear akR o8 g8 MA
   go_upto_region 23 with(first|refine sV 8 (aO PP) E8.out.2.2.2 (by rw[LPP.out,CSM.out];omega) (by rw[LPP.out];exact dV) IPP.out ?_)
   (try simp only[Act.put])
   generalize dQ w8 bm 8 (aO PP)=w9 at *
   go_wp2_with fail
   go_roundw
   case rel=>exact⟨k+1,by go_num,gA,KD2.out,by rw[amZ.out,am0.out,HSM.out];exact E9.out⟩
   case measure=>simp[intOf];omega
  have E20:=Zs (Gz W9 bp bn bm PF now (MS k) s0 wr) (by rw[←h_.out k hZ.out (fun h=>gA)];exact hE.out)
  have cp:=hE.out.2.1.cell 0 (by rw[PSL.out];omega)
  rw[PS0.out]at cp
  have hx:((k:Int)<2∧(kd==2)=true)∨¬(k:Int)<2:=by
   by_cases q:kd=2
   ·have:=hZ.out q
    exact .inl ⟨gA,beq_iff_eq.2 q⟩
   exact .inr gA
  clear hE hZ hkl'
  generalize MS k=MZ at *
  rcases hx with⟨x1,x2⟩|x1
  all_goals
   have PFL:=Zs ((aO PF).length=25) (by rw[aM];exact PLN.out)
   have PFA:=Zd (gN.all PF 25 PLN.out)
   go_upto_region 29 with fail
   clear cp
   go_wp2_with (first|refine lV 0 E20.out.2.1.v nS (by rw[PFL.out];omega) PFA.out ?_)
   refine(PC.out _ (aB Q9.out.2.2 E20.out.1)).mono ?_
   rintro x W30 ⟨vb,rfl,ob,g30⟩
   have E30:=Zd (E20.out.aH g30)
   have NQ:=Zs (w.heap.size+1+1≤W9.heap.size) (Q9.out.2.1.lt)
   have OB:=Zd (ob.base (b':=W9.heap.size) E20.out.1.size)
   clear E20 g30 ob PC
   go_upto_region 32 with fail
   have akS:=Zd (BH9.out.aH E30.out.1)
   have HPA:=Zd (gN.all [h0,h1,h2,h3] 4 rfl)
   have O31:=Zd (fU.new W30 (ay 225) false)
   have H25:=Zs (([h0,h1,h2,h3]++ay 221).length=225) (by rw[List.length_append,au];rfl)
   have OA:=O31.out.fu (m:=[h0,h1,h2,h3]++ay 221) (t:=false) (au 225) H25.out
   have O32:=Zd OA.1
   have ga:=ak W30 (.cells (bK (ay 225) false).toArray 31) none
   have G32:=Zd (aG ga OA.2 (Nat.le_refl _))
   have C32:=Zd (bY H25.out false)
   have I32:=Zd (gu ([h0,h1,h2,h3]++ay 221) false)
   have BF:=Zd (fun ops rest op a w Q=>@Bu ops rest op a w Q)
   unfold eX at BF
   clear OA ga
   unfold fU at O31 O32
   replace BF:=Zd (fun ops rest op a w Q hgd x ho hx=>BF.out ops rest op a w Q hgd x ho h0 h1 h2 h3 hx)
   generalize bK ([h0,h1,h2,h3]++ay 221) false=EC at *
   go_upto_region 33 with(first|refine lV 0 akS.out.v pV (by rw[aM];exact Nat.le_refl _) HPA.out ?_|refine BF.out _ _ _ _ _ _ rfl _ rfl rfl ?_|refine sV 0 EC O31.out (by rw[ZC.out,C32.out];omega) (by rw[C32.out];exact dH) I32.out ?_)
   (try simp only[Act.put])
   clear BF
   generalize dQ (W30.alloc (.cells (bK (ay 225) false).toArray 31)) W30.heap.size 0 EC=W32 at *
   have NO:=Zs (W9.heap.size≤W30.heap.size) (E30.out.1.size)
   have NP':=Zs (bm<W30.heap.size) (E30.out.2.2.2.lt)
   have E32:=Zd (E30.out.aH G32.out)
   have akT:=Zd (OB.out.aH G32.out)
   generalize W30.heap.size=bo at *
   have INC:=Zd (aP IN9.out E32.out.1)
   have SRC:=Zd (fun j (hj:j<120)=>show W32.cell? ((⟨gi,0,none⟩:Addr).add j)=some (.int .i64 (aC II j))from by
    obtain⟨aa,haa,hcc⟩:=jW INC.out j (by rw[IW.out];exact hj)
    cases haa
    exact hcc)
   go_wp2_with (refine uX rfl _ _ rfl bo 4 120 120 120 ci 31 EC II ⟨gi,0,none⟩ O32.out rfl rfl IW.out gA SRC.out (by rw[C32.out];omega) ?_)
   intro W33 b33 g33
   have O33:=Zd b33
   have GX:=Zs (W9.grownBy W33 none) (aG E32.out.1 g33 NO.out)
   have E33:=Zs (gN W33 bp 49 PF) (E32.out.2.1.aJ g33 (by have:=NB.out.b;have:=NB.out.c;have:=NP'.out;omega))
   have akU:=Zd (akT.out.aJ g33 O32.out (by decide))
   have Q33:=Zd (Q9.out.aH GX.out)
   clear b33 g33
   go_upto_region 35 with fail
   have NBO:=Zs (bo<W33.heap.size) (O33.out.lt)
   go_wp2_with (first|refine lV 124 Q33.out.1 aY (by rw[CE.out];omega) PM.out ?_|refine lV 0 E33.out.v nS (by rw[PFL.out];omega) PFA.out ?_)
   refine(PY.out W33 Q33.out.2.2).mono ?_
   rintro x W34 ⟨vl,rfl,ol,g34⟩
   unfold dI
   have O34:=Zd (O33.out.aH g34)
   have CY:=Zd (aX MYL.out YS)
   have IY:=Zd (dY YM YS)
   have C33:=Zs ((mG EC 4 (aO II)).length=226) (by rw[abM _ _ _ (by rw[aM,IW.out,C32.out];omega)];exact C32.out)
   have PV:=tC O34.out 124 (aU YM YS) (by rw[CY.out,C33.out];omega)
   rw[CELLS.out YM YS MYL.out]at PV
   have O35:=Zd PV.1
   have Q35:=Zd ((Q33.out.aH g34).own PV.2 (fun x hx=>by cases hx;have:=NO.out;have:=NQ.out;omega))
   have akV:=Zd ((akU.out.aH g34).aJ PV.2 O34.out (by decide))
   have akW:=Zd ((ol.base (b':=bo+1) NBO.out).dK PV.2 gA)
   clear PV g34 ol PY Q33
   go_upto_region 36 with(first|refine sV 124 (aU YM YS) O34.out (by rw[CY.out,C33.out];omega) (by rw[CY.out];exact aY) IY.out ?_)
   (try simp only[Act.put])
   generalize dQ W34 bo 124 (aU YM YS)=W35 at *
   have CF:=Zd (bY FL.out YS)
   have AF:=Zd (fU.all YS FL.out)
   have IF:=Zd (gu ([h0,h1,h2,h3]++(II++YM)) YS)
   have PB:=Zd (Q35.out.fin ([h0,h1,h2,h3]++(II++YM)) YS FL.out)
   have FF:=Zd (F.out _ _ _ ((akV.out.dK PB.out.2.2 (by have:=NQ.out;omega)).base (b':=w.heap.size) (by have:=NQ.out;omega)) ((akW.out.dK PB.out.2.2 (by have:=NO.out;have:=NQ.out;omega)).base (b':=w.heap.size) (by have:=NO.out;have:=NQ.out;omega)) PB.out.2.1)
   generalize [h0,h1,h2,h3]++(II++YM)=EM at *
   go_wp2_with (first|refine lV 0 O35.out dH (by rw[CF.out];omega) AF.out ?_|refine sV 0 (bK EM YS) Q35.out.2.1 (by rw[ZC.out,CF.out];omega) (by rw[CF.out];exact dH) IF.out ?_)
   have eO:=wV PB.out.1 (by rw[CF.out];exact dH)
   refine bodyPost_ret (v:=.tuple #[.agg (bK EM YS).toArray,_,_,.int .i64 0]) ?_ rfl FF.out
   simp[results,results6,asAddr,Act.put,eO]
theorem J3 (a0:Addr)(c0:Nat)(a1:Addr)(c1:Nat)(a2:Addr)(c2:Nat)(w:World)(e:List Int)(s:Bool)(he:e.length=225)(iQ:jv e)(v:Value)(l:List Int)(hi:aS w v l)(hsz:l.length*8≤140737488351232)(r:Bool)(hW:oZ w a0 c0)(hS:Steps w a1 c1)(hG:wQ w a2 c2):Calls prog 6 #[eX e s,v,.bool r] w (pW w (nQ e l r) (oC e l r) (oD e l r) (nR e l r) (je e l)):=by
 by_cases hl:l.length=80
 ·rcases hg:cO (fF e)with _|_
  ·exact JK w e s he iQ v l hi hsz r hl hg
  rcases hh:vH e l with _|_
  ·exact Hy w e s he iQ v l hi hsz r hl hg hh
  rcases hc:aL (lT e l)with _|_
  ·exact Hz w e s he iQ v l hi hsz r hl hg hh hc
  exact Ur a0 c0 a1 c1 a2 c2 w e s he iQ v l hi hsz r hW hS hG ⟨hl,hg,hh,hc⟩
 exact Hw w e s he iQ v l hi hsz r hl
theorem OH (w:World):Calls prog 9 #[] w (jk w (eX uw false)):=by
 have B0:=Zd (fU.new w (ay 225) false)
 have G0:=Zd (ak w (.cells (bK (ay 225) false).toArray 31) none)
 have FR:=Zd (fun u=>qx u)
 have S1:=Zd (bY wI false)
 have S0:=Zd (bY (au 225) false)
 have O1:=Zd (gu uw false)
 have hz:=jo
 have F:=Zs (∀w',w.grownBy w' none→jk w (eX uw false) (.returned (eX uw false)) w') (fun w' q=>⟨rfl,q⟩)
 generalize jk w (eX uw false)=T at *
 have BF:=Zd (fun ops rest op a w Q=>@uy ops rest op a w Q)
 unfold jk at FR
 unfold dI at BF FR
 unfold eX at hz F BF
 go_enter func9,ntmps9
 go_upto_region 1 with fail
 generalize w.alloc (.cells (bK (ay 225) false).toArray 31)=W0 at *
 go_wp2_with fail
 refine(FR.out _).mono ?_
 rintro x W1 ⟨rfl,g1⟩
 have B1:=Zd (B0.out.aH g1)
 have PU:=B1.out.fu (m:=uw) (t:=false) (au 225) wI
 have PB:=Zd PU.1
 have FF:=Zd (F.out _ (aG (aB G0.out g1) PU.2 (Nat.le_refl _)))
 clear PU g1 FR
 unfold fU at B1 PB
 generalize aU iL false=FC at *
 generalize bK uw false=M at *
 go_wp2_with (first|refine BF.out _ _ _ _ _ _ rfl _ rfl rfl ?_|refine sV 0 M B1.out (by rw[S0.out,S1.out];omega) (by rw[S1.out];exact dH) O1.out ?_)
 have eO:=wV PB.out (by rw[S1.out];exact dH)
 refine bodyPost_ret (v:=.agg M.toArray) ?_ rfl FF.out
 simp[results,results9,asAddr,Act.put,eO]
theorem crd_codEncodes (W:World)(t0:TabA W 5 gro 15)(t1:TabA W 3 widq 8)(t2:TabA W 2 gains 8)(a3:Addr)(c3:Nat)(t3:TabS W 4 a3 c3 gro 15)(a4:Addr)(c4:Nat)(t4:TabS W 1 a4 c4 wids 8)(a5:Addr)(c5:Nat)(t5:TabS W 0 a5 c5 gains 8)(e0:List Int)(s:Bool)(he:e0.length=225)(iQ:jv e0)(v:Value)(l:List Int)(hi:aS W v l)(hl:l.length*8≤140737488351232)(Xf:jv l)(hsh:rR v l)(r:Bool) :
 Calls prog 3 #[eX e0 s,v,.bool r] W fun e w'=>e=.returned (.bool true)∧Below W.heap.size W w':=
 Hr W (ah6 t0 t1 t2) (fun e s he iQ v l wr g hi sh Xf hsz r=>J3 a4 c4 a3 c3 a5 c5 wr e s he iQ v l hi gA r (jG t4 g) (jG t3 g) (jG t5 g)) (ah7 W) (fun wr g=>OH wr) e0 s he iQ v l hi hl Xf hsh r
end Go.Proofs.YtbaccaipcimlhaaGreatDoor
