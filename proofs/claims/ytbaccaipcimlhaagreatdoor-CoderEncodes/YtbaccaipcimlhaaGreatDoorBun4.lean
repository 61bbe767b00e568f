/- Texts put together: PulB, PulC, PulD, PulE, PulF, PulG, PulH, PkpD, EncEq, PktE, BigW, BigM, BigN, BigQ, BigR, BigU, BigZ, BigO, RefPow, RefBet, RefPulS, RefPulC, RefPulD, RefPulE, RefPulF, BigI. -/
import Derived.Test.YtbaccaipcimlhaaGreatDoorBun2
import Derived.Test.YtbaccaipcimlhaaGreatDoorBun1
import Derived.BigQuiet
import Derived.Deep.QuietTactic
import Derived.Test.YtbaccaipcimlhaaGreatDoorBun3
import Derived.Laws.StructEq
import Derived.Laws.BytesArg
import Derived.Laws.CopyOwn
import Derived.Deep.RegionHeld3
import Derived.Laws.OwnMore
namespace Go.Proofs.YtbaccaipcimlhaaGreatDoor
open Go.RowKit
open Tryz
set_option linter.unusedSimpArgs false
set_option linter.unusedVariables false
set_option maxHeartbeats 4000000
set_option maxRecDepth 100000
def RU (l:List Int):List Int:=fM 40 (fun i=>eU (aC l i))
theorem RZ (l:List Int):(RU l).length=40:=bQ _ _
theorem G_ (v:Value)(l:List Int)(w:World)(h:aS w v l)(hl:l.length=40) :
 Calls prog 226 #[v] w fun e w'=>e=.returned (.slice (some ⟨w.heap.size,0,none⟩) 40 40)∧bO w' w.heap.size 3 (RU l)∧w.grownBy w' none:=by
 have IV:=Zd (fun wr (g:w.grownBy wr none)=>aP h g)
 have M0:=Zs (bO (w.alloc (.cells (aD (ay 40)) 3)) w.heap.size 3 (ay 40)∧w.grownBy (w.alloc (.cells (aD (ay 40)) 3)) none) (⟨bO.new w 3 (ay 40),ak _ _ none⟩)
 obtain⟨ad,c,rfl,hc,_⟩:=h
 rw[hl]at IV ⊢
 have jg:=fZ 40 gA
 rw[show((40:Nat):Int)=40 from rfl]at jg
 have HL:=Zd hl
 clear hc hl
 go_enter func226,ntmps226
 go_wp2_with fail
 clear jg
 generalize w.alloc (.cells (aD (ay 40)) 3)=W0 at *
 go_loopw [11] (fun i wr=>∃(m:Nat) (rs:List Int),i=.int .i64 m∧m≤40∧Hid (jh 40 (fun i=>eU (aC l i)) m rs)∧Hid (bO wr w.heap.size 3 rs∧w.grownBy wr none)) (fun i _=>40-(intOf i).toNat)
 case atStart=>exact⟨0,ay 40,rfl,Nat.zero_le _,gZ 40 _,M0.out⟩
 case round=>
  obtain⟨m,rs,rfl,hm,hF,hM⟩:=hrel
  clear M0
  by_cases kP:m<40
  ·have hlen:rs.length=40:=hF.out.1
   have iv:=IV.out wr hM.out.2
   obtain⟨Yr,c',e',h1,h2⟩:=iv
   simp only[Value.slice.injEq]at e'
   obtain⟨rfl,e2,rfl⟩:=e'
   clear e2
   obtain⟨a,rfl,h3⟩:=h2 (by rw[HL.out];omega)
   have cx:=h3 m (by rw[HL.out];omega)
   have cd:=hM.out.1.cell m gA
   have fd:=hM.out.1.free m
   have NF:=Zd (eP hF.out kP)
   have NM:=Zs (bO (wr.setCell ⟨w.heap.size,m,none⟩ (.int .i64 (eU (aC l m)))) w.heap.size 3 (rs.set m (eU (aC l m)))∧w.grownBy (wr.setCell ⟨w.heap.size,m,none⟩ (.int .i64 (eU (aC l m)))) none) (⟨hM.out.1.set m _,aG hM.out.2 (aF wr ⟨w.heap.size,m,none⟩ _) (Nat.le_refl _)⟩)
   have i1:(m:Int)<40:=gA
   have SA:=Zd (qC (aC l m) wr)
   clear hF hM hlen h1 h2 h3
   generalize eU (aC l m)=z at *
   generalize o16 (aC l m)=oo at *
   generalize aC l m=x at *
   generalize aC rs m=q at *
   go_wp2_with fail
   refine SA.out.mono ?_
   rintro e w1 ⟨rfl,rfl⟩
   clear SA
   go_wp2_with fail
   go_roundw
   case rel=>exact⟨m+1,_,by go_num,gA,NF.out,NM.out⟩
   case measure=>simp[intOf];omega
  obtain rfl:m=40:=gA
  have EL:=Zs (rs=RU l) (fB hF.out)
  have GF:=Zd hM.out
  clear hF hM
  go_wp2_with fail
  go_ret
  rw[EL.out]at GF
  exact⟨rfl,GF.out.1,GF.out.2⟩
def EnM (w wr:World)(l:List Int)(B:Nat)(rs:List Int):Prop:=bO wr w.heap.size 3 l∧bO wr B 222 rs∧w.heap.size<B∧w.grownBy wr none
theorem EnM.set {w wr:World}{l:List Int}{B:Nat}{rs:List Int}(h:EnM w wr l B rs)(k:Nat)(z:Int):EnM w (wr.setCell ⟨B,k,none⟩ (.int .i64 z)) l B (rs.set k z):=
 ⟨h.1.aJ (aF wr ⟨B,k,none⟩ _) (by have:=h.2.2.1;simp;omega),h.2.1.set k z,h.2.2.1,aG h.2.2.2 (aF wr ⟨B,k,none⟩ _) (by have:=h.2.2.1;simp;omega)⟩
theorem EnM.aH {w wr wr':World}{l:List Int}{B:Nat}{rs:List Int}(h:EnM w wr l B rs)(g:wr.grownBy wr' none):EnM w wr' l B rs:=⟨h.1.aH g,h.2.1.aH g,h.2.2.1,aB h.2.2.2 g⟩
theorem alj:(prog.info? 222).bind (·.zero)=some (.agg (aD (ay 1600))):=by kernel_rfl
theorem Dh (v:Value)(r:List Int)(w:World)(h:aS w v r)(hl:r.length=40) :
 Calls prog 213 #[v] w fun e w'=>∃B,e=.returned (.pointer (some ⟨B,0,none⟩))∧bO w' B 222 (tbl r)∧w.heap.size≤B∧w.grownBy w' none:=by
 have ST:=Zd (G_ v r w h hl)
 have RB:=Zd (fun i=>kK (aC r i))
 have hz:=gM alj
 clear h hl
 go_enter func213,ntmps213
 go_wp2_with fail
 refine ST.out.mono ?_
 rintro e w1 ⟨rfl,b1,g1⟩
 have M0:=Zs (EnM w (w1.alloc (.cells (aD (ay 1600)) 222)) (RU r) w1.heap.size (ay 1600)) (⟨b1.aH (ak _ _ none),bO.new w1 _ _,b1.lt,aB g1 (ak _ _ none)⟩)
 clear ST b1 g1
 go_wp2_with fail
 clear hz
 generalize w1.alloc _=W0 at *
 generalize w1.heap.size=B at *
 go_loopw [5,6] (fun i _ wr=>∃(n:Nat) (rs:List Int),i=.int .i64 ((n:Int)-1)∧n≤40∧Hid (TbF r n 0 rs)∧Hid (EnM w wr (RU r) B rs)) (fun i _ _=>(intOf i+1).toNat)
 case atStart=>exact⟨40,ay 1600,rfl,Nat.le_refl _,aah r,M0.out⟩
 case round=>
  obtain⟨n,rs,rfl,hn,hF,hM⟩:=hrel
  clear M0
  by_cases hn0:0<n
  ·obtain⟨A,rfl⟩:∃A,n=A+1:=⟨n-1,gA⟩
   rw[show(((A+1:Nat):Int)-1)=(A:Int) by omega]
   have hA:A≤39:=gA
   have F0:=Zd (aci hF.out)
   clear hF hn hn0
   go_wp2_with fail
   go_loopw [6] (fun i wr=>∃(m:Nat) (rs:List Int),i=.int .i64 ((m:Int)-1)∧m≤40∧Hid (TbF r A m rs)∧Hid (EnM w wr (RU r) B rs)) (fun i _=>(intOf i+1).toNat)
   case atStart=>exact⟨40,rs,rfl,Nat.le_refl _,F0.out,hM.out⟩
   case round=>
    obtain⟨m,rs,rfl,hm,hF,hM⟩:=hrel
    clear F0
    by_cases hm0:0<m
    ·obtain⟨D,rfl⟩:∃D,m=D+1:=⟨m-1,gA⟩
     rw[show(((D+1:Nat):Int)-1)=(D:Int) by omega]
     have hD:D≤39:=gA
     clear hm hm0
     have cx:=hM.out.1.cell (39-A) (by rw[RZ];omega)
     have cy:=hM.out.1.cell (39-D) (by rw[RZ];omega)
     rw[show aC (RU r) (39-A)=eU (aC r (39-A))from dN _ _ _ gA]at cx
     rw[show aC (RU r) (39-D)=eU (aC r (39-D))from dN _ _ _ gA]at cy
     have rl:=hF.out.1
     have ct:=hM.out.2.1.cell (A*40+D) gA
     have ft:=hM.out.2.1.free (A*40+D)
     obtain⟨x1,x2⟩:=RB.out (39-A)
     obtain⟨y1,y2⟩:=RB.out (39-D)
     obtain⟨p1,p2⟩:=pK _ _ x1 x2 y1 y2
     have LAST:=Zd (acf r A D hA hD)
     have STEP:=Zd (acg r A D)
     have NM:=Zd (hM.out.set (A*40+D) (eU (aC r (39-A))*eU (aC r (39-D))))
     have OTH:=Zd (aai gA gA hF.out (eU (aC r (39-A))*eU (aC r (39-D))))
     have NOW:=Zd (fun z hz=>Yz gA gA hF.out z hz)
     have NXT:=Zd (fun(h:A<39) (h':D<39)=>hF.out.2 (A+1) (D+1) gA gA (.inl gA))
     have J1:(39:Int)-(A:Int)=((39-A:Nat):Int):=gA
     have K1:(39:Int)-(D:Int)=((39-D:Nat):Int):=gA
     have jb:((39-A:Nat):Int)<40:=gA
     have kb:((39-D:Nat):Int)<40:=gA
     have ab:(A:Int)<40:=gA
     have db:(D:Int)<40:=gA
     clear hF hM
     generalize eU (aC r (39-A))=x at *
     generalize eU (aC r (39-D))=y at *
     generalize 39-A=J at *
     generalize 39-D=K' at *
     generalize aC rs (A*40+D)=q at *
     have WJ:=fH (J:Int) gA gA
     have WK:=fH (K':Int) gA gA
     have WP:=fH (x*y) gA gA
     go_upto_region 9 with fail
     generalize hwy:wr=wy at *
     clear hwy
     refine b_ 17 (fun w'=>w'=wy.drew) 18 (by rfl) _ rfl (by kernel_rfl) (fun aK=>?_)
     refine eF 0 rfl aK fun aK=>?_
     refine eF 1 rfl aK fun aK=>?_
     refine eF 2 rfl aK fun aK=>?_
     refine eF 3 rfl aK fun aK=>?_
     refine eF 4 rfl aK fun aK=>?_
     refine jq (hy:=by intro w' bL;subst bL;go_simp;try simp only[WJ]) (v:=.int .i64 (J:Int)) 5 rfl aK fun aK=>?_
     refine eF 6 rfl aK fun aK=>?_
     refine eF (v:=.int .i64 x) 7 rfl aK fun aK=>?_
     refine eF 8 rfl aK fun aK=>?_
     refine eF 9 rfl aK fun aK=>?_
     refine jq (hy:=by intro w' bL;subst bL;go_simp;try simp only[WK]) (v:=.int .i64 (K':Int)) 10 rfl aK fun aK=>?_
     refine eF 11 rfl aK fun aK=>?_
     refine eF (v:=.int .i64 y) 12 rfl aK fun aK=>?_
     refine jq (hy:=by intro w' bL;subst bL;go_simp;try simp only[WP]) (v:=.int .i64 (x*y)) 13 rfl aK fun aK=>?_
     refine eF 14 rfl aK fun aK=>?_
     refine eF 15 rfl aK fun aK=>?_
     refine eF 16 rfl aK fun aK=>?_
     refine kT 17 aK fun K hK=>?_
     (try simp only[sZ])
     go_simp
     go_wp2_with fail
     refine hK.out _ _ (fun h=>by cases h) (fun aK=>?_)
     (try simp only[sZ])
     refine bI _ _ _ _ (by rfl) ?_
     refine xP ?_
     have Nw:=Zd (NM.out.aH (aZ _))
     have nk:=mH rs (A*40+D) (x*y) gA
     have nn:=j_ rs (A*40+D) (x*y) ((A+1)*40+(D+1)) gA
     generalize (wy.setCell ⟨B,A*40+D,none⟩ (.int .i64 (x*y))).drew=wz at *
     clear cx cy ct ft J1 K1 jb kb WJ WK WP
     by_cases h1:A<39
     ·by_cases h2:D<39
      ·have ct:=Nw.out.2.1.cell (A*40+D) (by rw[List.length_set];omega)
       have ft:=Nw.out.2.1.free (A*40+D)
       have cn:=Nw.out.2.1.cell ((A+1)*40+(D+1)) (by rw[List.length_set];omega)
       rw[nk]at ct
       rw[nn,NXT.out h1 h2]at cn
       have SE:=Zd (STEP.out h1 h2)
       obtain⟨s1,s2⟩:=ach r (A+1) (D+1)
       have N2:=Zd (Nw.out.set (A*40+D) (x*y+Md r (A+1) (D+1)))
       have F2:=Zd (Yz gA gA OTH.out (x*y+Md r (A+1) (D+1)) SE.out.symm)
       clear nk nn
       generalize Md r (A+1) (D+1)=s at *
       have i1:(A:Int)<39:=gA
       have i2:(D:Int)<39:=gA
       have ab1:(A:Int)+1<40:=gA
       have db1:(D:Int)+1<40:=gA
       have ab0:(0:Int)≤(A:Int)+1:=gA
       have db0:(0:Int)≤(D:Int)+1:=gA
       have at1:((A:Int)+1).toNat=A+1:=gA
       have dt1:((D:Int)+1).toNat=D+1:=gA
       have WA:=fH ((A:Int)+1) gA gA
       have WD:=fH ((D:Int)+1) gA gA
       have WS:=fH (x*y+s) gA gA
       go_upto_region 11 with fail
       refine b_ 20 (fun w'=>w'=wz.drew) 21 (by rfl) _ rfl (by kernel_rfl) (fun aK=>?_)
       refine eF 0 rfl aK fun aK=>?_
       refine eF 1 rfl aK fun aK=>?_
       refine eF 2 rfl aK fun aK=>?_
       refine eF 3 rfl aK fun aK=>?_
       refine eF 4 rfl aK fun aK=>?_
       refine eF 5 rfl aK fun aK=>?_
       refine eF (v:=.int .i64 (x*y)) 6 rfl aK fun aK=>?_
       refine eF 7 rfl aK fun aK=>?_
       refine eF 8 rfl aK fun aK=>?_
       refine jq (hy:=by intro w' bL;subst bL;go_simp;try simp only[WA]) (v:=.int .i64 ((A:Int)+1)) 9 rfl aK fun aK=>?_
       refine eF 10 rfl aK fun aK=>?_
       refine jq (hy:=by intro w' bL;subst bL;go_simp;try simp only[WD]) (v:=.int .i64 ((D:Int)+1)) 11 rfl aK fun aK=>?_
       refine eF 12 rfl aK fun aK=>?_
       refine eF 13 rfl aK fun aK=>?_
       refine eF 14 rfl aK fun aK=>?_
       refine eF (v:=.int .i64 s) 15 rfl aK fun aK=>?_
       refine jq (hy:=by intro w' bL;subst bL;go_simp;try simp only[WS]) (v:=.int .i64 (x*y+s)) 16 rfl aK fun aK=>?_
       refine eF 17 rfl aK fun aK=>?_
       refine eF 18 rfl aK fun aK=>?_
       refine eF 19 rfl aK fun aK=>?_
       refine kT 20 aK fun K hK=>?_
       (try simp only[sZ])
       go_simp
       go_wp2_with fail
       refine hK.out _ _ (fun h=>by cases h) (fun aK=>?_)
       (try simp only[sZ])
       refine bI _ _ _ _ (by rfl) ?_
       refine xP ?_
       have N3:=Zd (N2.out.aH (aZ _))
       clear cn ct ft WA WD WS at1 dt1 ab1 db1 ab0 db0
       generalize (wz.setCell ⟨B,A*40+D,none⟩ (.int .i64 (x*y+s))).drew=wu at *
       go_wp2_with fail
       go_roundw
       case rel=>exact⟨D,_,rfl,gA,F2.out,N3.out⟩
       case measure=>simp[intOf]
      have EZ:=Zd (NOW.out _ (LAST.out (.inr gA)).symm)
      clear nk nn
      have i1:(A:Int)<39:=gA
      have i2:¬(D:Int)<39:=gA
      go_wp2_with fail
      go_roundw
      case rel=>exact⟨D,_,rfl,gA,EZ.out,Nw.out⟩
      case measure=>simp[intOf]
     have EZ:=Zd (NOW.out _ (LAST.out (.inl gA)).symm)
     clear nk nn
     have i1:¬(A:Int)<39:=gA
     go_wp2_with fail
     go_roundw
     case rel=>exact⟨D,_,rfl,gA,EZ.out,Nw.out⟩
     case measure=>simp[intOf]
    obtain rfl:m=0:=gA
    have NF:=hF
    have NM:=hM
    clear hF hM hm hm0
    rw[show(((0:Nat):Int)-1)=-1 from rfl]
    go_wp2_with fail
    go_roundw
    case rel=>exact⟨A,rs,rfl,gA,NF.out,NM.out⟩
    case measure=>simp[intOf]
  obtain rfl:n=0:=gA
  have EL:=Zd (aeY hF.out)
  have NM:=hM
  clear hF hM hn hn0
  rw[show(((0:Nat):Int)-1)=-1 from rfl]
  go_wp2_with fail
  go_ret
  rw[EL.out]at NM
  exact⟨B,rfl,NM.out.2.1,Nat.le_of_lt NM.out.2.2.1,NM.out.2.2.2⟩
theorem JA {ops:Array Oper}{rest:List Oper}{op:Oper}{a:Act}{w:World}{Q:Exit→Act→World→Prop}(hgd:op.guard=none)(T:TypeId)(i:Nat)(y:Operand)(ho:op.op=.build T #[(i,y)])(v0 v:Value)(hy:a.eval y=v0)
 (hrun:Sem.run prog (Instr.build T #[(i,v0)]) w=.ok v w) (k:wpList prog ops Q rest (a.put op.dst v) w):wpList prog ops Q (op::rest) a w:=by
 refine wpList_plain hgd fun _ hK=>?_
 unfold Oper.wp execOp
 have e:(#[(i,y)]:Array (Nat×Operand)).map (fun(i,x)=>(i,a.eval x))=#[(i,v0)]:=by simp[hy]
 simp only[ho,e,Sem.run_bind,hrun,Result.andThen_ok,Sem.run_pure]
 exact hK _ _ k
theorem ahZ:(prog.info? 211).bind (·.zero)=some (.agg (aD (ay 6))):=by kernel_rfl
theorem Ny:(prog.info? 211).map (·.size)=some 6:=by kernel_rfl
theorem ag0 (x:List Int)(hx:x.length=4):∃a b c d,x=[a,b,c,d]:=by
 match x,hx with
 | [a,b,c,d],_=>exact⟨a,b,c,d,rfl⟩
theorem adR (x:List Int)(hx:x.length=4)(u:World):Sem.run prog (Instr.build 211 #[(0,.agg (aD x))]) u=.ok (.agg (aD (x++[0,0]))) u:=by
 obtain⟨a,b,c,d,rfl⟩:=ag0 x hx
 exact run_build u 211 _ _ (by kernel_rfl)
theorem adS (x:List Int)(hx:x.length=4)(c e z:Int):(x++[c,e]).set 4 z=x++[z,e]∧(x++[c,e]).set 5 z=x++[c,z]∧aC (x++[c,e]) 4=c∧aC (x++[c,e]) 5=e∧(x++[c,e]).length=6:=by
 obtain⟨a,b,c,d,rfl⟩:=ag0 x hx
 exact⟨rfl,rfl,rfl,rfl,rfl⟩
def ScM (w wr:World)(x:List Int)(B7:Nat)(rs:List Int):Prop:=bO wr w.heap.size 44 x∧bO wr (w.heap.size+1) 211 (ay 6)∧bO wr B7 211 rs∧w.heap.size+1<B7∧w.grownBy wr none
theorem ScM.aH {w wr wr':World}{x rs:List Int}{B7:Nat}(h:ScM w wr x B7 rs)(g:wr.grownBy wr' none):ScM w wr' x B7 rs:=⟨h.1.aH g,h.2.1.aH g,h.2.2.1.aH g,h.2.2.2.1,aB h.2.2.2.2 g⟩
theorem ScM.set {w wr:World}{x rs:List Int}{B7:Nat}(h:ScM w wr x B7 rs)(k:Nat)(z:Int):ScM w (wr.setCell ⟨B7,k,none⟩ (.int .i64 z)) x B7 (rs.set k z):=by
 have hB:=h.2.2.2.1
 have g:=aF wr ⟨B7,k,none⟩ (.int .i64 z)
 exact⟨h.1.aJ g (by simp;omega),h.2.1.aJ g (by simp;omega),h.2.2.1.set k z,hB,aG h.2.2.2.2 g (by simp;omega)⟩
theorem ScM.put {w wr:World}{x rs rs':List Int}{B7:Nat}(h:ScM w wr x B7 rs)(hl:rs'.length=rs.length):ScM w (bT wr B7 rs') x B7 rs':=by
 have hB:=h.2.2.2.1
 have PU:=bB (rs':=rs') h.2.2.1 hl
 exact⟨h.1.aJ PU.2 gA,h.2.1.aJ PU.2 gA,PU.1,hB,aG h.2.2.2.2 PU.2 gA⟩
theorem JB (vd:Value)(d r x:List Int)(B:Nat)(w:World)(hd:aS w vd d)(hdl:d.length=40)(hB:bO w B 222 (tbl r))(hx:x.length=4)(hg:f_ x=true) :
 Calls prog 216 #[vd,.pointer (some ⟨B,0,none⟩),.agg (aD x)] w (qQ w (.agg (aD (x++[cS d x,eS d r x])))):=by
 have L2:=Zd (nI w 44 211 x (ay 6))
 have IX:=Zd (fun(k:Nat) (hk:k<4)=>fQ x underlying44 k gA hx)
 have PL:=Zd (Bc hg hx)
 have GX:=Zd ((iq x).1 hg)
 have DV:=Zd (fun wr (g:w.grownBy wr none)=>aP hd g)
 have TB:=Zd (fun wr (g:w.grownBy wr none)=>hB.aH g)
 have CH:=Zd (fun(c e z:Int)=>adS x hx c e z)
 have BC:=adR x hx
 obtain⟨ad,cp,rfl,hcp,_⟩:=hd
 have hz:=gM ahZ
 have HDL:=Zd hdl
 rw[hdl]
 clear hB hg hcp hdl
 go_enter func216,ntmps216
 go_upto_region 1 with fail
 have L0:=Zs (w.heap.size+1<((w.alloc (.cells (aD x) 44)).alloc (.cells (aD (ay 6)) 211)).heap.size) (by simp)
 generalize (w.alloc (.cells (aD x) 44)).alloc (.cells (aD (ay 6)) 211)=W1 at *
 have M1:=Zs (ScM w (W1.alloc (.cells (aD (ay 6)) 211)) x W1.heap.size (ay 6)) (⟨L2.out.1.aH (ak _ _ none),L2.out.2.1.aH (ak _ _ none),bO.new W1 _ _,L0.out,aB L2.out.2.2 (ak _ _ none)⟩)
 have M2:=Zd (M1.out.put (rs':=x++[0,0]) (by rw[(CH.out 0 0 0).2.2.2.2];rfl))
 have BB:=Zd L2.out.1
 go_upto_region 2 with(first|refine lA BB.out (by rw[hx];exact jB) ?_|refine JA rfl 211 0 _ rfl (.agg (aD x)) (.agg (aD (x++[0,0]))) rfl (BC _) ?_|refine sA (x++[0,0]) M1.out.2.2.1 (by rw[(CH.out 0 0 0).2.2.2.2];rfl) (by rw[au];exact Ny) ?_)
 clear BC hz
 (try simp only[Act.put])
 generalize bT (W1.alloc _) W1.heap.size (x++[0,0])=W2 at *
 generalize W1.heap.size=B7 at *
 have BB:=Zd M2.out.1
 go_wp2_with (first|refine lA BB.out (by rw[hx];exact jB) ?_)
 go_loopw [17] (fun i wr=>∃m:Nat,i=.int .i64 m∧m≤4∧Hid (ScM w wr x B7 (x++[EO d x m,E_ d r x m 0]))) (fun i _=>4-(intOf i).toNat)
 case atStart=>exact⟨0,rfl,Nat.zero_le _,M2.out⟩
 case round=>
  obtain⟨m,rfl,hm,hM⟩:=hrel
  clear M2
  by_cases hm4:m<4
  ·have uT:=IX.out m hm4
   have hPL:=PL.out m hm4
   obtain⟨g1,g2⟩:=GX.out m gA
   have AT:=Zd (xK (m:Int) (aC x m) gA gA g1 g2 wr)
   rw[show(m:Int)+4*aC x m=((iW x m:Nat):Int) by unfold iW;omega]at AT
   obtain⟨Yr,c',e',h1,h2⟩:=DV.out wr hM.out.2.2.2.2
   simp only[Value.slice.injEq]at e'
   obtain⟨rfl,e2,rfl⟩:=e'
   obtain⟨a,rfl,h3⟩:=h2 (by rw[HDL.out];omega)
   have cz:=h3 (iW x m) (by rw[HDL.out];omega)
   have CC:=CH.out (EO d x m) (E_ d r x m 0) (EO d x (m+1))
   have c4:=hM.out.2.2.1.cell 4 gA
   rw[CC.2.2.1]at c4
   have f4:=hM.out.2.2.1.free 4
   have NM:=Zd (hM.out.set 4 (EO d x (m+1)))
   rw[CC.1]at NM
   have i1:(m:Int)<4:=gA
   have i2:((iW x m:Nat):Int)<40:=gA
   rw[show EO d x (m+1)=wrap64 (EO d x m+wrap64 (sg (aC d (iW x m))*aC d (iW x m)))from rfl]at NM
   have EC:=Zs (EO d x (m+1)=wrap64 (EO d x m+wrap64 (sg (aC d (iW x m))*aC d (iW x m)))) (rfl)
   have ZE:=Zs (aC d (iW x m)=aC d (iW x m)) (rfl)
   clear e2 h1 h2 h3 hM CC
   generalize hz:aC d (iW x m)=z at cz NM EC
   generalize EO d x m=C at *
   have PE:=Zd (rfl:iW x m=iW x m)
   generalize hP:iW x m=P at *
   have HP:=Zd hP
   have HZ:=Zd hz
   clear hP hz
   generalize aC x m=pl at *
   go_wp2_with fail
   refine AT.out.mono ?_
   rintro e wy ⟨rfl,rfl⟩
   clear AT
   go_upto_region 6 with fail
   refine b_ 14 (fun w'=>w'=wy.drew) 15 (by rfl) _ rfl (by kernel_rfl) (fun aK=>?_)
   refine eF 0 rfl aK fun aK=>?_
   refine eF (v:=.int .i64 C) 1 rfl aK fun aK=>?_
   refine eF 2 rfl aK fun aK=>?_
   refine eF 3 rfl aK fun aK=>?_
   refine eF 4 rfl aK fun aK=>?_
   refine eF (v:=.int .i64 z) 5 rfl aK fun aK=>?_
   refine eF 7 rfl aK fun aK=>?_
   refine eF 8 rfl aK fun aK=>?_
   refine eF 9 rfl aK fun aK=>?_
   refine eF (v:=.int .i64 z) 10 rfl aK fun aK=>?_
   refine kT 6 aK fun K hK=>?_
   (try simp only[sZ])
   go_simp
   refine(rZ z _).mono ?_
   rintro e wc ⟨rfl,rfl⟩
   go_wp2_with fail
   refine hK.out _ _ (fun _=>rfl) (fun aK=>?_)
   (try simp only[sZ])
   refine jq (hy:=by intro w' bL;subst bL;go_simp;rw[IntKind.wrap_i64];simp only[wrap64]) (v:=.int .i64 (wrap64 (sg z*z))) 11 rfl aK fun aK=>?_
   refine jq (hy:=by intro w' bL;subst bL;go_simp;rw[IntKind.wrap_i64];simp only[wrap64]) (v:=.int .i64 (wrap64 (C+wrap64 (sg z*z)))) 12 rfl aK fun aK=>?_
   refine eF 13 rfl aK fun aK=>?_
   refine kT 14 aK fun K hK=>?_
   (try simp only[sZ])
   go_simp
   go_wp2_with fail
   refine hK.out _ _ (fun h=>by cases h) (fun aK=>?_)
   (try simp only[sZ])
   refine bI _ _ _ _ (by rfl) ?_
   refine xP ?_
   have Nw:=Zd (NM.out.aH (aZ _))
   generalize (wy.setCell ⟨B7,4,none⟩ (.int .i64 (wrap64 (C+wrap64 (sg z*z))))).drew=wz at *
   rw[←EC.out]at Nw
   clear NM EC c4 f4 cz uT g1 g2
   have BB:=Zd Nw.out.1
   go_wp2_with (first|refine lA BB.out (by rw[hx];exact jB) ?_)
   go_loopw [39] (fun i wr=>∃u:Nat,i=.int .i64 u∧u≤4∧Hid (ScM w wr x B7 (x++[EO d x (m+1),E_ d r x m u]))) (fun i _=>4-(intOf i).toNat)
   case atStart=>exact⟨0,rfl,Nat.zero_le _,Nw.out⟩
   case round=>
    obtain⟨u,rfl,hu,hM⟩:=hrel
    clear Nw
    by_cases hu4:u<4
    ·have uT:=IX.out u hu4
     have alk:=PL.out u hu4
     obtain⟨g1,g2⟩:=GX.out u gA
     have AT:=Zd (xK (u:Int) (aC x u) gA gA g1 g2 wr)
     rw[show(u:Int)+4*aC x u=((iW x u:Nat):Int) by unfold iW;omega]at AT
     obtain⟨Yr,c',e',h1,h2⟩:=DV.out wr hM.out.2.2.2.2
     simp only[Value.slice.injEq]at e'
     obtain⟨e1,e2,rfl⟩:=e'
     obtain⟨a',rfl,h3⟩:=h2 (by rw[HDL.out];omega)
     obtain rfl:a=a':=by simpa using e1
     have cz:=h3 P (by rw[HDL.out];omega)
     have cy:=h3 (iW x u) (by rw[HDL.out];omega)
     rw[HZ.out]at cz
     have ct:=(TB.out wr hM.out.2.2.2.2).cell (P*40+iW x u) (by rw[aeX];omega)
     rw[ahx r P (iW x u) hPL alk]at ct
     have CC:=CH.out (EO d x (m+1)) (E_ d r x m u) (E_ d r x m (u+1))
     have c5:=hM.out.2.2.1.cell 5 gA
     rw[CC.2.2.2.1]at c5
     have f5:=hM.out.2.2.1.free 5
     have NM:=Zd (hM.out.set 5 (E_ d r x m (u+1)))
     rw[CC.2.1]at NM
     have ES:=Zd (show E_ d r x m (u+1)=E_ d r x m u+sg z*sg (aC d (iW x u))*Md r P (iW x u) by
      rw[acn];unfold OQ Uw;rw[HP.out,HZ.out])
     have b1:=U7 d r x m u
     rw[show OQ d r x m u=sg z*sg (aC d (iW x u))*Md r P (iW x u) by unfold OQ Uw;rw[HP.out,HZ.out]]at b1
     have b2:=U9 d r x m (u+1) gA gA
     rw[ES.out]at b2 NM
     have b3:-1≤sg z*sg (aC d (iW x u))∧sg z*sg (aC d (iW x u))≤1:=by
      rcases oO z with⟨_,h⟩|⟨_,h⟩<;>rcases oO (aC d (iW x u))with⟨_,g⟩|⟨_,g⟩<;>rw[h,g]<;>omega
     have i3:(u:Int)<4:=gA
     have i4:((iW x u:Nat):Int)<40:=gA
     clear e1 e2 h1 h2 h3 hM CC
     generalize E_ d r x m u=E at *
     generalize Md r P (iW x u)=n at *
     generalize aC d (iW x u)=y at *
     generalize iW x u=Q at *
     generalize aC x u=ql at *
     have W1:=fH (sg z*sg y) gA gA
     have W2:=fH (sg z*sg y*n) gA gA
     have W3:=fH (E+sg z*sg y*n) gA gA
     go_wp2_with fail
     refine AT.out.mono ?_
     rintro e wy ⟨rfl,rfl⟩
     clear AT
     go_upto_region 11 with fail
     refine b_ 23 (fun w'=>w'=wy.drew) 24 (by rfl) _ rfl (by kernel_rfl) (fun aK=>?_)
     refine eF 0 rfl aK fun aK=>?_
     refine eF (v:=.int .i64 E) 1 rfl aK fun aK=>?_
     refine eF 2 rfl aK fun aK=>?_
     refine eF 3 rfl aK fun aK=>?_
     refine eF 4 rfl aK fun aK=>?_
     refine eF (v:=.int .i64 z) 5 rfl aK fun aK=>?_
     refine eF 7 rfl aK fun aK=>?_
     refine eF 8 rfl aK fun aK=>?_
     refine eF 9 rfl aK fun aK=>?_
     refine eF (v:=.int .i64 y) 10 rfl aK fun aK=>?_
     refine eF 13 rfl aK fun aK=>?_
     refine eF 14 rfl aK fun aK=>?_
     refine eF 15 rfl aK fun aK=>?_
     refine eF 16 rfl aK fun aK=>?_
     refine eF 17 rfl aK fun aK=>?_
     refine eF 18 rfl aK fun aK=>?_
     refine eF (v:=.int .i64 n) 19 rfl aK fun aK=>?_
     refine kT 6 aK fun K hK=>?_
     (try simp only[sZ])
     go_simp
     refine(rZ z _).mono ?_
     rintro e wc ⟨rfl,rfl⟩
     go_wp2_with fail
     refine hK.out _ _ (fun _=>rfl) (fun aK=>?_)
     (try simp only[sZ])
     refine kT 11 aK fun K hK=>?_
     (try simp only[sZ])
     go_simp
     refine(rZ y _).mono ?_
     rintro e wc ⟨rfl,rfl⟩
     go_wp2_with fail
     refine hK.out _ _ (fun _=>rfl) (fun aK=>?_)
     (try simp only[sZ])
     refine jq (hy:=by intro w' bL;subst bL;go_simp;try simp only[W1]) (v:=.int .i64 (sg z*sg y)) 12 rfl aK fun aK=>?_
     refine jq (hy:=by intro w' bL;subst bL;go_simp;try simp only[W2]) (v:=.int .i64 (sg z*sg y*n)) 20 rfl aK fun aK=>?_
     refine jq (hy:=by intro w' bL;subst bL;go_simp;try simp only[W3]) (v:=.int .i64 (E+sg z*sg y*n)) 21 rfl aK fun aK=>?_
     refine eF 22 rfl aK fun aK=>?_
     refine kT 23 aK fun K hK=>?_
     (try simp only[sZ])
     go_simp
     go_wp2_with fail
     refine hK.out _ _ (fun h=>by cases h) (fun aK=>?_)
     (try simp only[sZ])
     refine bI _ _ _ _ (by rfl) ?_
     refine xP ?_
     have Nw:=Zd (NM.out.aH (aZ _))
     generalize (wy.setCell ⟨B7,5,none⟩ (.int .i64 (E+sg z*sg y*n))).drew=wz at *
     rw[←ES.out]at Nw
     clear c5 f5 cz cy ct uT g1 g2 W1 W2 W3 b1 b2 b3
     go_wp2_with fail
     go_roundw
     case rel=>exact⟨u+1,by go_num,gA,Nw.out⟩
     case measure=>simp[intOf];omega
    obtain rfl:u=4:=gA
    have NM:=hM
    rw[aco]at NM
    clear hM
    rw[show((4:Nat):Int)=4 from rfl]
    go_wp2_with fail
    go_roundw
    case rel=>exact⟨m+1,by go_num,gA,NM.out⟩
    case measure=>simp[intOf];omega
  obtain rfl:m=4:=gA
  have BA:=Zd hM.out.2.2.1
  have BZ:=Zd hM.out.2.1
  have GG:=Zd hM.out.2.2.2.2
  have L6:=(CH.out (EO d x 4) (E_ d r x 4 0) 0).2.2.2.2
  rw[show EO d x 4=cS d x from rfl,show E_ d r x 4 0=eS d r x from rfl]at BA L6
  clear hM
  generalize x++[cS d x,eS d r x]=X at *
  have HL6:=Zd L6
  clear L6
  rw[show((4:Nat):Int)=4 from rfl]
  go_wp2_with (first|refine lA BA.out (by rw[HL6.out];exact Ny) ?_|refine sA X BZ.out (by rw[HL6.out,au]) (by rw[au];exact Ny) ?_)
  have PU:=bB (rs':=X) BZ.out (by rw[HL6.out,au])
  have eO:=lS PU.1 (by rw[HL6.out];exact Ny)
  have GF:=Zd (aG GG.out PU.2 gA)
  refine bodyPost_ret (v:=.agg (aD X)) ?_ rfl ⟨rfl,GF.out⟩
  simp[results,results216,asAddr,Act.put,eO]
structure Ae (base:Nat) (w w':World):Prop where
 os:w'.os=w.os
 tape:w'.tape=w.tape
 output:w'.output=w.output
 size:w.heap.size≤w'.heap.size
 block:∀k,base≤k→k<w.heap.size→w'.heap[k]?=w.heap[k]?
theorem Ae.refl (base:Nat)(w:World):Ae base w w:=⟨rfl,rfl,rfl,Nat.le_refl _,fun _ _ _=>rfl⟩
theorem Ae.trans {base:Nat}{a b c:World}(h:Ae base a b)(k:Ae base b c):Ae base a c:=
 ⟨k.os.trans h.os,k.tape.trans h.tape,k.output.trans h.output,Nat.le_trans h.size k.size,fun i hi hs=>(k.block i hi (Nat.lt_of_lt_of_le hs h.size)).trans (h.block i hi hs)⟩
theorem Ae.of {base:Nat}{a b:World}(h:a.grownBy b none):Ae base a b:=⟨h.os,h.tape,h.output,h.size,fun i _ hs=>h.block i hs (by simp)⟩
theorem Ae.more {base:Nat}{a b c:World}{r:Option Nat}(h:Ae base a b)(k:b.grownBy c r)(hr:∀i,r=some i→a.heap.size≤i):Ae base a c:=
 ⟨k.os.trans h.os,k.tape.trans h.tape,k.output.trans h.output,Nat.le_trans h.size k.size,fun i hi hs=>(k.block i (Nat.lt_of_lt_of_le hs h.size) (fun e=>by have:=hr i e.symm;omega)).trans (h.block i hi hs)⟩
theorem bO.frm {base:Nat}{w w':World}{b:Nat}{T:TypeId}{rs:List Int}(h:bO w b T rs)(g:Ae base w w')(hb:base≤b):bO w' b T rs:=(g.block b hb h.lt).trans h
theorem fA {w w':World}{b:Nat}{o:Obj}{r:Option Nat}(h:w.heap[b]?=some o)(g:w.grownBy w' r)(hb:some b≠r):w'.heap[b]?=some o:=(g.block b (aN h) hb).trans h
def ah0 (base:Nat)(Inv:Nat→World→Prop):Prop:=∀m wr wr' r,Inv m wr→wr.grownBy wr' r→(∀b,r=some b→base≤b)→Inv m wr'
def Vis (base n:Nat)(iN:Array Value)(Inv:Nat→World→Prop)(ix:Nat→List Int)(N:Nat):Prop:=
 ∀m wr,m<N→base≤wr.heap.size→Inv m wr→Calls prog n (#[.agg (aD (ix m))]++iN) wr fun e w'=>e=.returned (.tuple #[])∧Inv (m+1) w'∧Ae base wr w'
theorem B_ (n:Nat)(iN:Array Value)(hen:∀args u,(callFunc n args).run prog u=.ok (.enter n args) u)(base:Nat)(Inv:Nat→World→Prop)(hst:ah0 base Inv)(x:List Int)(hx:x.length=4)(t:Nat)(ht:t<4)
 (hV:Vis base n iN Inv (fun p=>x.set t (p:Int)) 10) (w:World) (hb:base≤w.heap.size) (hI:Inv 0 w) :
 Calls prog 186 #[.agg (aD x),.int .i64 (t:Int),.func (.func n) #[] iN] w fun e w'=>e=.returned (.tuple #[])∧Inv 10 w'∧Ae base w w':=by
 have HST:=Zd hst
 have HV:=Zd hV
 have HB:=Zd hb
 have W0:=Zs (bO (w.alloc (.cells (aD x) 44)) w.heap.size 44 x∧Inv 0 (w.alloc (.cells (aD x) 44))∧Ae base w (w.alloc (.cells (aD x) 44))) (⟨bO.new w _ _,hst 0 w _ none hI (ak _ _ none) (fun b e=>by cases e),Ae.of (ak _ _ none)⟩)
 clear hst hV hb hI
 go_enter func186,ntmps186
 go_wp2_with fail
 generalize w.alloc (.cells (aD x) 44)=W1 at *
 go_loopw [7] (fun i wr=>∃(p:Nat) (y:List Int),i=.int .i64 p∧p≤10∧Hid (y.length=4∧∀z:Int,y.set t z=x.set t z)∧Hid (bO wr w.heap.size 44 y∧Inv p wr∧Ae base w wr)) (fun i _=>10-(intOf i).toNat)
 case atStart=>exact⟨0,x,rfl,Nat.zero_le _,⟨hx,fun _=>rfl⟩,W0.out⟩
 case round=>
  obtain⟨p,y,rfl,hp,hy,hM⟩:=hrel
  clear W0
  by_cases ai2:p<10
  ·have ct:=hM.out.1.cell t (by have:=hy.out.1;omega)
   have ft:=hM.out.1.free t
   have gs:=aF wr ⟨w.heap.size,t,none⟩ (.int .i64 (p:Int))
   have NM:=Zd (show bO (wr.setCell ⟨w.heap.size,t,none⟩ (.int .i64 (p:Int))) w.heap.size 44 (x.set t (p:Int))∧Inv p (wr.setCell ⟨w.heap.size,t,none⟩ (.int .i64 (p:Int)))∧Ae base w (wr.setCell ⟨w.heap.size,t,none⟩ (.int .i64 (p:Int)))from
    ⟨by have:=hM.out.1.set t (p:Int);rw[hy.out.2]at this;exact this,HST.out p wr _ _ hM.out.2.1 gs (fun b e=>by have:=HB.out;cases e;exact this),hM.out.2.2.more gs (fun b e=>by cases e;exact Nat.le_refl _)⟩)
   have NY:=Zs ((x.set t (p:Int)).length=4∧∀z:Int,(x.set t (p:Int)).set t z=x.set t z) (⟨by simpa using hx,fun z=>by rw[List.set_set]⟩)
   have i1:(p:Int)<10:=gA
   have i2:(t:Int)<4:=gA
   clear hy hM gs
   generalize aC y t=q at *
   go_upto_region 5 with fail
   generalize wr.setCell ⟨w.heap.size,t,none⟩ (.int .i64 (p:Int))=W2 at *
   have BB:=Zd NM.out.1
   have V1:=Zd (HV.out p W2 ai2 (Nat.le_trans HB.out NM.out.2.2.size) NM.out.2.1)
   go_wp2_with (first|refine lA BB.out (by rw[NY.out.1];exact jB) ?_)
   refine V1.out.mono ?_
   rintro e w3 ⟨rfl,j3,f3⟩
   have N3:=Zs (bO w3 w.heap.size 44 (x.set t (p:Int))∧Inv (p+1) w3∧Ae base w w3) (⟨NM.out.1.frm f3 HB.out,j3,NM.out.2.2.trans f3⟩)
   clear V1 j3 f3
   go_wp2_with fail
   go_roundw
   case rel=>exact⟨p+1,_,by go_num,gA,NY.out,N3.out⟩
   case measure=>simp[intOf];omega
  obtain rfl:p=10:=gA
  have F:=Zd hM.out.2
  clear hM hy
  rw[show((10:Nat):Int)=10 from rfl]
  go_wp2_with fail
  go_end0
  exact⟨rfl,F.out⟩
theorem Ae.low {base:Nat}{a b c:World}{i:Nat}(h:Ae base a b)(k:b.grownBy c (some i))(hi:i<base):Ae base a c:=
 ⟨k.os.trans h.os,k.tape.trans h.tape,k.output.trans h.output,Nat.le_trans h.size k.size,fun j hj hs=>(k.block j (Nat.lt_of_lt_of_le hs h.size) (fun e=>by cases e;omega)).trans (h.block j hj hs)⟩
def adT (s:List Int×Int×Int):List Int:=s.1++[s.2.1,s.2.2]
def UA (w0:World)(vd:Value)(B:Nat)(s:List Int)(f:Bool)(wr:World):Prop:=
 w0.grownBy wr none∧wr.heap[w0.heap.size]?=some (.cells #[vd] 32 (0,0))∧wr.heap[w0.heap.size+1]?=some (.cells #[.pointer (some ⟨B,0,none⟩)] 185 (0,0))∧bO wr (w0.heap.size+1+1) 44 (ay 4)∧bO wr (w0.heap.size+1+1+1) 211 s∧wr.heap[w0.heap.size+1+1+1+1]?=some (.cells #[.bool f] 4 (0,0))
theorem UA.more {w0:World}{vd:Value}{B:Nat}{s:List Int}{f:Bool}{wr wr':World}{r:Option Nat}(h:UA w0 vd B s f wr)(g:wr.grownBy wr' r)(hr:∀b,r=some b→w0.heap.size+5≤b):UA w0 vd B s f wr':=by
 obtain⟨h1,h2,h3,h4,h5,h6⟩:=h
 exact⟨gU h1 g (fun b e=>by have:=hr b e;omega),fA h2 g (fun e=>by have:=hr _ e.symm;omega),fA h3 g (fun e=>by have:=hr _ e.symm;omega),fA h4 g (fun e=>by have:=hr _ e.symm;omega),fA h5 g (fun e=>by have:=hr _ e.symm;omega),fA h6 g (fun e=>by have:=hr _ e.symm;omega)⟩
theorem UA.aH {w0:World}{vd:Value}{B:Nat}{s:List Int}{f:Bool}{wr wr':World}(h:UA w0 vd B s f wr)(g:wr.grownBy wr' none):UA w0 vd B s f wr':=h.more g (fun b e=>by cases e)
theorem UA.put {w0:World}{vd:Value}{B:Nat}{s s':List Int}{f:Bool}{wr:World}(h:UA w0 vd B s f wr)(hl:s'.length=s.length):UA w0 vd B s' f (bT wr (w0.heap.size+1+1+1) s'):=by
 obtain⟨h1,h2,h3,h4,h5,h6⟩:=h
 have PU:=bB (rs':=s') h5 hl
 exact⟨aG h1 PU.2 gA,fA h2 PU.2 (fun e=>by have:=Option.some.inj e;(try dsimp only at this);omega),fA h3 PU.2 (fun e=>by have:=Option.some.inj e;(try dsimp only at this);omega),fA h4 PU.2 (fun e=>by have:=Option.some.inj e;(try dsimp only at this);omega),PU.1,fA h6 PU.2 (fun e=>by have:=Option.some.inj e;(try dsimp only at this);omega)⟩
theorem UA.flag {w0:World}{vd:Value}{B:Nat}{s:List Int}{f:Bool}{wr:World}(h:UA w0 vd B s f wr)(v:Bool):UA w0 vd B s v (wr.setCell ⟨w0.heap.size+1+1+1+1,0,none⟩ (.bool v)):=by
 obtain⟨h1,h2,h3,h4,h5,h6⟩:=h
 have g:=aF wr ⟨w0.heap.size+1+1+1+1,0,none⟩ (.bool v)
 refine⟨aG h1 g (by simp;omega),fA h2 g (fun e=>by have:=Option.some.inj e;(try dsimp only at this);omega),fA h3 g (fun e=>by have:=Option.some.inj e;(try dsimp only at this);omega),fA h4 g (fun e=>by have:=Option.some.inj e;(try dsimp only at this);omega),fA h5 g (fun e=>by have:=Option.some.inj e;(try dsimp only at this);omega),?_⟩
 rw[heap_setCell h6]
 rfl
def BsI (w0:World)(vd:Value)(B:Nat)(C E:List Int→Int)(ix:Nat→List Int)(m:Nat)(wr:World):Prop:=UA w0 vd B (adT (qU C E ix m)) (decide (m=0)) wr
theorem ag1 (d x:List Int):cS d x≤9223372036854775807:=by
 show wrap64 _≤_
 unfold wrap64
 omega
theorem ag2 (d r x:List Int):eS d r x≤9223372036854775807:=by
 have:=U9 d r x 4 0 gA gA
 unfold eS
 omega
theorem Zf (C E:List Int→Int)(ix:Nat→List Int)(N:Nat)(uT:∀m,m<N→(ix m).length=4):∀m,m≤N→(qU C E ix m).1.length=4
 | 0,_=>rfl
 | m+1,hm=>by
  obtain⟨j,hj,e⟩:=w_ C E ix (m+1) gA
  rw[e]
  exact uT j gA
theorem Nz (w0:World)(vd:Value)(B:Nat)(d r:List Int)(ix:Nat→List Int)(N:Nat)(hd:aS w0 vd d)(hdl:d.length=40)(hB:bO w0 B 222 (tbl r))(uT:∀m,m<N→(ix m).length=4∧f_ (ix m)=true)
 (m:Nat) (wr:World) (hm:m<N) (hsz:w0.heap.size+5≤wr.heap.size) (hI:BsI w0 vd B (cS d) (eS d r) ix m wr) :
 Calls prog 215 #[.agg (aD (ix m)),.pointer (some ⟨w0.heap.size,0,none⟩),.pointer (some ⟨w0.heap.size+1,0,none⟩),.pointer (some ⟨w0.heap.size+1+1+1+1,0,none⟩),.pointer (some ⟨w0.heap.size+1+1+1,0,none⟩)] wr fun e w'=>e=.returned (.tuple #[])∧BsI w0 vd B (cS d) (eS d r) ix (m+1) w'∧Ae (w0.heap.size+5) wr w':=by
 obtain⟨hx,hg⟩:=uT m hm
 have ga:=ak wr (.cells (aD (ix m)) 44) none
 have M1:=Zd (UA.aH hI ga)
 have F1:=Zd (Ae.of (base:=w0.heap.size+5) ga)
 have BX:=Zd (bO.new wr 44 (ix m))
 have SC:=Zd (fun W (g:w0.grownBy W none)=>JB vd d r (ix m) B W (aP hd g) hdl (hB.aH g) hx hg)
 have LK:=Zd (Zf (cS d) (eS d r) ix N (fun j hj=>(uT j hj).1) m gA)
 have NX:=Zs (m=0∨yF (cS d (ix m)) (eS d r (ix m)) (qU (cS d) (eS d r) ix m).2.1 (qU (cS d) (eS d r) ix m).2.2=true→qU (cS d) (eS d r) ix (m+1)=(ix m,cS d (ix m),eS d r (ix m))) (Me _ _ _ _)
 have NN:=Zs (¬(m=0∨yF (cS d (ix m)) (eS d r (ix m)) (qU (cS d) (eS d r) ix m).2.1 (qU (cS d) (eS d r) ix m).2.2=true)→qU (cS d) (eS d r) ix (m+1)=qU (cS d) (eS d r) ix m) (Va _ _ _ _)
 have KB:=Zd (show 0<m→(qU (cS d) (eS d r) ix m).2.1≤9223372036854775807∧(qU (cS d) (eS d r) ix m).2.2≤9223372036854775807 from fun h=>by
  obtain⟨j,_,e⟩:=w_ (cS d) (eS d r) ix m h
  rw[e]
  exact⟨ag1 _ _,ag2 _ _ _⟩)
 have hcb:=ag1 d (ix m)
 have heb:=ag2 d r (ix m)
 have h_:=Zs (∀w' v,qU (cS d) (eS d r) ix (m+1)=v→UA w0 vd B (adT v) false w'→BsI w0 vd B (cS d) (eS d r) ix (m+1) w') (fun w' v e h=>by unfold BsI;rw[e];simpa using h)
 have hz:=gM ahZ
 obtain⟨ad,cp,rfl,hcp,_⟩:=hd
 have CL:=Zd (fun c e z=>adS (ix m) hx c e z)
 unfold BsI at hI
 clear hB uT hg hcp hdl hI ga
 generalize BsI w0 _ B (cS d) (eS d r) ix (m+1)=Fin at *
 generalize qU (cS d) (eS d r) ix m=ks at *
 generalize qU (cS d) (eS d r) ix (m+1)=ks' at *
 generalize cS d (ix m)=C at *
 generalize eS d r (ix m)=E at *
 generalize ix m=x at *
 obtain⟨kx,kc,ke⟩:=ks
 dsimp only at NX NN KB LK
 have CK:=Zd (fun c e z=>adS kx LK.out c e z)
 go_enter func215,ntmps215
 go_upto_region 1 with fail
 generalize wr.alloc (.cells (aD x) 44)=W1 at *
 have cd:W1.cell? ⟨w0.heap.size,0,none⟩=some (.slice ad d.length cp):=(aI M1.out.2.1 0).trans rfl
 have cb:W1.cell? ⟨w0.heap.size+1,0,none⟩=some (.pointer (some ⟨B,0,none⟩)):=(aI M1.out.2.2.1 0).trans rfl
 have SS:=Zd (SC.out W1 M1.out.1)
 go_wp2_with (first|refine lA BX.out (by rw[hx];exact jB) ?_)
 refine SS.out.mono ?_
 rintro e w2 ⟨rfl,g2⟩
 have hX:=(CL.out C E 0).2.2.2.2
 have x4:=(CL.out C E 0).2.2.1
 have x5:=(CL.out C E 0).2.2.2.1
 have FA:=dL w2 211 6 (x++[C,E]) hX
 have BZ:=Zd FA.1
 have M3:=Zd ((M1.out.aH g2).aH FA.2.2)
 have F3:=Zd ((F1.out.trans (Ae.of g2)).trans (Ae.of FA.2.2))
 have BA:=Zd FA.2.1
 have EX:=Zs (x++[C,E]=adT (x,C,E)) (rfl)
 clear SS g2 FA cd cb
 have HX:=Zd hX
 clear hX
 go_upto_region 2 with(first|refine sA (x++[C,E]) BZ.out (by rw[HX.out,au]) (by rw[au];exact Ny) ?_)
 (try simp only[Act.put])
 clear hz
 generalize bT (w2.alloc _) w2.heap.size (x++[C,E])=W3 at *
 generalize w2.heap.size=b6 at *
 have q4:=BA.out.cell 4 (by rw[HX.out];omega)
 have q5:=BA.out.cell 5 (by rw[HX.out];omega)
 rw[x4]at q4
 rw[x5]at q5
 clear x4 x5
 have cf:=(aI M3.out.2.2.2.2.2 0).trans (show(#[Value.bool (decide (m=0))]:Array Value)[0]?=some (.bool (decide (m=0)))from rfl)
 have ff:=aT M3.out.2.2.2.2.2 0
 have BK:=Zd M3.out.2.2.2.2.1
 have hK6:=(CK.out kc ke 0).2.2.2.2
 rw[show adT (kx,kc,ke)=kx++[kc,ke]from rfl]at BK M3
 have MP:=Zd (M3.out.put (s':=x++[C,E]) (by rw[HX.out,hK6]))
 have FP:=Zd (F3.out.low (bB (rs':=x++[C,E]) BK.out (by rw[HX.out,hK6])).2 gA)
 have HK6:=Zd hK6
 by_cases h0:m=0
 ·rw[decide_eq_true h0]at cf M3 MP
  have EN:=Zd (NX.out (.inl h0))
  clear h0 hK6
  go_upto_region 3 with fail
  go_upto_region 4 with(first|refine lA BA.out (by rw[HX.out];exact Ny) ?_|refine sA (x++[C,E]) BK.out (by rw[HX.out,HK6.out]) (by rw[HK6.out];exact Ny) ?_)
  (try simp only[Act.put])
  clear q4 q5 cf ff
  generalize bT W3 _ (x++[C,E])=W4 at *
  have cf:=(aI MP.out.2.2.2.2.2 0).trans (show(#[Value.bool true]:Array Value)[0]?=some (.bool true)from rfl)
  have ff:=aT MP.out.2.2.2.2.2 0
  have MF:=Zd (MP.out.flag false)
  have FF:=Zd (FP.out.low (aF W4 ⟨w0.heap.size+1+1+1+1,0,none⟩ (.bool false)) (by simp<;>omega))
  go_wp2_with fail
  go_end0
  exact⟨rfl,h_.out _ _ EN.out MF.out,FF.out⟩
 rw[decide_eq_false h0]at cf M3 MP
 obtain⟨kb1,kb2⟩:=KB.out gA
 have r4:=BK.out.cell 4 gA
 have r5:=BK.out.cell 5 gA
 rw[(CK.out kc ke 0).2.2.1]at r4
 rw[(CK.out kc ke 0).2.2.2.1]at r5
 have BT:=Zd (CG C E kc ke hcb heb kb1 kb2 W3)
 rcases hb:yF C E kc ke with _|_
 ·rw[hb]at BT
  have EN:=Zd (NN.out (fun h=>by rcases h with h|h;exact h0 h;rw[hb]at h;cases h))
  clear h0 hK6 hb
  go_wp2_with fail
  refine BT.out.mono ?_
  rintro e w7 ⟨rfl,g7⟩
  have M7:=Zd (M3.out.aH g7)
  have F7:=Zd (F3.out.trans (Ae.of g7))
  clear g7 BT q4 q5 r4 r5 cf ff
  have cf:=(aI M7.out.2.2.2.2.2 0).trans (show(#[Value.bool false]:Array Value)[0]?=some (.bool false)from rfl)
  have ff:=aT M7.out.2.2.2.2.2 0
  have MF:=Zd (M7.out.flag false)
  have FF:=Zd (F7.out.low (aF w7 ⟨w0.heap.size+1+1+1+1,0,none⟩ (.bool false)) (by simp<;>omega))
  go_wp2_with fail
  go_end0
  exact⟨rfl,h_.out _ _ EN.out MF.out,FF.out⟩
 rw[hb]at BT
 have EN:=Zd (NX.out (.inr hb))
 clear h0 hK6 hb
 go_wp2_with fail
 refine BT.out.mono ?_
 rintro e w7 ⟨rfl,g7⟩
 have M7:=Zd (M3.out.aH g7)
 have F7:=Zd (F3.out.trans (Ae.of g7))
 have BA7:=Zd (BA.out.aH g7)
 have BK7:=Zd (BK.out.aH g7)
 have MP:=Zd (M7.out.put (s':=x++[C,E]) (by rw[HX.out,HK6.out]))
 have FP:=Zd (F7.out.low (bB (rs':=x++[C,E]) BK7.out (by rw[HX.out,HK6.out])).2 gA)
 clear g7 BT q4 q5 r4 r5 cf ff
 go_upto_region 3 with fail
 go_upto_region 4 with(first|refine lA BA7.out (by rw[HX.out];exact Ny) ?_|refine sA (x++[C,E]) BK7.out (by rw[HX.out,HK6.out]) (by rw[HK6.out];exact Ny) ?_)
 (try simp only[Act.put])
 generalize bT w7 _ (x++[C,E])=W4 at *
 have cf:=(aI MP.out.2.2.2.2.2 0).trans (show(#[Value.bool false]:Array Value)[0]?=some (.bool false)from rfl)
 have ff:=aT MP.out.2.2.2.2.2 0
 have MF:=Zd (MP.out.flag false)
 have FF:=Zd (FP.out.low (aF W4 ⟨w0.heap.size+1+1+1+1,0,none⟩ (.bool false)) (by simp<;>omega))
 go_wp2_with fail
 go_end0
 exact⟨rfl,h_.out _ _ EN.out MF.out,FF.out⟩
theorem NC (args:Array Value)(u:World):(callFunc 215 args).run prog u=.ok (.enter 215 args) u:=by kernel_rfl
def Walks (w0:World)(nW:Nat)(Zg:Array Value)(ix:Nat→List Int)(N:Nat):Prop:=
 ∀(wr:World) (base nV:Nat) (R7:Array Value) (Inv:Nat→World→Prop),w0.grownBy wr none→(∀args u,(callFunc nV args).run prog u=.ok (.enter nV args) u)→ah0 base Inv→Vis base nV R7 Inv ix N→base≤wr.heap.size→Inv 0 wr→
  Calls prog nW (#[.func (.func nV) #[] R7]++Zg) wr fun e w'=>e=.returned (.tuple #[])∧Inv N w'∧Ae base wr w'
theorem Di {ops:Array Oper}{rest:List Oper}{op:Oper}{a:Act}{w:World}{Q:Exit→Act→World→Prop}(hgd:op.guard=none)(T T':TypeId)(x:Operand)(ho:op.op=.load T x)
 (b:Nat) (hx:a.eval x=.pointer (some ⟨b,0,none⟩)) (rs qs:List Int) (h:bO w b T' (rs++qs)) (d:TypeDesc) (hu:prog.underlying T=some d) (hd:d.isRow=true) (hi:(prog.info? T).map (·.size)=some rs.length)
 (k:wpList prog ops Q rest (a.put op.dst (.agg (aD rs))) w):wpList prog ops Q (op::rest) a w:=by
 refine wpList_load_mid hgd T x ho b 0 hx (rs.map (Value.int .i64)) d (fun j v hv=>h.range j v ?_) hu hd (by simpa using hi) k
 rw[List.map_append,List.getElem?_append_left]
 ·exact hv
 by_cases hj:j<(rs.map (Value.int .i64)).length
 ·exact hj
 rw[List.getElem?_eq_none gA]at hv;cases hv
theorem R_:(prog.info? 44).bind (·.zero)=some (.agg (aD (ay 4))):=by kernel_rfl
theorem Sb (vd:Value)(B:Nat)(d r:List Int)(ix:Nat→List Int)(N:Nat)(w:World)(hd:aS w vd d)(hdl:d.length=40)(hB:bO w B 222 (tbl r))(uT:∀m,m<N→(ix m).length=4∧f_ (ix m)=true)
 (nW:Nat) (Zg:Array Value) (hen:∀args u,(callFunc nW args).run prog u=.ok (.enter nW args) u) (hW:Walks w nW Zg ix N) :
 Calls prog 184 #[vd,.pointer (some ⟨B,0,none⟩),.func (.func nW) #[] Zg] w (qQ w (.agg (aD (qU (cS d) (eS d r) ix N).1))):=by
 have hmf:∀(fn:Fn) (first cap:Array Value) (w:World),(Instr.makeFunc fn first cap).run prog w=.ok (.func fn first cap) w:=fun _ _ _ _=>rfl
 have hz4:=gM R_
 have hz6:=gM ahZ
 have LEN:=Zd (Zf (cS d) (eS d r) ix N (fun j hj=>(uT j hj).1) N (Nat.le_refl _))
 have VIS:=Zd (show Vis (w.heap.size+5) 215 #[.pointer (some ⟨w.heap.size,0,none⟩),.pointer (some ⟨w.heap.size+1,0,none⟩),.pointer (some ⟨w.heap.size+1+1+1+1,0,none⟩),.pointer (some ⟨w.heap.size+1+1+1,0,none⟩)] (BsI w vd B (cS d) (eS d r) ix) ix N from
  fun m wr hm hs hI=>Nz w vd B d r ix N hd hdl hB uT m wr hm hs hI)
 have STB:=Zs (ah0 (w.heap.size+5) (BsI w vd B (cS d) (eS d r) ix)) (fun m wr wr' r h g hr=>UA.more h g hr)
 have WK:=Zd (fun wr (g:w.grownBy wr none) (hs:w.heap.size+5≤wr.heap.size) (hI:BsI w vd B (cS d) (eS d r) ix 0 wr)=>hW wr (w.heap.size+5) 215 _ _ g NC STB.out VIS.out hs hI)
 obtain⟨ad,cp,rfl,hcp,_⟩:=hd
 have L:=Zd (show BsI w (.slice ad d.length cp) B (cS d) (eS d r) ix 0 (((((w.alloc (.cells #[.slice ad d.length cp] 32)).alloc (.cells #[.pointer (some ⟨B,0,none⟩)] 185)).alloc (.cells (aD (ay 4)) 44)).alloc (.cells (aD (ay 6)) 211)).alloc (.cells #[.bool true] 4))∧w.heap.size+5≤(((((w.alloc (.cells #[.slice ad d.length cp] 32)).alloc (.cells #[.pointer (some ⟨B,0,none⟩)] 185)).alloc (.cells (aD (ay 4)) 44)).alloc (.cells (aD (ay 6)) 211)).alloc (.cells #[.bool true] 4)).heap.size from by
  have g1:=ak w (.cells #[.slice ad d.length cp] 32) none
  have h1:=cK w (.cells #[.slice ad d.length cp] 32)
  generalize hw1:w.alloc (.cells #[.slice ad d.length cp] 32)=w1 at *
  have s1:w1.heap.size=w.heap.size+1:=by rw[←hw1];simp
  have g2:=ak w1 (.cells #[.pointer (some ⟨B,0,none⟩)] 185) none
  have h2:=cK w1 (.cells #[.pointer (some ⟨B,0,none⟩)] 185)
  generalize hw2:w1.alloc (.cells #[.pointer (some ⟨B,0,none⟩)] 185)=w2 at *
  have s2:w2.heap.size=w.heap.size+1+1:=by rw[←hw2];simp[s1]
  have g3:=ak w2 (.cells (aD (ay 4)) 44) none
  have h3:=bO.new w2 44 (ay 4)
  generalize hw3:w2.alloc (.cells (aD (ay 4)) 44)=w3 at *
  have s3:w3.heap.size=w.heap.size+1+1+1:=by rw[←hw3];simp[s2]
  have g4:=ak w3 (.cells (aD (ay 6)) 211) none
  have h4:=bO.new w3 211 (ay 6)
  generalize hw4:w3.alloc (.cells (aD (ay 6)) 211)=w4 at *
  have s4:w4.heap.size=w.heap.size+1+1+1+1:=by rw[←hw4];simp[s3]
  have g5:=ak w4 (.cells #[.bool true] 4) none
  have h5:=cK w4 (.cells #[.bool true] 4)
  have s5:(w4.alloc (.cells #[.bool true] 4)).heap.size=w.heap.size+1+1+1+1+1:=by simp[s4]
  rw[s1]at h2
  rw[s2]at h3
  rw[s3]at h4
  rw[s4]at h5
  refine⟨⟨aB (aB (aB (aB g1 g2) g3) g4) g5,?_,?_,?_,h4.aH g5,h5⟩,gA⟩
  ·exact fA (fA (fA (fA h1 g2 (by simp)) g3 (by simp)) g4 (by simp)) g5 (by simp)
  ·exact fA (fA (fA h2 g3 (by simp)) g4 (by simp)) g5 (by simp)
  exact(h3.aH g4).aH g5)
 clear hW uT hcp hB hdl
 go_enter func184,ntmps184
 go_upto_region 3 with fail
 generalize ((((w.alloc _).alloc _).alloc _).alloc _).alloc _=W1 at *
 go_wp2_with fail
 refine(WK.out W1 L.out.1.1 L.out.2 L.out.1).mono ?_
 rintro e w2 ⟨rfl,j2,f2⟩
 have M2:=Zd j2
 unfold BsI at M2
 clear j2 f2 WK L hmf hz4 hz6 hen
 generalize qU (cS d) (eS d r) ix N=ks at *
 obtain⟨kx,kc,ke⟩:=ks
 dsimp only at LEN ⊢
 have BK:=Zd M2.out.2.2.2.2.1
 rw[show adT (kx,kc,ke)=kx++[kc,ke]from rfl]at BK
 have BZ:=Zd M2.out.2.2.2.1
 have GG:=Zd M2.out.1
 go_wp2_with (first|refine Di rfl 44 211 _ rfl _ rfl kx [kc,ke] BK.out _ underlying44 rfl (by rw[LEN.out];exact jB) ?_|refine sA kx BZ.out (by rw[LEN.out,au]) (by rw[au];exact jB) ?_)
 have PU:=bB (rs':=kx) BZ.out (by rw[LEN.out,au])
 have eO:=lS PU.1 (by rw[LEN.out];exact jB)
 have GF:=Zd (aG GG.out PU.2 gA)
 refine bodyPost_ret (v:=.agg (aD kx)) ?_ rfl ⟨rfl,GF.out⟩
 simp[results,results184,asAddr,Act.put,eO]
def Finds (w0:World)(nF:Nat)(CJ:Array Value)(r X:List Int):Prop:=
 ∀(wr:World) (B:Nat),w0.grownBy wr none→bO wr B 222 (tbl r)→Calls prog nF (#[.pointer (some ⟨B,0,none⟩)]++CJ) wr (qQ wr (.agg (aD X)))
theorem NH (args:Array Value)(u:World):(callFunc 185 args).run prog u=.ok (.enter 185 args) u:=by kernel_rfl
theorem He (w0:World)(x:List Int)(hx:x.length=4)(t:Nat)(ht:t<4)(bi bt:Nat)(hb1:bO w0 bi 44 x)(hc:w0.cell? ⟨bt,0,none⟩=some (.int .i64 (t:Int))):Walks w0 185 #[.pointer (some ⟨bi,0,none⟩),.pointer (some ⟨bt,0,none⟩)] (fun p=>x.set t (p:Int)) 10:=by
 intro wr base nV R7 Inv g hen hst hV hb hI
 have CA:=Zd (B_ nV R7 hen base Inv hst x hx t ht hV wr hb hI)
 have ct:=bA g hc
 have BB:=Zd (hb1.aH g)
 clear hst hV hI hb hc hb1 g
 show Calls prog 185 #[.func (.func nV) #[] R7,.pointer (some ⟨bi,0,none⟩),.pointer (some ⟨bt,0,none⟩)] wr _
 go_enter func185,ntmps185
 go_wp2_with (first|refine lA BB.out (by rw[hx];exact jB) ?_)
 refine CA.out.mono ?_
 rintro e w2 ⟨rfl,j2,f2⟩
 have F:=Zd (And.intro j2 f2)
 clear CA j2 f2 ct
 go_wp2_with fail
 first|go_end0|refine bodyPost_ret (results_none rfl _ _ _) rfl ?_
 exact⟨rfl,F.out⟩
theorem Sc (args:Array Value)(u:World):(callFunc 183 args).run prog u=.ok (.enter 183 args) u:=by kernel_rfl
def FwM (w wr:World)(x:List Int):Prop:=iD w wr 44 44 (ay 4) x
theorem FwM.put {w wr:World}{x x':List Int}(h:FwM w wr x)(hl:x'.length=x.length):FwM w (bT wr (w.heap.size+1) x') x':=by
 have PU:=bB (rs':=x') h.2.1 hl
 exact⟨h.1.aJ PU.2 gA,PU.1,aG h.2.2 PU.2 gA⟩
theorem JC (w0:World)(vd:Value)(d r:List Int)(bd:Nat)(hd:aS w0 vd d)(hdl:d.length=40)(hc:w0.cell? ⟨bd,0,none⟩=some vd):Finds w0 183 #[.pointer (some ⟨bd,0,none⟩)] r (kR d r):=by
 intro wE B g hB
 have hmf:∀(fn:Fn) (first cap:Array Value) (w:World),(Instr.makeFunc fn first cap).run prog w=.ok (.func fn first cap) w:=fun _ _ _ _=>rfl
 have hz4:=gM R_
 have M0:=Zs (FwM wE ((wE.alloc (.cells (aD (ay 4)) 44)).alloc (.cells (aD (ay 4)) 44)) (ay 4)) (nI wE 44 44 (ay 4) (ay 4))
 have BE:=Zd (fun W (gW:wE.grownBy W none) (x:List Int) (hx:x.length=4) (gx:f_ x=true) (t:Nat) (ht:t<4) (bi bt:Nat) (hb1:bO W bi 44 x) (hc':W.cell? ⟨bt,0,none⟩=some (.int .i64 (t:Int)))=>
  Sb vd B d r (fun p=>x.set t (p:Int)) 10 W (aP hd (aB g gW)) hdl (hB.aH gW) (fun m hm=>⟨by simpa using hx,Bd gx _ _ gA gA⟩) 185 #[.pointer (some ⟨bi,0,none⟩),.pointer (some ⟨bt,0,none⟩)] NH (He W x hx t ht bi bt hb1 hc'))
 have CD:=Zd (fun W (gW:wE.grownBy W none)=>bA (aB g gW) hc)
 have GD:=Zd (qE (cS d) (eS d r))
 have STEP:=Zd (fun k=>(show oP (cS d) (eS d r) (k+1)=(qU (cS d) (eS d r) (fun p=>(oP (cS d) (eS d r) k).set (k % 4) (p:Int)) 10).1 from rfl))
 obtain⟨ad,cp,rfl,_,_⟩:=hd
 rw[show kR d r=oP (cS d) (eS d r) 8 from rfl]
 clear hB g hc hdl
 go_enter func183,ntmps183
 go_wp2_with fail
 generalize (wE.alloc _).alloc _=W0 at *
 clear hz4
 go_loopw [6,8] (fun i _ W=>∃n:Nat,i=.int .i64 n∧n≤2∧Hid (FwM wE W (oP (cS d) (eS d r) (4*n)))) (fun i _ _=>2-(intOf i).toNat)
 case atStart=>exact⟨0,rfl,Nat.zero_le _,M0.out⟩
 case round=>
  obtain⟨n,rfl,hn,hM⟩:=hrel
  clear M0
  by_cases hn2:n<2
  ·have i1:(n:Int)<2:=gA
   go_wp2_with fail
   go_loopw [8] (fun i W=>∃t:Nat,i=.int .i64 t∧t≤4∧Hid (FwM wE W (oP (cS d) (eS d r) (4*n+t)))) (fun i _=>4-(intOf i).toNat)
   case atStart=>exact⟨0,rfl,Nat.zero_le _,hM.out⟩
   case round=>
    obtain⟨t,rfl,ht,hM⟩:=hrel
    by_cases ht4:t<4
    ·have i2:(t:Int)<4:=gA
     have ga:=ak wr (.cells #[.int .i64 (t:Int)] 3) none
     have M1:=Zs (FwM wE (wr.alloc (.cells #[.int .i64 (t:Int)] 3)) (oP (cS d) (eS d r) (4*n+t))) (iD.aH hM.out ga)
     have ct:=(aI (cK wr (.cells #[.int .i64 (t:Int)] 3)) 0).trans (show(#[Value.int .i64 (t:Int)]:Array Value)[0]?=some (.int .i64 (t:Int))from rfl)
     have BB:=Zd (BE.out _ M1.out.2.2 _ (GD.out (4*n+t)).1 (GD.out (4*n+t)).2 t ht4 (wE.heap.size+1) wr.heap.size M1.out.2.1 ct)
     have cd:=CD.out _ M1.out.2.2
     have EN:=STEP.out (4*n+t)
     rw[show(4*n+t) % 4=t by omega]at EN
     rw[←EN]at BB
     have L1:=Zd (GD.out (4*n+t)).1
     have L2:=Zd (GD.out (4*n+t+1)).1
     clear EN ct hM ga
     generalize oP (cS d) (eS d r) (4*n+t)=X at *
     generalize hY:oP (cS d) (eS d r) (4*n+t+1)=Y at *
     have EY:=Zd hY
     clear hY
     go_upto_region 7 with fail
     generalize wr.alloc (.cells #[.int .i64 (t:Int)] 3)=W1 at *
     go_wp2_with fail
     refine BB.out.mono ?_
     rintro e w2 ⟨rfl,g2⟩
     have M2:=Zs (FwM wE w2 X) (iD.aH M1.out g2)
     have BI:=Zd M2.out.2.1
     have M3:=Zd (M2.out.put (x':=Y) (by rw[L1.out,L2.out]))
     clear g2 BB cd
     go_upto_region 8 with(first|refine sA Y BI.out (by rw[L1.out,L2.out]) (by rw[L1.out];exact jB) ?_)
     (try simp only[Act.put])
     generalize bT w2 _ Y=W3 at *
     go_wp2_with fail
     go_roundw
     case rel=>exact⟨t+1,by go_num,gA,by rw[show 4*n+(t+1)=4*n+t+1 from rfl,EY.out];exact M3.out⟩
     case measure=>simp[intOf];omega
    obtain rfl:t=4:=gA
    have NM:=hM
    rw[show 4*n+4=4*(n+1) by omega]at NM
    clear hM
    rw[show((4:Nat):Int)=4 from rfl]
    go_wp2_with fail
    go_roundw
    case rel=>exact⟨n+1,by go_num,gA,NM.out⟩
    case measure=>simp[intOf];omega
  obtain rfl:n=2:=gA
  have BA:=Zd hM.out.2.1
  have BZ:=Zd hM.out.1
  have GG:=Zd hM.out.2.2
  have HX:=Zd (GD.out (4*2)).1
  clear hM hmf
  rw[show 4*2=8 from rfl]at *
  generalize oP (cS d) (eS d r) 8=X at *
  rw[show((2:Nat):Int)=2 from rfl]
  go_wp2_with (first|refine lA BA.out (by rw[HX.out];exact jB) ?_|refine sA X BZ.out (by rw[HX.out,au]) (by rw[au];exact jB) ?_)
  have PU:=bB (rs':=X) BZ.out (by rw[HX.out,au])
  have eO:=lS PU.1 (by rw[HX.out];exact jB)
  have GF:=Zd (aG GG.out PU.2 (Nat.le_refl _))
  refine bodyPost_ret (v:=.agg (aD X)) ?_ rfl ⟨rfl,GF.out⟩
  simp[results,results183,asAddr,Act.put,eO]
def Hf (w:World)(X:List Int)(g en:Int)(e:Ending)(w':World):Prop:=e=.returned (.tuple #[.agg (aD X),.int .i64 g,.int .i64 en])∧w.grownBy w' none
theorem adU {d r:List Int}(h:¬(d.length=40∧r.length=40))(X:List Int):vJ d r=1∧Fe d r X=ay 4∧Jc d r X=0:=by
 have e:vJ d r=1:=if_neg h
 refine⟨e,?_,?_⟩
 ·unfold Fe;rw[e];rfl
 unfold Jc;rw[e];rfl
theorem ah1 {d r:List Int}(h:d.length=40∧r.length=40)(ho:xU d=false)(X:List Int):vJ d r=2∧Fe d r X=ay 4∧Jc d r X=0:=by
 have e:vJ d r=2:=by unfold vJ;rw[if_pos h,ho];rfl
 refine⟨e,?_,?_⟩
 ·unfold Fe;rw[e];rfl
 unfold Jc;rw[e];rfl
theorem afZ {d r:List Int}(h:d.length=40∧r.length=40)(ho:xU d=true)(X:List Int):vJ d r=0∧Fe d r X=X∧Jc d r X=Fa d X 4:=by
 have e:vJ d r=0:=by unfold vJ;rw[if_pos h,ho];rfl
 refine⟨e,?_,?_⟩
 ·unfold Fe;rw[e];rfl
 unfold Jc;rw[e];rfl
theorem adV (d x:List Int)(m:Nat):Fa d x (m+1)=Fa d x m+Mf d x m:=rfl
theorem KZ (d x:List Int):∀m:Nat,0≤Fa d x m∧Fa d x m<2^m
 | 0=>by show(0:Int)≤0∧(0:Int)<1;omega
 | m+1=>by
  have h1:=KZ d x m
  have h2:=Fb d x m
  rw[adV,Int.pow_succ]
  omega
theorem af0:∀m:Fin 4,∀s:Fin 8,s.val<2^m.val→bits BinOp.or IntKind.i64 (s.val:Int) (wrap64 ((2:Int)^m.val))=(s.val:Int)+2^m.val:=by decide +kernel
theorem ah2 (m:Nat)(hm:m<4)(s:Int)(h0:0≤s)(h1:s<2^m):bits BinOp.or IntKind.i64 s (wrap64 ((2:Int)^m))=s+2^m:=by
 have hp:(2:Nat)^m≤2^3:=Nat.pow_le_pow_right gA gA
 have e:((2^m:Nat):Int)=(2:Int)^m:=by simp
 have h2:s.toNat<2^m:=gA
 have:=af0 ⟨m,hm⟩ ⟨s.toNat,gA⟩ h2
 simp only at this
 rw[show((s.toNat:Nat):Int)=s by omega]at this
 exact this
theorem Hg (vd vr:Value)(d r:List Int)(w:World)(hd:aS w vd d)(hr:aS w vr r)(fv:Value)(h:¬(d.length=40∧r.length=40))(hl:d.length≤1000000000000000000)(ni:r.length≤1000000000000000000) :
 Calls prog 182 #[vd,vr,fv] w (Hf w (ay 4) 0 1):=by
 have hz4:=gM R_
 have hbd:=ade
 have BZ:=Zd (bO.new w 44 (ay 4))
 have GG:=Zd (ak w (.cells (aD (ay 4)) 44) none)
 obtain⟨ad,cp,rfl,_,_⟩:=hd
 obtain⟨ar,cr,rfl,_,_⟩:=hr
 generalize d.length=nd at *
 generalize r.length=nr at *
 by_cases h1:nd=40
 ·have h2:¬nr=40:=fun e=>h ⟨h1,e⟩
  have b2:((nr:Int) != 40)=true:=by simp;omega
  subst h1
  clear h h2
  go_enter func182,ntmps182
  go_upto_region 1 with fail
  generalize w.alloc (.cells (aD (ay 4)) 44)=W1 at *
  go_wp2_with (first|refine sA (ay 4) BZ.out rfl (by rw[au];exact jB) ?_)
  have PU:=bB (rs':=ay 4) BZ.out rfl
  have eO:=lS PU.1 (by rw[au];exact jB)
  have GF:=Zd (aG GG.out PU.2 (Nat.le_refl _))
  refine bodyPost_ret (v:=.tuple #[.agg (aD (ay 4)),.int .i64 0,.int .i64 1]) ?_ rfl ⟨rfl,GF.out⟩
  simp[results,results182,asAddr,Act.put,eO]
 have b1:((nd:Int) != 40)=true:=by simp;omega
 clear h h1
 go_enter func182,ntmps182
 go_upto_region 1 with fail
 generalize w.alloc (.cells (aD (ay 4)) 44)=W1 at *
 go_wp2_with (first|refine sA (ay 4) BZ.out rfl (by rw[au];exact jB) ?_)
 have PU:=bB (rs':=ay 4) BZ.out rfl
 have eO:=lS PU.1 (by rw[au];exact jB)
 have GF:=Zd (aG GG.out PU.2 (Nat.le_refl _))
 refine bodyPost_ret (v:=.tuple #[.agg (aD (ay 4)),.int .i64 0,.int .i64 1]) ?_ rfl ⟨rfl,GF.out⟩
 simp[results,results182,asAddr,Act.put,eO]
theorem Dj (vd vr:Value)(d r:List Int)(w:World)(hd:aS w vd d)(hr:aS w vr r)(nF:Nat)(CJ:Array Value)(hen:∀args u,(callFunc nF args).run prog u=.ok (.enter nF args) u)(X:List Int)(hX:X.length=4)(gX:f_ X=true)(HF:xU d=true→Finds w nF CJ r X)(h1:d.length=40)(h2:r.length=40) :
 Calls prog 182 #[vd,vr,.func (.func nF) #[] CJ] w (Hf w (Fe d r X) (Jc d r X) (vJ d r)):=by
 have hz4:=gM R_
 have hbd:=ade
 have BZ:=Zd (bO.new w 44 (ay 4))
 have GG:=Zd (ak w (.cells (aD (ay 4)) 44) none)
 have NO:=Zd (fun i (hi:i<40) (hb:¬(-1099511627776≤aC d i∧aC d i≤1099511627776))=>ah1 ⟨h1,h2⟩ (by
  rcases ho:xU d with _|_
  ·rfl
  exact absurd ((tO d).1 ho i gA) hb) X)
 have YES:=Zd (fun(hh:∀i,i<40→-1099511627776≤aC d i∧aC d i≤1099511627776)=>(show xU d=true from(tO d).2 (fun i hi=>hh i gA)))
 have SY:=Zd (fun ho=>afZ ⟨h1,h2⟩ ho X)
 have DV:=Zd (fun wr (g:w.grownBy wr none)=>aP hd g)
 have EN:=Zd (fun wr (g:w.grownBy wr none)=>Dh vr r wr (aP hr g) h2)
 have HFF:=Zd HF
 have HGX:=Zd gX
 have HX:=Zd hX
 obtain⟨ad,cp,rfl,_,_⟩:=hd
 obtain⟨ar,cr,rfl,_,_⟩:=hr
 have HDL:=Zd h1
 rw[h2]at EN
 rw[h1,h2]
 clear h1 h2 HF gX hX
 have FNO:=Zd (fun i (hi:i<40) (hb:¬(-1099511627776≤aC d i∧aC d i≤1099511627776)) w' (g:w.grownBy w' none)=>(show Hf w (Fe d r X) (Jc d r X) (vJ d r) (.returned (.tuple #[.agg (aD (ay 4)),.int .i64 0,.int .i64 2])) w' from by
  obtain⟨e1,e2,e3⟩:=NO.out i hi hb
  rw[e1,e2,e3]
  exact⟨rfl,g⟩))
 have WX:=Zd (fun(ho:xU d=true) w' (g:w.grownBy w' none)=>(show Hf w (Fe d r X) (Jc d r X) (vJ d r) (.returned (.tuple #[.agg (aD X),.int .i64 (Fa d X 4),.int .i64 0])) w' from by
  obtain⟨e1,e2,e3⟩:=SY.out ho
  rw[e1,e2,e3]
  exact⟨rfl,g⟩))
 generalize Hf w (Fe d r X) (Jc d r X) (vJ d r)=T at *
 go_enter func182,ntmps182
 go_upto_region 1 with fail
 generalize w.alloc (.cells (aD (ay 4)) 44)=W1 at *
 go_wp2_with fail
 go_loop [26] (fun i=>∃k:Nat,i=.int .i64 k∧k≤40∧Hid (∀i,i<k→-1099511627776≤aC d i∧aC d i≤1099511627776)) (fun i=>40-(intOf i).toNat)
 case atStart=>exact⟨0,rfl,Nat.zero_le _,fun i hi=>gA⟩
 case round=>
  obtain⟨k,rfl,hk,hG⟩:=hrel
  by_cases jS:k<40
  ·obtain⟨Yr,c',e',h1,h2⟩:=DV.out W1 GG.out
   simp only[Value.slice.injEq]at e'
   obtain⟨rfl,e2,rfl⟩:=e'
   obtain⟨a,rfl,h3⟩:=h2 (by rw[HDL.out];omega)
   have hck:=h3 k (by rw[HDL.out];omega)
   have NK:=Zd (FNO.out k jS)
   have GK:=Zd (fun(hh:-1099511627776≤aC d k∧aC d k≤1099511627776)=>(show ∀i,i<k+1→-1099511627776≤aC d i∧aC d i≤1099511627776 from fun i hi=>by
    rcases Nat.lt_or_ge i k with g|g
    ·exact hG.out i g
    obtain rfl:i=k:=gA
    exact hh))
   clear e2 h1 h2 h3 hG
   generalize aC d k=z at *
   have kl1:(k:Int)<40:=gA
   have ST:=Zd (jO z (-1099511627776) 1099511627776 W1)
   by_cases hz:-1099511627776≤z∧z≤1099511627776
   ·have F:=Zd (GK.out hz)
    rw[decide_eq_true hz]at ST
    clear hz
    go_wp2_with fail
    refine ST.out.mono ?_
    rintro e w1 ⟨rfl,rfl⟩
    clear ST
    go_wp2_with fail
    go_round
    case rel=>exact⟨k+1,by go_num,gA,F.out⟩
    case measure=>simp[intOf];omega
   rw[decide_eq_false hz]at ST
   have PU:=bB (rs':=ay 4) BZ.out rfl
   have F:=Zd (NK.out hz _ (aG GG.out PU.2 (Nat.le_refl _)))
   clear hz
   go_wp2_with fail
   refine ST.out.mono ?_
   rintro e w1 ⟨rfl,rfl⟩
   clear ST
   have eO:=Zd (lS PU.1 (by rw[au];exact jB))
   clear PU
   go_wp2_with (first|refine sA (ay 4) BZ.out rfl (by rw[au];exact jB) ?_)
   (try simp only[Exit.inBlock,Exit.then])
   refine bodyPost_ret (v:=.tuple #[.agg (aD (ay 4)),.int .i64 0,.int .i64 2]) ?_ rfl F.out
   simp[results,results182,asAddr,Act.put,eO.out]
  obtain rfl:k=40:=gA
  have ho:=YES.out hG.out
  have HFN:=Zd (HFF.out ho)
  have FY:=Zd (WX.out ho)
  clear hG ho
  have E1:=Zd (EN.out W1 GG.out)
  rw[show((40:Nat):Int)=40 from rfl]
  go_wp2_with fail
  refine E1.out.mono ?_
  rintro e w2 ⟨B,rfl,b2,_,g2⟩
  have FN:=Zd (HFN.out w2 B (aB GG.out g2) b2)
  have GG2:=Zd (aB GG.out g2)
  have BZ2:=Zd (BZ.out.aH g2)
  clear E1 b2 g2
  go_wp2_with fail
  refine FN.out.mono ?_
  rintro e w3 ⟨rfl,g3⟩
  have FA:=dL w3 44 4 X HX.out
  have BF:=Zd FA.1
  have BX:=Zd FA.2.1
  have BZ3:=Zd ((BZ2.out.aH g3).aH FA.2.2)
  have GG3:=Zd (aB (aB GG2.out g3) FA.2.2)
  clear FN g3 FA
  go_upto_region 11 with(first|refine sA X BF.out (by rw[HX.out,au]) (by rw[au];exact jB) ?_)
  (try simp only[Act.put])
  clear hz4 hbd
  generalize bT (w3.alloc _) w3.heap.size X=W4 at *
  generalize w3.heap.size=bX at *
  go_wp2_with (first|refine lA BX.out (by rw[HX.out];exact jB) ?_)
  go_loop [12,40] (fun s i=>∃m:Nat,i=.int .i64 m∧m≤4∧s=.int .i64 (Fa d X m)) (fun _ i=>4-(intOf i).toNat)
  case atStart=>exact⟨0,rfl,Nat.zero_le _,rfl⟩
  case round=>
   obtain⟨m,rfl,hm,rfl⟩:=hrel
   by_cases hm4:m<4
   ·have uT:=fQ X underlying44 m (by rw[HX.out];omega) HX.out
    have hPL:=Bc HGX.out HX.out m hm4
    obtain⟨g1,g2⟩:=(iq X).1 HGX.out m (by rw[HX.out];omega)
    have AT:=Zd (xK (m:Int) (aC X m) gA gA g1 g2 W4)
    rw[show(m:Int)+4*aC X m=((iW X m:Nat):Int) by unfold iW;omega]at AT
    obtain⟨Yr,c',e',h1,h2⟩:=DV.out W4 GG3.out
    simp only[Value.slice.injEq]at e'
    obtain⟨rfl,e2,rfl⟩:=e'
    obtain⟨a,rfl,h3⟩:=h2 (by rw[HDL.out];omega)
    have cz:=h3 (iW X m) (by rw[HDL.out];omega)
    have EB:=Zs (Fa d X (m+1)=Fa d X m+(if aC d (iW X m)<0 then 0 else 2^m)) (rfl)
    obtain⟨s1,s2⟩:=KZ d X m
    have SI:=Zd (rZ (aC d (iW X m)) W4)
    have i1:(m:Int)<4:=gA
    have i2:((iW X m:Nat):Int)<40:=gA
    clear e2 h1 h2 h3
    generalize aC d (iW X m)=z at *
    generalize iW X m=P at *
    generalize aC X m=pl at *
    generalize hs':Fa d X (m+1)=s' at *
    have HS':=Zd hs'
    clear hs'
    generalize Fa d X m=s at *
    go_wp2_with fail
    refine AT.out.mono ?_
    rintro e wy ⟨rfl,rfl⟩
    clear AT
    go_wp2_with fail
    refine SI.out.mono ?_
    rintro e wz ⟨rfl,rfl⟩
    clear SI
    rcases oO z with⟨hz,es⟩|⟨hz,es⟩
    ·rw[es]
     have ES:=Zs (s'=s) (by rw[EB.out,if_pos hz];omega)
     clear es
     go_wp2_with fail
     go_round
     case rel=>exact⟨m+1,by go_num,gA,by rw[HS'.out,ES.out]⟩
     case measure=>simp[intOf];omega
    rw[es]
    have ES:=Zs (s'=s+2^m) (by rw[EB.out,if_neg gA])
    clear es
    have OP:=Zd (ah2 m hm4 s s1 s2)
    go_wp2_with fail
    go_round
    case rel=>exact⟨m+1,by go_num,gA,by rw[HS'.out,ES.out,OP.out]⟩
    case measure=>simp[intOf];omega
   obtain rfl:m=4:=gA
   have PU:=bB (rs':=X) BZ3.out (by rw[HX.out,au])
   have eO:=Zd (lS PU.1 (by rw[HX.out];exact jB))
   have F:=Zd (FY.out _ (aG GG3.out PU.2 (Nat.le_refl _)))
   clear PU
   generalize Fa d X 4=s at *
   rw[show((4:Nat):Int)=4 from rfl]
   go_wp2_with (first|refine lA BX.out (by rw[HX.out];exact jB) ?_|refine sA X BZ3.out (by rw[HX.out,au]) (by rw[au];exact jB) ?_)
   refine bodyPost_ret (v:=.tuple #[.agg (aD X),.int .i64 s,.int .i64 0]) ?_ rfl F.out
   simp[results,results182,asAddr,Act.put,eO.out]
theorem af2 (d r X:List Int)(h:X.length=4):(Fe d r X).length=4:=by unfold Fe;split;exact h;rfl
theorem Ca (d r:List Int):(kR d r).length=4∧f_ (kR d r)=true:=qE (cS d) (eS d r) 8
theorem JD (vd vr:Value)(d r:List Int)(w:World)(hd:aS w vd d)(hr:aS w vr r)(nF:Nat)(CJ:Array Value)(hen:∀args u,(callFunc nF args).run prog u=.ok (.enter nF args) u)(X:List Int)(hX:X.length=4)(gX:f_ X=true)(HF:d.length=40→Finds w nF CJ r X)(hl:d.length≤1000000000000000000)(ni:r.length≤1000000000000000000) :
 Calls prog 182 #[vd,vr,.func (.func nF) #[] CJ] w (Hf w (Fe d r X) (Jc d r X) (vJ d r)):=by
 by_cases h:d.length=40∧r.length=40
 ·exact Dj vd vr d r w hd hr nF CJ hen X hX gX (fun _=>HF h.1) h.1 h.2
 obtain⟨e1,e2,e3⟩:=adU h X
 rw[e1,e2,e3]
 exact Hg vd vr d r w hd hr _ h hl ni
theorem W_ (vd vr:Value)(d r:List Int)(w:World)(hd:aS w vd d)(hr:aS w vr r)(hl:d.length≤1000000000000000000)(ni:r.length≤1000000000000000000) :
 Calls prog 117 #[vd,vr] w (Hf w (Fe d r (kR d r)) (Jc d r (kR d r)) (vJ d r)):=by
 have hmf:∀(fn:Fn) (first cap:Array Value) (w:World),(Instr.makeFunc fn first cap).run prog w=.ok (.func fn first cap) w:=fun _ _ _ _=>rfl
 have hz4:=gM R_
 have g1:=ak w (.cells #[vd] 32) none
 have h1:=cK w (.cells #[vd] 32)
 have g2:=ak (w.alloc (.cells #[vd] 32)) (.cells (aD (ay 4)) 44) none
 have b2:=bO.new1 w (.cells #[vd] 32) 44 (ay 4)
 have c1:=(aI (fA h1 g2 (by simp)) 0).trans (show(#[vd]:Array Value)[0]?=some vd from rfl)
 have gg:=aB g1 g2
 have SE:=Zd (JD vd vr d r _ (aP hd gg) (aP hr gg) 183 #[.pointer (some ⟨w.heap.size,0,none⟩)] Sc (kR d r) (Ca d r).1 (Ca d r).2 (fun h=>JC _ vd d r w.heap.size (aP hd gg) h c1) hl ni)
 have HX:=Zd (af2 d r (kR d r) (Ca d r).1)
 have BZ:=Zd b2
 have GG:=Zd gg
 obtain⟨ad,cp,rfl,_,_⟩:=hd
 obtain⟨ar,cr,rfl,_,_⟩:=hr
 clear g1 g2 h1 b2 gg hl ni
 generalize Fe d r (kR d r)=X at *
 generalize Jc d r (kR d r)=G at *
 generalize vJ d r=en at *
 go_enter func117,ntmps117
 go_upto_region 1 with fail
 generalize (w.alloc _).alloc _=W1 at *
 clear hz4
 go_wp2_with fail
 refine SE.out.mono ?_
 rintro e w2 ⟨rfl,g2⟩
 have B2:=Zd (BZ.out.aH g2)
 have G2:=Zd (aB GG.out g2)
 clear g2 SE c1
 go_wp2_with (first|refine sA X B2.out (by rw[HX.out,au]) (by rw[au];exact jB) ?_)
 have PU:=bB (rs':=X) B2.out (by rw[HX.out,au])
 have eO:=lS PU.1 (by rw[HX.out];exact jB)
 have GF:=Zd (aG G2.out PU.2 gA)
 refine bodyPost_ret (v:=.tuple #[.agg (aD X),.int .i64 G,.int .i64 en]) ?_ rfl ⟨rfl,GF.out⟩
 simp[results,results117,asAddr,Act.put,eO]
theorem Rh.own {w:World}{b:Nat}{B:List Int}(h:Rh w b B)(base:Nat)(hb:base≤b)(hl:B.length=15):jw base w (.slice (some ⟨b,0,none⟩) 15 15) B:=
 ⟨by simp[hl],.inr ⟨b,15,lX B,by rw[hl],hb,h,gA,by unfold maxLen;omega,by simp[lX,hl],by simp[lX,hl];exact List.take_of_length_le (by simp[hl])⟩⟩
theorem N8 (ad:Addr)(n c:Nat)(w:World) :
 Calls prog 43 #[.slice (some ad) n c] w fun e w'=>e=.returned (.func (.func 125) #[] #[.pointer (some ⟨w.heap.size,0,none⟩),.pointer (some ⟨w.heap.size+1,0,none⟩)])∧w'.cell? ⟨w.heap.size,0,none⟩=some (.slice (some ad) n c)∧w'.heap[w.heap.size+1]?=some (.cells #[.int .i64 0] 3 (0,0))∧w.grownBy w' none:=by
 have c0:=aI (cK w (.cells #[.slice (some ad) n c] 33)) 0
 have GG:=Zs (w.grownBy ((w.alloc (.cells #[.slice (some ad) n c] 33)).alloc (.cells #[.int .i64 0] 3)) none) (aB (ak _ _ none) (ak _ _ none))
 have c1:=bA (ak (w.alloc (.cells #[.slice (some ad) n c] 33)) (.cells #[.int .i64 0] 3) none) c0
 have c2:=cK (w.alloc (.cells #[.slice (some ad) n c] 33)) (.cells #[.int .i64 0] 3)
 rw[show(w.alloc (.cells #[.slice (some ad) n c] 33)).heap.size=w.heap.size+1 by simp]at c2
 have C1:=Zd c1
 have C2:=Zd c2
 clear c0 c1 c2
 go_enter func43,ntmps43
 go_wp2_with fail
 go_ret
 exact⟨rfl,C1.out,C2.out,GG.out⟩
structure PkS (w:World) (l:List Int) (bb cb ca base g cap m:Nat) (N:Int) (B:List Int) (wr:World):Prop where
 pk:bO wr w.heap.size 49 l
 fl:lH base wr (.slice (some ⟨g,0,none⟩) 25 cap) 25 (Cy w.heap.size 25)
 pu:uV cb ca bb m B wr
 ly:Lay m N B
 gr:w.grownBy wr none
 o1:w.heap.size<bb
 o2:bb<cb
 o3:cb<ca
 o4:ca<base
theorem PkS.aH {w:World}{l:List Int}{bb cb ca base g cap m:Nat}{N:Int}{B:List Int}{wr wr':World}(h:PkS w l bb cb ca base g cap m N B wr)(k:wr.grownBy wr' none):PkS w l bb cb ca base g cap m N B wr':=
 ⟨h.pk.aH k,h.fl.aH k,h.pu.aH k,h.ly,aB h.gr k,h.o1,h.o2,h.o3,h.o4⟩
theorem PkS.put {w:World}{l:List Int}{bb cb ca base g cap m m':Nat}{N N':Int}{B B':List Int}{wr wr':World}(h:PkS w l bb cb ca base g cap m N B wr)(t:Da (fun i=>i=ca∨i=bb) wr wr')(p:uV cb ca bb m' B' wr')(y:Lay m' N' B'):PkS w l bb cb ca base g cap m' N' B' wr':=by
 have q1:=h.o1
 have q2:=h.o2
 have q3:=h.o3
 have q4:=h.o4
 exact⟨h.pk.trp t gA,h.fl.trp t (fun g hg=>gA),p,y,Da.none h.gr t (fun i e=>gA),q1,q2,q3,q4⟩
theorem aa3 (l:List Int)(hl:l.length=25)(iQ:jv l)(w:World)(hT:TabA w 3 widq 8)(hg:j4 l=false):Calls prog 13 #[.agg (aD l)] w (PkP w l):=by
 have P0:=Zd (bO.new w 49 l)
 have G0:=Zd (ak w (.cells (aD l) 49) none)
 have GD:=Zd (Gn l hl iQ (w.alloc (.cells (aD l) 49)) (gF hT G0.out))
 rw[hg]at GD
 have HG:=Zd hg
 have S25:=Zs ((prog.info? 49).map (·.size)=some l.length) (by rw[hl];exact nS)
 obtain⟨T,hTT⟩:∃T:Ending→World→Prop,PkP w l=T:=⟨_,rfl⟩
 rw[hTT]
 have HTT:=Zd hTT
 clear hTT hl iQ hT hg
 go_enter func13,ntmps13
 go_upto_region 1 with fail
 generalize w.alloc (.cells (aD l) 49)=W0 at *
 go_wp2_with (refine lA P0.out S25.out ?_)
 refine GD.out.mono ?_
 rintro e W1 ⟨rfl,g1⟩
 have GR:=Zd (aB G0.out g1)
 clear GD g1
 go_wp2_with fail
 rw[←HTT.out]
 exact⟨.slice none 0 0,by rw[(adi HG.out).2];rfl,by rw[(adi HG.out).1];exact uj _ _,GR.out⟩
theorem Xd (l:List Int)(hl:l.length=25)(iQ:jv l)(w:World)(hT:TabA w 3 widq 8)(hg:j4 l=true):Calls prog 13 #[.agg (aD l)] w (PkP w l):=by
 have P0:=Zd (bO.new w 49 l)
 have G0:=Zd (ak w (.cells (aD l) 49) none)
 have Z0:=Zs ((w.alloc (.cells (aD l) 49)).heap.size=w.heap.size+1) (by simp)
 have GD:=Zd (Gn l hl iQ (w.alloc (.cells (aD l) 49)) (gF hT G0.out))
 rw[hg]at GD
 have HG:=Zd hg
 have HL:=Zd hl
 have DY:=Zd iQ
 have HT:=Zd hT
 have S25:=Zs ((prog.info? 49).map (·.size)=some l.length) (by rw[hl];exact nS)
 have jg:=Gg 15 gA gA
 rw[show(15:Int).toNat=15 from rfl,show List.replicate 15 (0:Int)=ay 15 from rfl]at jg
 obtain⟨T,hTT⟩:∃T:Ending→World→Prop,PkP w l=T:=⟨_,rfl⟩
 rw[hTT]
 have HTT:=Zd hTT
 clear hTT hl iQ hT hg
 go_enter func13,ntmps13
 go_upto_region 1 with fail
 generalize w.alloc (.cells (aD l) 49)=W0 at *
 go_wp2_with (refine lA P0.out S25.out ?_)
 refine GD.out.mono ?_
 rintro e W1 ⟨rfl,g1⟩
 have GR:=Zd (aB G0.out g1)
 have P1:=Zd (P0.out.aH g1)
 have Z1:=Zs (w.heap.size<W1.heap.size) (by have:=g1.size;have:=Z0.out;omega)
 clear GD g1
 go_upto_region 4 with fail
 clear jg
 have B2:=Zs (Rh (W1.alloc (.cells (lX (ay 15)) 5)) W1.heap.size (ay 15)) (cK _ _)
 have G2:=Zd (ak W1 (.cells (lX (ay 15)) 5) none)
 have Z2:=Zs ((W1.alloc (.cells (lX (ay 15)) 5)).heap.size=W1.heap.size+1) (by simp)
 generalize W1.alloc (.cells (lX (ay 15)) 5)=W2 at *
 go_wp2_with fail
 refine(N8 _ 15 15 W2).mono ?_
 rintro e W3 ⟨rfl,c1,c2,g3⟩
 have PU:=Zs (uV W2.heap.size (W2.heap.size+1) W1.heap.size 0 (ay 15) W3) (⟨c1,c2,B2.out.aH g3,by have:=Z2.out;omega,by have:=Z2.out;omega,gA⟩)
 have GR3:=Zd (aB GR.out (aB G2.out g3))
 have P3:=Zd (P1.out.aH (aB G2.out g3))
 have Z3:=Zd (aN c2)
 clear c1 c2 g3
 go_wp2_with fail
 refine(zX w.heap.size W3 (gF HT.out GR3.out)).mono ?_
 rintro e W4 ⟨v,rfl,o4,g4⟩
 obtain⟨g,cap,rfl,_,_⟩:=o4.form gA
 have M0:=Zs (PkS w l W1.heap.size W2.heap.size (W2.heap.size+1) W3.heap.size g cap (sW 0) (nF l 0) (ay 15) W4) (⟨P3.out.aH g4,o4,PU.out.aH g4,adr,aB GR3.out g4,Z1.out,by have:=Z2.out;omega,gA,Z3.out⟩)
 clear GR3 o4 g4 HT
 generalize W3.heap.size=base at *
 generalize W2.heap.size=cb at *
 generalize W1.heap.size=bb at *
 go_wp2_with fail
 generalize hca:cb+1=ca at *
 clear hca
 go_loopw [16] (fun i wr=>∃(m:Nat) (B:List Int),i=.int .i64 (m:Int)∧m≤25∧Hid (PkS w l bb cb ca base g cap (sW m) (nF l m) B wr)) (fun i _=>25-(intOf i).toNat)
 case atStart=>exact⟨0,ay 15,rfl,Nat.zero_le _,M0.out⟩
 case round=>
  obtain⟨m,B,rfl,hm,hM⟩:=hrel
  clear M0
  by_cases wB:m<25
  ·have i1:(m:Int)<25:=gA
   obtain⟨c0,c1,c2⟩:=hM.out.fl.fld m wB
   have cx:=hM.out.pk.cell m (by rw[HL.out];exact wB)
   have F0:=Zd (cK wr (.cells #[.pointer (some ⟨w.heap.size,m,none⟩),.int .i64 (oQ m:Int),.int .i64 (uO m)] 84))
   have GA:=Zd (ak wr (.cells #[.pointer (some ⟨w.heap.size,m,none⟩),.int .i64 (oQ m:Int),.int .i64 (uO m)] 84) none)
   have cx2:=bA GA.out cx
   have FB:=Zs (ca<wr.heap.size∧bb<wr.heap.size∧w.heap.size<bb∧bb<ca) (⟨aN hM.out.pu.at',aN hM.out.pu.byt,hM.out.o1,Nat.lt_trans hM.out.o2 hM.out.o3⟩)
   have M1:=Zd (hM.out.aH (bW GA.out))
   obtain⟨x0,x1⟩:=(kF l).1 HG.out m wB
   obtain⟨_,x2,x3⟩:=Bf m wB
   have PC:=Zd (fun u (h:PkS w l bb cb ca base g cap (sW m) (nF l m) B u)=>xL cb ca bb (sW m) (oQ m) (nF l m) (aC l m) B u (by have:=acr m wB;omega) (by have:=acp (m+1) gA;rw[afN]at this;omega) x0 gA gA h.pu h.ly)
   clear hM x1 x2 x3
   go_upto_region 8 with fail
   generalize wr.alloc (.cells #[.pointer (some ⟨w.heap.size,m,none⟩),.int .i64 (oQ m:Int),.int .i64 (uO m)] 84)=W2' at *
   have f0:W2'.cell? ⟨wr.heap.size,0,none⟩=some (.pointer (some ⟨w.heap.size,m,none⟩)):=aI F0.out 0
   have f1:W2'.cell? ⟨wr.heap.size,1,none⟩=some (.int .i64 (oQ m:Int)):=aI F0.out 1
   clear c0 c1 c2 cx
   generalize wr.heap.size=fb at *
   refine wp_region_held_drew (S:=fun u=>u.cell? ⟨fb,0,none⟩=some (.pointer (some ⟨w.heap.size,m,none⟩))∧u.cell? ⟨fb,1,none⟩=some (.int .i64 (oQ m:Int))∧u.cell? ⟨w.heap.size,m,none⟩=some (.int .i64 (aC l m))) (by kernel_rfl) ⟨f0,f1,cx2⟩ (fun aj=>?_)
   clear f0 f1 cx2
   generalize W2'.drew=W3' at *
   refine bV 0 aj ?_
   refine bV 1 aj ?_
   refine bV (hy:=by intro w' bL;obtain⟨q0,q1,q2⟩:=bL;go_simp;(try with_reducible rfl)) (v:=.pointer (some ⟨w.heap.size,m,none⟩)) 2 aj ?_
   refine bV 3 aj ?_
   refine bV (hy:=by intro w' bL;obtain⟨q0,q1,q2⟩:=bL;go_simp;(try with_reducible rfl)) (v:=.int .i64 (aC l m)) 4 aj ?_
   refine bV 5 aj ?_
   refine bV (hy:=by intro w' bL;obtain⟨q0,q1,q2⟩:=bL;go_simp;(try with_reducible rfl)) (v:=.int .i64 (oQ m:Int)) 6 aj ?_
   refine fI 7 fun K hK=>?_
   (try simp only[sZ])
   go_simp
   refine(PC.out W3' M1.out).mono ?_
   rintro e W6 ⟨rfl,B',y',p',t'⟩
   go_wp2_with fail
   refine hK.out _ _ ⟨Gm t' aj.1 (by have:=FB.out;rintro(e|e)<;>omega),Gm t' aj.2.1 (by have:=FB.out;rintro(e|e)<;>omega),Gm t' aj.2.2 (by have:=FB.out;rintro(e|e)<;>omega)⟩ (fun aj=>?_)
   (try simp only[sZ])
   refine lM ?_
   have M2:=Zs (PkS w l bb cb ca base g cap (sW (m+1)) (nF l (m+1)) B' W6) (M1.out.put t' p' y')
   clear M1 t' p' y' PC aj
   go_wp2_with fail
   go_roundw
   case rel=>exact⟨m+1,B',by go_num,gA,M2.out⟩
   case measure=>first|(simp[intOf];done)|(simp[intOf];omega)
  obtain rfl:m=25:=gA
  rw[show((25:Nat):Int)=25 from rfl]
  rw[ahz]at hM
  go_wp2_with (refine lA hM.out.pk S25.out ?_)
  refine(Nl l HL.out DY.out wr).mono ?_
  rintro e W5 ⟨rfl,g5⟩
  have M1:=Zd (hM.out.aH g5)
  obtain⟨p0,p1⟩:=Mi l
  clear hM g5
  go_wp2_with fail
  refine(xL cb ca bb 106 1 (nF l 25) (uP l) B W5 gA gA p0 gA gA M1.out.pu M1.out.ly).mono ?_
  rintro e W6 ⟨rfl,B6,y6,p6,t6⟩
  have M2:=Zd (M1.out.put t6 p6 y6)
  clear M1 y6 p6 t6
  go_wp2_with fail
  refine(xL cb ca bb 107 5 (nF l 25*2^1+uP l) 0 B6 W6 gA gA gA (by decide) gA M2.out.pu M2.out.ly).mono ?_
  rintro e W7 ⟨rfl,B7,y7,p7,t7⟩
  rw[show(nF l 25*2^1+uP l)*2^5+0=mP l by unfold mP;rw[show(2:Int)^1=2 from rfl,show(2:Int)^5=32 from rfl,Int.add_zero]]at y7
  have M3:=Zs (PkS w l bb cb ca base g cap 112 (mP l) B7 W7) (M2.out.put t7 p7 y7)
  clear M2 y7 p7 t7
  have BB:=Zd (fun i=>M3.out.ly.bd i)
  have CE:=Zs (zD (B7.take 14) 14=zD (zF (mP l)) 14) (by rw[←afL M3.out.ly];unfold zD;rw[qV (B7.take 14) B7 14 (fun i hi=>by simp[aC,List.getD,List.getElem?_take,hi])])
  have BY:=Zd (M3.out.pu.byt.aaF 14 (by rw[M3.out.ly.1];omega) 15 gA)
  have YB:=Zd (show byB (B7.take 14)from fun i=>by
   by_cases hi:i<14
   ·have:=BB.out i
    simpa [aC,List.getD,List.getElem?_take,hi] using this
   rw[dO _ i (by simp;omega)];omega)
  go_wp2_with fail
  refine(aaK _ 15 (B7.take 14) W7 BY.out YB.out).mono ?_
  rintro e W8 ⟨rfl,rfl⟩
  rw[CE.out]
  clear BY YB
  have sb:0≤zD (zF (mP l)) 14∧zD (zF (mP l)) 14<256:=by unfold zD;omega
  go_wp2_with fail
  refine(xL cb ca bb 112 8 (mP l) (zD (zF (mP l)) 14) B7 W8 gA gA sb.1 (by rw[show(2:Int)^8=256 from rfl];exact sb.2) sb.2 M3.out.pu M3.out.ly).mono ?_
  rintro e W9 ⟨rfl,B9,y9,p9,t9⟩
  have M4:=Zd (M3.out.put t9 p9 y9)
  clear M3 y9 p9 t9
  go_wp2_with fail
  rw[←HTT.out]
  refine⟨.slice (some ⟨bb,0,none⟩) 15 15,by rw[(Y5 HG.out).2];rfl,?_,M4.out.gr⟩
  rw[(Y5 HG.out).1,←afM M4.out.ly]
  exact M4.out.pu.byt.own _ (Nat.le_of_lt M4.out.o1) M4.out.ly.1
theorem Xe (l:List Int)(hl:l.length=25)(iQ:jv l)(w:World)(hT:TabA w 3 widq 8):Calls prog 13 #[.agg (aD l)] w (PkP w l):=by
 rcases h:j4 l with _|_
 ·exact aa3 l hl iQ w hT h
 exact Xd l hl iQ w hT h
theorem ag5:(prog.info? 22).map (·.size)=some 2:=by kernel_rfl
theorem adZ:(prog.info? 25).map (·.size)=some 120:=by kernel_rfl
theorem hpF:∃n0 n1:Field,(prog.fieldsOf 24).toList=[n0,n1]∧(n0.name≠ "_"∧n0.type=22∧n0.offset=0)∧(n1.name≠ "_"∧n1.type=22∧n1.offset=2):=by
 unfold Program.fieldsOf
 rw[underlying24]
 exact⟨_,_,rfl,⟨by decide,rfl,rfl⟩,⟨by decide,rfl,rfl⟩⟩
theorem ah4 (d:Nat)(h:List Int)(hh:h.length=4)(w:World):Sem.run prog (Op.equalIn (d+1+1+1) 24 (.agg (aO h).toArray) (.agg (aO h).toArray)) w=.ok true w:=by
 obtain⟨n0,n1,hf,⟨a0,b0,c0⟩,⟨a1,b1,c1⟩⟩:=hpF
 rw[run_equalIn_struct w (d+1+1) 24 _ _ (by kernel_rfl) (by kernel_rfl),hf]
 refine jL a0 (v:=.agg (aD (bP h 0 2))) (by rw[b0,c0];exact wC underlying22 rfl ag5 (aO h) 0 _ (gN.part 0 2 gA) w) (by rw[b0];exact Aw (bP h 0 2) underlying22 (aR _ _ _) d w) ?_
 refine jL a1 (v:=.agg (aD (bP h 2 2))) (by rw[b1,c1];exact wC underlying22 rfl ag5 (aO h) 2 _ (gN.part 2 2 gA) w) (by rw[b1];exact Aw (bP h 2 2) underlying22 (aR _ _ _) d w) ?_
 exact Nn
theorem alv:∃n0 n1 n2:Field,(prog.fieldsOf 31).toList=[n0,n1,n2]∧(n0.name≠ "_"∧n0.type=24∧n0.offset=0)∧(n1.name≠ "_"∧n1.type=25∧n1.offset=4)∧(n2.name≠ "_"∧n2.type=29∧n2.offset=124):=by
 unfold Program.fieldsOf
 rw[underlying31]
 exact⟨_,_,_,rfl,⟨by decide,rfl,rfl⟩,⟨by decide,rfl,rfl⟩,⟨by decide,rfl,rfl⟩⟩
theorem ah5 (e:List Int)(s:Bool)(he:e.length=225)(w:World):Sem.run prog (Op.equalIn 10000 31 (eX e s) (eX e s)) w=.ok true w:=by
 obtain⟨n0,n1,n2,hf,⟨a0,b0,c0⟩,⟨a1,b1,c1⟩,⟨a2,b2,c2⟩⟩:=alv
 unfold eX
 rw[show(10000:Nat)=9996+1+1+1+1 from rfl,run_equalIn_struct w (9996+1+1+1) 31 _ _ (by kernel_rfl) (by kernel_rfl),hf]
 refine jL a0 (v:=.agg (aO (bP e 0 4)).toArray) (by rw[b0,c0];exact wC underlying24 rfl pV (bK e s) 0 _ (m_ s 0 4 gA) w) (by rw[b0];exact ah4 9996 (bP e 0 4) (aR _ _ _) w) ?_
 refine jL a1 (v:=.agg (aD (bP e 4 120))) (by rw[b1,c1];exact wC underlying25 rfl adZ (bK e s) 4 _ (m_ s 4 120 gA) w) (by rw[b1];exact Aw (bP e 4 120) underlying25 (aR _ _ _) (9996+1) w) ?_
 refine jL a2 (v:=.agg (aU (bP e 124 101) s).toArray) (by rw[b2,c2];exact wC underlying29 rfl aY (bK e s) 124 _ (lZ s he) w) (by rw[b2];exact afP 9996 (bP e 124 101) s (aR _ _ _) w) ?_
 exact Nn
theorem af4 (e:List Int)(s:Bool)(he:e.length=225)(w:World):Sem.run prog (binOp .eql 31 (eX e s) (eX e s)) w=.ok (.bool true) w:=by
 have h:=ah5 e s he w
 unfold eX at h ⊢
 rw[run_eql_struct,h]
 rfl
theorem aa4 (x y:Operand)(l m:List Int)(s t:Bool)(w:World):Sem.run prog (eqGuard .eql 31 x y (eX l s) (eX m t)) w=.ok () w:=run_eqGuard_agg w .eql 31 x y _ _ (by kernel_rfl)
theorem yg {ops:Array Oper}{rest:List Oper}{o:Oper}{a:Act}{w:World}{Q:Exit→Act→World→Prop}(hgd:Region.wanted o (yielded ops a.tmps)=true)(x y:Operand)(ho:o.op=.binOp .eql 31 x y 31)
 (l:List Int) (s:Bool) (hl:l.length=225) (hx:a.eval x=eX l s) (hy:a.eval y=eX l s) (k:wpList prog ops Q rest (a.put o.dst (.bool true)) w):wpList prog ops Q (o::rest) a w:=by
 refine wpList_step fun K hK=>?_
 rw[if_pos hgd]
 have h1:=aa4 x y l l s s w
 have h2:=af4 l s hl w
 unfold Oper.wp
 simp only[execOp,ho,hx,hy,Sem.run_bind,h1,Result.andThen_ok,h2]
 exact hK _ _ k
theorem aa5 (w:World)(m:List Int)(t:Bool)(hm:m.length=225):fU (w.alloc (.cells (bK (ay 225) false).toArray 31)) w.heap.size (ay 225) false∧fU (dQ (w.alloc (.cells (bK (ay 225) false).toArray 31)) w.heap.size 0 (bK m t)) w.heap.size m t∧w.grownBy (dQ (w.alloc (.cells (bK (ay 225) false).toArray 31)) w.heap.size 0 (bK m t)) none:=by
 have B:=fU.new w (ay 225) false
 have P:=B.fu (m:=m) (t:=t) (au 225) hm
 exact⟨B,P.1,aG (ak _ _ none) P.2 (Nat.le_refl _)⟩
def uw:List Int:=ay 124++iL
theorem wI:uw.length=225:=by unfold uw;rw[List.length_append,au,jH]
def CBg (f:Nat)(w:World):Prop:=∀wr,w.grownBy wr none→Calls prog f #[] wr (jk wr (eX uw false))
theorem JF (w:World):Sem.run prog (Instr.build 31 #[(2,dI iL false)]) w=.ok (eX uw false) w:=by kernel_rfl
theorem uy {ops:Array Oper}{rest:List Oper}{op:Oper}{a:Act}{w:World}{Q:Exit→Act→World→Prop}(hgd:op.guard=none)(x:Operand)(ho:op.op=.build 31 #[(2,x)])(hx:a.eval x=dI iL false)
 (k:wpList prog ops Q rest (a.put op.dst (eX uw false)) w):wpList prog ops Q (op::rest) a w:=by
 refine wpList_plain hgd fun _ hK=>?_
 unfold Oper.wp execOp
 have e:(#[(2,x)]:Array (Nat×Operand)).map (fun(i,x)=>(i,a.eval x))=#[(2,dI iL false)]:=by simp[hx]
 simp only[ho,e,Sem.run_bind,JF,Result.andThen_ok,Sem.run_pure]
 exact hK _ _ k
theorem p8:(prog.info? 46).map (·.size)=some 8:=by kernel_rfl
theorem p4:(prog.info? 44).map (·.size)=some 4:=by kernel_rfl
theorem K5 {w:World}{v:Value}{b:List Int}(h:Gf w v b)(hv:v=.slice none 0 0∨∃a n c,v=.slice (some a) n c):Sem.run prog (convert 33 9 v) w=.ok (.string (strOfNums b)) w:=by
 obtain⟨ad,c,rfl,hc,bH⟩:=h
 rcases hv with e|⟨a,n,c',e⟩
 ·simp only[Value.slice.injEq]at e
  obtain⟨rfl,e2,rfl⟩:=e
  rw[run_convert_bytes_nil w 33 5 underlying33 underlying5 _ _ 9 underlying9,List.length_eq_zero_iff.1 e2]
  rfl
 simp only[Value.slice.injEq]at e
 obtain⟨rfl,rfl,rfl⟩:=e
 have hl:(loadCells a b.length).run prog w=.ok (b.map (Value.int .u8)).toArray w:=by
  have:=run_loadCells_list (P:=prog) w a (b.map (Value.int .u8)) (fun j v hj=>by
   have hjl:j<b.length:=by
    rcases Nat.lt_or_ge j b.length with h|h
    ·exact h
    simp[List.getElem?_eq_none (show(b.map (Value.int .u8)).length≤j by simpa using h)]at hj
   obtain⟨a',ea,h3⟩:=bH gA
   cases ea
   rw[h3 j hjl]
   simpa [aC,List.getD,hjl] using hj)
  simpa using this
 rw[run_convert_bytes_string w 33 9 5 _ b.length c underlying33 underlying5 underlying9,run_bytesToString w _ b.length c b hl,foldl_push_bytes]
 simp[strOfNums,ByteArray.empty,ByteArray.emptyWithCapacity]
 rfl
theorem Af (n:Nat):(0:Int)<2^n:=Int.pow_pos (by decide)
theorem ad9 (u:Int)(j:Nat):u / 2^j / 2=u / 2^(j+1):=by rw[Int.pow_succ,Int.ediv_ediv_of_nonneg (Int.le_of_lt (Af j))]
theorem ad_ (l:List Int)(hw:WF l)(m:Nat)(hm:l.length=m+1)(j:Nat)(h1:aC l m<2^j)(h3:1≤j)(h4:2^(j-1)≤aC l m):Bits (val l) (m*32+j):=by
 have hv:val l=cZ l m+aC l m*P m:=by unfold val;rw[hm];rfl
 obtain⟨b1,b2⟩:=oM l hw m
 have hp:=nD m
 have hq:=Af (j-1)
 have e:P m=2^(m*32):=by rw[KV,Nat.mul_comm]
 have e1:0≤(2^j-1-aC l m)*P m:=Int.mul_nonneg gA gA
 have e2:0≤(aC l m-2^(j-1))*P m:=Int.mul_nonneg gA gA
 have e3:(2:Int)^(m*32+j)=2^j*P m:=by rw[Int.pow_add,e,Int.mul_comm]
 have e4:(2:Int)^(m*32+j-1)=2^(j-1)*P m:=by rw[show m*32+j-1=m*32+(j-1) by omega,Int.pow_add,e,Int.mul_comm]
 have e5:0<aC l m*P m:=Int.mul_pos gA hp
 simp only[Int.sub_mul,Int.one_mul]at e1 e2
 refine⟨gA,fun h=>gA,fun _=>⟨gA,gA⟩⟩
theorem aa7 (u:Int)(j:Nat)(u0:0≤u):(u / 2^j=0→u<2^j)∧(u / 2^j≠0→2^j≤u)∧0≤u / 2^j∧u / 2^j≤u:=by
 have hp:=Af j
 refine⟨fun h=>?_,fun h=>?_,Int.ediv_nonneg u0 gA,Int.ediv_le_self _ u0⟩
 ·rcases Int.lt_or_le u (2^j)with g|g
  ·exact g
  have:=(Int.le_ediv_iff_mul_le (a:=1) (b:=u) hp).2 gA;omega
 rcases Int.lt_or_le u (2^j)with g|g
 ·exact absurd (Int.ediv_eq_zero_of_lt u0 g) h
 exact g
theorem aea (j:Nat)(u:Int)(h:2^j≤u)(u1:u<4294967296):j<32:=by
 rcases Nat.lt_or_ge j 32 with g|g
 ·exact g
 have h1:(2:Nat)^32≤2^j:=Nat.pow_le_pow_right gA g
 have e:((2^j:Nat):Int)=(2:Int)^j:=by simp
 omega
theorem yR (v:Value)(l:List Int)(w:World)(tZ:Sl w v l)(hw:WF l)(ht:Top l)(hl:l.length≤40) :
 Calls prog 135 #[v] w fun e w'=>∃n:Nat,n≤1280∧Bits (val l) n∧e=.returned (.int .i64 n)∧w'=w:=by
 obtain⟨ad,c,rfl,hv⟩:=iK tZ
 by_cases h0:l.length=0
 ·have hb0:((l.length:Int)==0)=true:=by simp[h0]
  have F:=Zs (Bits (val l) 0) (by rw[List.length_eq_zero_iff.1 h0,mh];exact⟨by decide,fun _=>rfl,fun h=>gA⟩)
  clear hv tZ ht
  go_enter func135,ntmps135
  go_wp2_with fail
  go_ret
  exact⟨0,gA,F.out,rfl,rfl⟩
 obtain⟨b,rfl,hb,bH⟩:=hv gA
 have hb0:((l.length:Int)==0)=false:=beq_eq_false_iff_ne.2 gA
 have hc:=bH (l.length-1) gA
 obtain⟨u0,u1⟩:=hw (l.length-1)
 have hu:aC l (l.length-1)≠0:=by rcases ht with rfl|h;simp at h0;exact h
 have h_:=Zd (ad_ l hw (l.length-1) gA)
 generalize aC l (l.length-1)=u at *
 clear bH hv tZ ht hw
 go_enter func135,ntmps135
 go_wp2_with fail
 go_loop [3,4] (fun n t=>∃j:Nat,n=.int .i64 j∧t=.int .u32 (u / 2^j)∧j≤32∧Hid (j=0∨2^(j-1)≤u)) (fun n _=>33-(intOf n).toNat)
 case atStart=>exact⟨0,rfl,by simp,gA,.inl rfl⟩
 case round=>
  obtain⟨j,rfl,rfl,hj,hJ⟩:=hrel
  obtain⟨s1,s2,s3,s4⟩:=aa7 u j u0
  have S1:=Zd s1
  have S2:=Zd s2
  have HH:=Zd (ad9 u j)
  clear s1 s2
  generalize hT:u / 2^j=t at *
  have HT:=Zd hT
  clear hT
  by_cases ht:t=0
  ·have lt:=S1.out ht
   have hj1:1≤j:=by
    rcases Nat.eq_zero_or_pos j with rfl|h
    ·simp at lt;omega
    exact h
   have F:=Zd (h_.out j lt hj1 (by rcases hJ.out with h|h;omega;exact h))
   subst ht
   clear lt hJ
   go_wp2_with fail
   go_ret
   exact⟨(l.length-1)*32+j,gA,F.out,by first|rfl|(simp;omega),rfl⟩
  have le:=Zd (S2.out ht)
  have hb1:(t==0)=false:=beq_eq_false_iff_ne.2 ht
  have lt:=aea j u le.out u1
  clear hJ
  go_wp2_with fail
  go_round
  case rel=>exact⟨j+1,by go_num,by rw[←HH.out],gA,.inr (by simpa using le.out)⟩
  case measure=>simp[intOf];omega
def K7 (a b:List Int)(i:Nat)(rs:List Int):Prop:=
 rs.length=a.length+b.length∧WF rs∧cZ rs (i+b.length)=cZ a i*val b∧∀k,i+b.length≤k→aC rs k=0
def Td (a b:List Int)(i j:Nat)(c:Int)(R rs:List Int):Prop:=
 rs.length=a.length+b.length∧WF rs∧0≤c∧c<4294967296∧cZ rs (i+j)+c*P (i+j)=cZ R (i+j)+aC a i*P i*cZ b j∧∀k,i+j≤k→aC rs k=aC R k
theorem aa_ (a b:List Int):K7 a b 0 (List.replicate (a.length+b.length) 0):=
 ⟨by simp,tq _,by rw[vN];simp[cZ],fun k _=>kV _ _⟩
theorem Te (a b:List Int)(i:Nat)(R:List Int)(h:K7 a b i R):Td a b i 0 0 R R:=
 ⟨h.1,h.2.1,gA,gA,by simp[cZ],fun k _=>rfl⟩
theorem aee (x y:Int)(hx:0≤x)(hx':x<4294967296)(hy:0≤y)(hy':y<4294967296):0≤x*y∧x*y≤18446744065119617025:=
 ⟨Int.mul_nonneg hx hy,Int.mul_le_mul (a:=x) (b:=y) (c:=4294967295) (d:=4294967295) gA gA hy gA⟩
theorem Tf (a b:List Int)(i j:Nat)(c d:Int)(R rs:List Int)(wa:WF a)(wb:WF b)(hi:i<a.length)(hj:j<b.length)(h:Td a b i j c R rs)(hd:d=c+(aC a i*aC b j+aC rs (i+j))) :
 Td a b i (j+1) (d / 4294967296) R (rs.set (i+j) (d % 4294967296)):=by
 obtain⟨h1,h2,h3,h4,h5,h6⟩:=h
 obtain⟨m1,m2⟩:=aee (aC a i) (aC b j) (wa i).1 (wa i).2 (wb j).1 (wb j).2
 have x3:=h2 (i+j)
 have nn:∀k,aC (rs.set (i+j) (d % 4294967296)) k=if k=i+j then d % 4294967296 else aC rs k:=fun k=>kU _ _ _ _ gA
 refine⟨by simp;omega,uI _ _ _ h2 gA gA gA,gA,gA,?_,fun k hk=>by rw[nn,if_neg gA];exact h6 k gA⟩
 rw[show i+(j+1)=i+j+1 by omega,cZ,nn,if_pos rfl,iY _ rs (i+j) (fun k hk=>by rw[nn,if_neg gA]),uG]
 have e1:cZ R (i+j+1)=cZ R (i+j)+aC rs (i+j)*P (i+j):=by rw[cZ,h6 (i+j) gA]
 have e2:aC a i*P i*cZ b (j+1)=aC a i*P i*cZ b j+aC a i*aC b j*P (i+j):=by
  rw[cZ,Int.mul_add,Ph]
  congr 1
  rw[Int.mul_assoc,Int.mul_assoc,Int.mul_left_comm (P i)]
 rw[e1,e2]
 have e3:d=d % 4294967296+4294967296*(d / 4294967296):=(Int.emod_add_mul_ediv d 4294967296).symm
 have e4:d*P (i+j)=d % 4294967296*P (i+j)+d / 4294967296*(P (i+j)*4294967296):=by
  conv=>lhs;rw[e3]
  rw[Int.add_mul,Int.mul_comm 4294967296,Int.mul_assoc,Int.mul_comm 4294967296]
 have e5:d*P (i+j)=c*P (i+j)+(aC a i*aC b j*P (i+j)+aC rs (i+j)*P (i+j)):=by rw[hd,Int.add_mul,Int.add_mul]
 omega
theorem abb (a b:List Int)(i:Nat)(c:Int)(R rs:List Int)(wa:WF a)(wb:WF b)(hi:i<a.length)(hR:K7 a b i R)(h:Td a b i b.length c R rs) :
 K7 a b (i+1) (rs.set (i+b.length) c):=by
 obtain⟨h1,h2,h3,h4,h5,h6⟩:=h
 obtain⟨r1,r2,r3,r4⟩:=hR
 have nn:∀k,aC (rs.set (i+b.length) c) k=if k=i+b.length then c else aC rs k:=fun k=>kU _ _ _ _ gA
 refine⟨by simp;omega,uI _ _ _ h2 gA h3 h4,?_,fun k hk=>by rw[nn,if_neg gA,h6 k gA];exact r4 k gA⟩
 rw[show i+1+b.length=i+b.length+1 by omega,cZ,nn,if_pos rfl,iY _ rs (i+b.length) (fun k hk=>by rw[nn,if_neg gA]),h5,r3,cZ,Int.add_mul]
 rfl
theorem agf (a b:List Int)(rs:List Int)(h:K7 a b a.length rs):WF rs∧val rs=val a*val b∧rs.length=a.length+b.length:=by
 obtain⟨h1,h2,h3,h4⟩:=h
 refine⟨h2,?_,h1⟩
 rw[←lD rs (a.length+b.length) gA,h3]
 rfl
theorem Zk (w:World)(rs:List Int)(n k:Nat)(v:Int):((w.alloc (.cells (arr rs) 157)).drewN n).setCell ⟨w.heap.size,k,none⟩ (.int .u32 v)=(w.alloc (.cells (arr (rs.set k v)) 157)).drewN n:=by
 show((w.alloc (.cells (arr rs) 157)).setCell ⟨w.heap.size,k,none⟩ (.int .u32 v)).drewN n=_
 rw[World.setCell_alloc_at _ _ _ _ _ rfl,kQ]
theorem aef (va vb:Value)(a b:List Int)(w:World)(ha:Sl w va a)(hb:Sl w vb b)(wa:WF a)(wb:WF b)(la:a.length≤40)(lb:b.length≤40) :
 Calls prog 146 #[va,vb] w (gT w (val a*val b) (a.length+b.length)):=by
 obtain⟨ada,ca,rfl,qZ⟩:=iK ha
 obtain⟨adb,cb,rfl,qc⟩:=iK hb
 clear ha hb
 by_cases ha0:a.length=0
 ·have F:=Zs (gT w (val a*val b) (a.length+b.length) (.returned (.slice none 0 0)) w) (⟨_,[],rfl,qX _,uJ,qb,by rw[List.length_eq_zero_iff.1 ha0];simp[mh],by simp,aQ _ _⟩)
  have e0:((a.length:Int)==0)=true:=by simp[ha0]
  clear qZ qc ha0
  generalize gT w _ _=T at *
  go_enter func146,ntmps146
  go_wp2_with fail
  exact F.out
 have e0:((a.length:Int)==0)=false:=beq_eq_false_iff_ne.2 gA
 by_cases hb0:b.length=0
 ·have F:=Zs (gT w (val a*val b) (a.length+b.length) (.returned (.slice none 0 0)) w) (⟨_,[],rfl,qX _,uJ,qb,by rw[List.length_eq_zero_iff.1 hb0];simp[mh],by simp,aQ _ _⟩)
  have e1:((b.length:Int)==0)=true:=by simp[hb0]
  clear qZ qc ha0 hb0
  generalize gT w _ _=T at *
  go_enter func146,ntmps146
  go_wp2_with fail
  exact F.out
 have e1:((b.length:Int)==0)=false:=beq_eq_false_iff_ne.2 gA
 obtain⟨ba,rfl,hba,hca⟩:=qZ gA
 obtain⟨bb,rfl,hbb,hcb⟩:=qc gA
 have jg:=fun u=>qY ((a.length:Int)+b.length) gA gA u
 have hn:((a.length:Int)+b.length).toNat=a.length+b.length:=gA
 rw[hn]at jg
 clear hn qZ qc ha0 hb0
 have HCA:=Zd hca
 have HCB:=Zd hcb
 clear hca hcb
 go_enter func146,ntmps146
 go_wp2_with fail
 go_loopw [6,7,8] (fun i c jj wr=>∃(k n:Nat) (rs:List Int),i=.int .i64 k∧k≤a.length∧Hid (K7 a b k rs)∧wr=(w.alloc (.cells (arr rs) 157)).drewN n) (fun i _ _ _=>a.length-(intOf i).toNat)
 case atStart=>exact⟨0,0,_,rfl,Nat.zero_le _,aa_ a b,rfl⟩
 case round=>
  obtain⟨k,n,R,rfl,hk,hR,rfl⟩:=hrel
  by_cases hka:k<a.length
  ·have c1:=HCA.out k hka
   obtain⟨x0,x1⟩:=wa k
   clear jg
   go_wp2_with fail
   go_loopw [7,8] (fun c jj wr=>∃(j m:Nat) (z:Int) (rs:List Int),c=.int .u64 z∧jj=.int .i64 j∧j≤b.length∧Hid (Td a b k j z R rs)∧wr=(w.alloc (.cells (arr rs) 157)).drewN m) (fun _ jj _=>b.length-(intOf jj).toNat)
   case atStart=>exact⟨0,n,0,_,rfl,rfl,Nat.zero_le _,Te a b k R hR.out,rfl⟩
   case round=>
    obtain⟨j,m,z,rs,rfl,rfl,hj,hI,rfl⟩:=hrel
    have hlen:Hid (rs.length=a.length+b.length):=hI.out.1
    obtain⟨z0,z1⟩:0≤z∧z<4294967296:=⟨hI.out.2.2.1,hI.out.2.2.2.1⟩
    by_cases hjb:j<b.length
    ·have c2:=HCB.out j hjb
     obtain⟨y0,y1⟩:=wb j
     obtain⟨t0,t1⟩:=hI.out.2.1 (k+j)
     have g1:=mF rs (k+j) (by rw[hlen.out];omega)
     obtain⟨m1,m2⟩:=aee (aC a k) (aC b j) x0 x1 y0 y1
     have hI':=Zd (Tf a b k j z _ R rs wa wb hka hjb hI.out rfl)
     go_wp2_with fail
     go_quiet (fail)
     go_wp2_with fail
     go_roundw
     case rel=>exact⟨j+1,_,_,_,rfl,by go_num,gA,hI'.out,by rw[Zk]⟩
     case measure=>simp[intOf];omega
    have hjj:j=b.length:=gA
    subst hjj
    have hA':=Zd (abb a b k z R rs wa wb hka hR.out hI.out)
    have g1:=mF rs (k+b.length) (by rw[hlen.out];omega)
    have hz:z % 4294967296=z:=gA
    go_wp2_with fail
    go_roundw
    case rel=>exact⟨k+1,_,_,by go_num,gA,hA'.out,by rw[Zk]⟩
    case measure=>simp[intOf];omega
  have hkk:k=a.length:=gA
  subst hkk
  have F:=Zd (agf a b R hR.out)
  have tZ:=Zd (jF (sN w R (a.length+b.length) F.out.2.2) (dh _ n none))
  clear hR jg
  go_wp2_with fail
  refine(nO _ R _ tZ.out F.out.1 (by rw[F.out.2.2];omega)).mono ?_
  rintro e w1 ⟨v',l',rfl,s1,s2,s3,s4,s5,rfl⟩
  have G:=Zs (gT w (val a*val b) (a.length+b.length) (.returned v') _) (⟨v',l',rfl,s1,s2,s3,s4.trans F.out.2.1,by rw[F.out.2.2]at s5;exact s5,aB (ak _ _ _) (dh _ n none)⟩)
  clear s1 s2 s3 s4 s5 tZ F
  generalize gT w (val a*val b) (a.length+b.length)=T at *
  go_wp2_with fail
  exact G.out
theorem agh (nx ny:Bool)(a b:Int):kS (nx != ny) (a*b)=kS nx a*kS ny b:=by
 cases nx<;>cases ny<;>simp[kS,Int.neg_mul,Int.mul_neg]
theorem iC (bz bx iP:Nat)(x y:Int)(w:World)(hz:Struct w bz)(hx:jJ w bx x)(hy:jJ w iP y)(h1:-P 8<x*y)(h2:x*y<P 8) :
 Calls prog 64 #[.pointer (some ⟨bz,0,none⟩),.pointer (some ⟨bx,0,none⟩),.pointer (some ⟨iP,0,none⟩)] w (fT w bz (x*y)):=by
 obtain⟨vx,lx,x0,x1,xb,xs,xw,xt,xv,xl⟩:=fC hx
 obtain⟨vy,ly,y0,y1,yb,ys,yw,yt,yv,yl⟩:=fC hy
 have ex:kS (decide (x<0)) (val lx)=x:=by rw[xv];exact qw x
 have ey:kS (decide (y<0)) (val ly)=y:=by rw[yv];exact qw y
 clear hx hy xv yv
 generalize decide (x<0)=nx at *
 generalize decide (y<0)=ny at *
 have SUM:=Zd (aef vx vy lx ly w.drew xs ys xw yw gA gA)
 have HE:Hid (kS (nx != ny) (val lx*val ly)=x*y):=by unfold Hid;rw[agh,ex,ey]
 have h_:=Zd (show ∀v' l' w1,Sl w1 v' l'→WF l'→Top l'→val l'=val lx*val ly→w.drew.grownBy w1 none→
  (w1.cell? ⟨bx,0,none⟩=some (.bool nx)∧w1.cell? ⟨bx,1,none⟩=some vx∧w1.cell? ⟨iP,0,none⟩=some (.bool ny)∧w1.cell? ⟨iP,1,none⟩=some vy)∧Calls prog 132 #[.pointer (some ⟨bz,0,none⟩),.bool (nx != ny),v'] w1 (fun e w2=>e=.returned (.pointer (some ⟨bz,0,none⟩))∧fT w bz (x*y) e w2)from by
  intro v' l' w1 s1 s2 s3 s4 s6
  have g:w.grownBy w1 none:=⟨s6.os,s6.tape,s6.output,s6.size,s6.block⟩
  have hv:kS (nx != ny) (val l')=x*y:=by rw[s4];exact HE.out
  refine⟨⟨by rw[eY g xb];exact x0,by rw[eY g xb];exact x1,by rw[eY g yb];exact y0,by rw[eY g yb];exact y1⟩,?_⟩
  refine(jK bz (nx != ny) v' l' w1 (bG hz g (by simp)) s1 s2 s3 (len8 s2 s3 hv h1 h2)).mono ?_
  intro e w2 hm
  exact⟨hm.1,lW hm g hv⟩)
 have hS:w.drew.cell? ⟨bx,0,none⟩=some (.bool nx)∧w.drew.cell? ⟨bx,1,none⟩=some vx∧w.drew.cell? ⟨iP,0,none⟩=some (.bool ny)∧w.drew.cell? ⟨iP,1,none⟩=some vy:=⟨x0,x1,y0,y1⟩
 clear ex ey xs ys xw yw xt yt xl yl HE hz h1 h2 xb yb x0 x1 y0 y1
 generalize fT w bz (x*y)=T at *
 go_enter func64,ntmps64
 go_wp2_with fail
 refine b_ 19 (fun w'=>w'.cell? ⟨bx,0,none⟩=some (.bool nx)∧w'.cell? ⟨bx,1,none⟩=some vx∧w'.cell? ⟨iP,0,none⟩=some (.bool ny)∧w'.cell? ⟨iP,1,none⟩=some vy) 21 (by rfl) _ rfl (by kernel_rfl) (fun aK=>?_)
 refine bF 0 hS aK fun aK=>?_
 refine bF 1 hS aK fun aK=>?_
 refine bF 2 hS aK fun aK=>?_
 refine bF 3 hS aK fun aK=>?_
 refine bF 4 hS aK fun aK=>?_
 refine bF 5 hS aK fun aK=>?_
 refine bF 6 hS aK fun aK=>?_
 refine bF 7 hS aK fun aK=>?_
 refine bF 8 hS aK fun aK=>?_
 refine bF 9 hS aK fun aK=>?_
 refine bF 10 hS aK fun aK=>?_
 refine bF 11 hS aK fun aK=>?_
 refine bF 12 hS aK fun aK=>?_
 refine bF 13 hS aK fun aK=>?_
 refine bF 14 hS aK fun aK=>?_
 refine bF 15 hS aK fun aK=>?_
 refine bF 16 hS aK fun aK=>?_
 refine bF 17 hS aK fun aK=>?_
 refine kT 18 aK fun K hK=>?_
 (try simp only[sZ])
 go_simp
 refine SUM.out.mono ?_
 rintro e w1 ⟨v',l',rfl,s1,s2,s3,s4,s5,s6⟩
 obtain⟨k1,k2⟩:=h_.out v' l' w1 s1 s2 s3 s4 s6
 have K1:=Zd k1
 have K2:=Zd k2
 clear s1 s2 s3 s4 s5 s6 k1 k2 SUM hS
 go_wp2_with fail
 refine hK.out _ _ (fun _=>K1.out) (fun aK=>?_)
 (try simp only[sZ])
 refine kT 19 aK fun K hK=>?_
 (try simp only[sZ])
 go_simp
 refine K2.out.mono ?_
 rintro e w2 ⟨rfl,hm⟩
 have HM:=Zd hm
 clear hm K1 K2
 go_wp2_with fail
 refine hK.out _ _ (fun h=>by cases h) (fun aK=>?_)
 (try simp only[sZ])
 refine bI _ _ _ _ (by rfl) ?_
 refine wpAny_take (i:=20) (v:=?v20) rfl (by kernel_rfl) (by kernel_rfl) (by kernel_rfl) (fun _ _ _ h=>h) (Or.inl ⟨by rfl,?y20⟩) ?r20
 case y20=>(intro w';go_simp;try with_reducible rfl)
 (try simp only[sZ])
 refine xP ?_
 go_wp2_with fail
 exact HM.out
theorem K8 (v:Value)(l:List Int)(w:World)(hs:Sl w v l)(hw:WF l)(hl:l.length≤2) :
 Calls prog 220 #[v] w (lY w (.int .u64 (val l))):=by
 obtain⟨ad,c,rfl,hv⟩:=iK hs
 have hlen:l.length=0∨l.length=1∨l.length=2:=gA
 clear hs hl
 rcases hlen with h|h|h
 ·have e:val l=0:=by rw[List.length_eq_zero_iff.1 h];rfl
  rw[e,h]
  have F:=Zs (lY w (.int .u64 0) (.returned (.int .u64 0)) w) (⟨rfl,rfl⟩)
  generalize lY w (.int .u64 0)=T at *
  clear e h hv
  go_enter func220,ntmps220
  go_wp2_with fail
  exact F.out
 ·obtain⟨b,rfl,hb,hc⟩:=hv gA
  have c0:=hc 0 gA
  have w0:=hw 0
  rw[z_ l h,h]
  have F:=Zs (lY w (.int .u64 (aC l 0)) (.returned (.int .u64 (aC l 0))) w) (⟨rfl,rfl⟩)
  generalize lY w (.int .u64 (aC l 0))=T at *
  obtain⟨w0,w1⟩:=w0
  clear h hv hc hw
  go_enter func220,ntmps220
  go_wp2_with fail
  exact F.out
 obtain⟨b,rfl,hb,hc⟩:=hv gA
 have c0:=hc 0 gA
 have c1:=hc 1 gA
 have w0:=hw 0
 have w1:=hw 1
 rw[Rm l h,h]
 have hor:=Gv (aC l 0) (aC l 1) w0.1 w0.2 w1.1 w1.2
 have F:=Zs (lY w (.int .u64 (aC l 0+aC l 1*4294967296)) (.returned (.int .u64 (aC l 0+aC l 1*4294967296))) w) (⟨rfl,rfl⟩)
 generalize lY w (.int .u64 (aC l 0+aC l 1*4294967296))=T at *
 obtain⟨w00,w01⟩:=w0
 obtain⟨w10,w11⟩:=w1
 clear h hv hc hw
 go_enter func220,ntmps220
 go_wp2_with fail
 exact F.out
def aeg (w:World)(x y:Int)(e:Ending)(w':World):Prop:=
 ∃v1 l1 v2 l2,e=.returned (.tuple #[v1,v2])∧Sl w' v1 l1∧WF l1∧Top l1∧val l1=x / y∧l1.length≤2∧Sl w' v2 l2∧WF l2∧Top l2∧val l2=x % y∧l2.length≤2∧w.grownBy w' none
theorem Ti (va vb:Value)(a b:List Int)(w:World)(ha:Sl w va a)(hb:Sl w vb b)(wa:WF a)(wb:WF b)(ta:Top a)(tb:Top b)(la:a.length≤2)(lb:b.length≤40)(hb0:val b≠0) :
 Calls prog 200 #[va,vb] w (aeg w (val a) (val b)):=by
 have hbp:=(pI b wb).1
 have hap:=pI a wa
 have hlb:b.length≠0:=fun h=>hb0 (by rw[List.length_eq_zero_iff.1 h];rfl)
 have hbe:((b.length:Int)==0)=false:=beq_eq_false_iff_ne.2 gA
 have Uy:=Zd (t_ va vb a b w ha hb wa wb ta tb gA gA)
 by_cases hlt:val a<val b
 ·have hc:fJ (val a) (val b)=-1:=by unfold fJ;rw[if_pos hlt]
  have TW:=Zd (fun n=>Gs va a (w.drewN n) (jF ha (dh w n none)) wa ta gA)
  have h_:=Zd (show ∀n v' l' w1,Sl w1 v' l'→WF l'→Top l'→val l'=val a→l'.length≤a.length→(w.drewN n).grownBy w1 none→aeg w (val a) (val b) (.returned (.tuple #[.slice none 0 0,v'])) w1 from
   fun n v' l' w1 s1 s2 s3 s4 s5 s6=>⟨_,[],v',l',rfl,qX _,uJ,qb,by rw[Int.ediv_eq_zero_of_lt gA hlt];rfl,by simp,s1,s2,s3,by rw[s4,Int.emod_eq_of_lt gA hlt],gA,aB (dh w n none) s6⟩)
  rw[hc]at Uy
  obtain⟨ada,ca,rfl,-⟩:=iK ha
  obtain⟨adb,cb,rfl,-⟩:=iK hb
  clear ha hb hc hlt wa wb ta tb hbp hap hb0
  generalize aeg w (val a) (val b)=T at *
  go_enter func200,ntmps200
  go_wp2_with fail
  refine Uy.out.mono ?_
  rintro e w1 ⟨rfl,n,rfl⟩
  go_wp2_with fail
  refine(TW.out n).mono ?_
  rintro e w1 ⟨v',l',rfl,s1,s2,s3,s4,s5,s6⟩
  have F:=Zd (h_.out n v' l' w1 s1 s2 s3 s4 s5 s6)
  clear s1 s2 s3 s4 s5 s6 TW Uy
  go_wp2_with fail
  exact F.out
 have hc:0≤fJ (val a) (val b):=by unfold fJ;rw[if_neg hlt];split<;>omega
 have hsh:=wD a b wa wb tb gA
 have PA:=Zd (fun n=>K8 va a (w.drewN n) (jF ha (dh w n none)) wa la)
 have PB:=Zd (fun n=>K8 vb b (w.drewN n) (jF hb (dh w n none)) wb gA)
 have hv2:val a<18446744073709551616:=by
  have:=uH a.length 2 la;rw[P2]at this;omega
 have hw2:val b<18446744073709551616:=by
  have:=uH b.length 2 gA;rw[P2]at this;have:=(pI b wb).2;omega
 have hq0:0≤val a / val b:=Int.ediv_nonneg gA gA
 have hq1:val a / val b≤val a:=Int.ediv_le_self _ gA
 have hr0:0≤val a % val b:=Int.emod_nonneg _ gA
 have hr1:val a % val b<val b:=Int.emod_lt_of_pos _ gA
 have W1:=Zd (fun u=>xA (val a / val b) u hq0 gA)
 have W2:=Zd (fun u=>xA (val a % val b) u hr0 gA)
 have h_:=Zd (show ∀n v1 l1 w1 v2 l2 w2,Sl w1 v1 l1→WF l1→Top l1→val l1=val a / val b→l1.length≤2→(w.drewN n).grownBy w1 none→Sl w2 v2 l2→WF l2→Top l2→val l2=val a % val b→l2.length≤2→w1.grownBy w2 none→aeg w (val a) (val b) (.returned (.tuple #[v1,v2])) w2 from
  fun n v1 l1 w1 v2 l2 w2 s1 s2 s3 s4 s5 s6 r1 r2 r3 r4 r5 r6=>⟨v1,l1,v2,l2,rfl,jF s1 r6,s2,s3,s4,s5,r1,r2,r3,r4,r5,aB (aB (dh w n none) s6) r6⟩)
 obtain⟨z,hz⟩:∃z:Int,Hid (z=fJ (val a) (val b)):=⟨_,rfl⟩
 rw[←hz.out]at Uy hc
 obtain⟨ada,ca,rfl,-⟩:=iK ha
 obtain⟨adb,cb,rfl,-⟩:=iK hb
 have aoi:0<val b:=gA
 have ajG:0≤val a:=gA
 clear ha hb hz hlt wa wb ta tb hap hbp hb0
 generalize aeg w (val a) (val b)=T at *
 generalize val a=A at *
 generalize val b=B at *
 go_enter func200,ntmps200
 go_wp2_with fail
 refine Uy.out.mono ?_
 rintro e w1 ⟨rfl,n,rfl⟩
 go_wp2_with fail
 refine(PA.out n).mono ?_
 rintro e w1 ⟨rfl,rfl⟩
 go_wp2_with fail
 refine(PB.out n).mono ?_
 rintro e w1 ⟨rfl,rfl⟩
 clear PA PB Uy hc
 go_wp2_with fail
 have aoj:¬B=0:=gA
 have htd:A.tdiv B=A / B:=Int.tdiv_eq_ediv_of_nonneg ajG
 have htm:A.tmod B=A % B:=Int.tmod_eq_emod_of_nonneg ajG
 have hwq:IntKind.u64.wrap (A / B)=A / B:=by rw[IntKind.wrap_u64];exact Int.emod_eq_of_lt hq0 gA
 have hwr:IntKind.u64.wrap (A % B)=A % B:=by rw[IntKind.wrap_u64];exact Int.emod_eq_of_lt hr0 gA
 refine b_ 7 (fun _=>True) 10 (by rfl) _ rfl (by kernel_rfl) (fun aK=>?_)
 refine bF 0 trivial aK fun aK=>?_
 refine bF 1 trivial aK fun aK=>?_
 refine bF 2 trivial aK fun aK=>?_
 refine bF 4 trivial aK fun aK=>?_
 refine bF 5 trivial aK fun aK=>?_
 refine bF 6 trivial aK fun aK=>?_
 refine kT 3 aK fun K hK=>?_
 (try simp only[sZ])
 go_simp
 refine(W1.out _).mono ?_
 rintro e w1 ⟨v1,l1,rfl,s1,s2,s3,s4,s5,s6⟩
 have ajH:=Zd (fun v2 l2 w2=>h_.out (n+1) v1 l1 w1 v2 l2 w2 s1 s2 s3 s4 s5 s6)
 clear s1 s2 s3 s4 s5 s6 W1
 go_wp2_with fail
 refine hK.out _ _ (fun _=>trivial) (fun aK=>?_)
 (try simp only[sZ])
 refine kT 7 aK fun K hK=>?_
 (try simp only[sZ])
 go_simp
 refine(W2.out _).mono ?_
 rintro e w2 ⟨v2,l2,rfl,r1,r2,r3,r4,r5,r6⟩
 have F:=Zd (ajH.out v2 l2 w2 r1 r2 r3 r4 r5 r6)
 clear r1 r2 r3 r4 r5 r6 W2
 go_wp2_with fail
 refine hK.out _ _ (fun _=>trivial) (fun aK=>?_)
 (try simp only[sZ])
 refine bI _ _ _ _ (by rfl) ?_
 refine wpAny_take (i:=8) (v:=?v8) rfl (by kernel_rfl) (by kernel_rfl) (by kernel_rfl) (fun _ _ _ h=>h) (Or.inl ⟨by rfl,?y8⟩) ?r8
 case y8=>(intro w';go_simp;try with_reducible rfl)
 (try simp only[sZ])
 refine wpAny_take (i:=9) (v:=?v9) rfl (by kernel_rfl) (by kernel_rfl) (by kernel_rfl) (fun _ _ _ h=>h) (Or.inl ⟨by rfl,?y9⟩) ?r9
 case y9=>(intro w';go_simp;try with_reducible rfl)
 (try simp only[sZ])
 refine xP ?_
 go_wp2_with fail
 exact F.out
theorem Oc (x y:Int):kS (decide (x<0) != decide (y<0)) ((x.natAbs:Int) / (y.natAbs:Int))=x.tdiv y:=by
 by_cases hx:x<0<;>by_cases hy:y<0
 ·have e1:(x.natAbs:Int)=-x:=gA
  have e2:(y.natAbs:Int)=-y:=gA
  rw[e1,e2]
  simp[hx,hy,kS]
  rw[←Int.tdiv_eq_ediv_of_nonneg gA,Int.neg_tdiv,Int.neg_neg]
 ·have e1:(x.natAbs:Int)=-x:=gA
  have e2:(y.natAbs:Int)=y:=gA
  rw[e1,e2]
  simp[hx,hy,kS]
  rw[←Int.tdiv_eq_ediv_of_nonneg gA,Int.neg_tdiv,Int.neg_neg]
 ·have e1:(x.natAbs:Int)=x:=gA
  have e2:(y.natAbs:Int)=-y:=gA
  rw[e1,e2]
  simp[hx,hy,kS]
  rw[Int.tdiv_eq_ediv_of_nonneg gA]
 have e1:(x.natAbs:Int)=x:=gA
 have e2:(y.natAbs:Int)=y:=gA
 rw[e1,e2]
 simp[hx,hy,kS]
 rw[Int.tdiv_eq_ediv_of_nonneg gA]
theorem Zl (x y:Int):kS (decide (x<0)) ((x.natAbs:Int) % (y.natAbs:Int))=x.tmod y:=by
 have ey:∀z:Int,z % (y.natAbs:Int)=z % y:=fun z=>by
  by_cases hy:y<0
  ·rw[show(y.natAbs:Int)=-y by omega,Int.emod_neg]
  rw[show(y.natAbs:Int)=y by omega]
 rw[ey]
 by_cases hx:x<0
 ·rw[show(x.natAbs:Int)=-x by omega,←Int.tmod_eq_emod_of_nonneg gA,Int.neg_tmod]
  simp[hx,kS]
 rw[show(x.natAbs:Int)=x by omega,←Int.tmod_eq_emod_of_nonneg gA]
 simp[hx,kS]
def K9 (w:World)(bz br:Nat)(q r:Int)(e:Ending)(w':World):Prop:=
 e=.returned (.tuple #[.pointer (some ⟨bz,0,none⟩),.pointer (some ⟨br,0,none⟩)])∧jJ w' bz q∧jJ w' br r∧∃w1,w.grownBy w1 (some bz)∧w1.grownBy w' (some br)∧Struct w1 br
theorem Xk (bz bx iP br:Nat)(x y:Int)(w:World)(hz:Struct w bz)(hr:Struct w br)(hzr:bz≠br)(hx:jJ w bx x)(hy:jJ w iP y)(hy0:y≠0)(h1:-18446744073709551616<x)(h2:x<18446744073709551616) :
 Calls prog 141 #[.pointer (some ⟨bz,0,none⟩),.pointer (some ⟨bx,0,none⟩),.pointer (some ⟨iP,0,none⟩),.pointer (some ⟨br,0,none⟩)] w (K9 w bz br (x.tdiv y) (x.tmod y)):=by
 obtain⟨vx,lx,x0,x1,xb,xs,xw,xt,xv,xl⟩:=fC hx
 obtain⟨vy,ly,y0,y1,yb,ys,yw,yt,yv,yl⟩:=fC hy
 have ni:=Ed lx xw xt 2 (by rw[P2,xv];omega)
 have hyn:val ly≠0:=by rw[yv];omega
 have DV:=Zd (fun n=>Ti vx vy lx ly (w.drewN n) (jF xs (dh w n none)) (jF ys (dh w n none)) xw yw xt yt ni gA hyn)
 have h_:=Zd (show ∀n v1 l1 v2 l2 w1,Sl w1 v1 l1→WF l1→Top l1→val l1=val lx / val ly→l1.length≤2→Sl w1 v2 l2→WF l2→Top l2→val l2=val lx % val ly→l2.length≤2→(w.drewN n).grownBy w1 none→
  (w1.cell? ⟨bx,1,none⟩=some vx∧w1.cell? ⟨iP,1,none⟩=some vy)∧
  Calls prog 132 #[.pointer (some ⟨bz,0,none⟩),.bool (decide (x<0) != decide (y<0)),v1] w1 (fun e w2=>e=.returned (.pointer (some ⟨bz,0,none⟩))∧
   Calls prog 132 #[.pointer (some ⟨br,0,none⟩),.bool (decide (x<0)),v2] w2 (fun e w3=>e=.returned (.pointer (some ⟨br,0,none⟩))∧K9 w bz br (x.tdiv y) (x.tmod y) (.returned (.tuple #[.pointer (some ⟨bz,0,none⟩),.pointer (some ⟨br,0,none⟩)])) w3))from by
  intro n v1 l1 v2 l2 w1 s1 s2 s3 s4 s5 r1 r2 r3 r4 r5 g0
  have g:w.grownBy w1 none:=aB (dh w n none) g0
  refine⟨⟨by rw[eY g xb];exact x1,by rw[eY g yb];exact y1⟩,?_⟩
  refine(jK bz _ v1 l1 w1 (bG hz g (by simp)) s1 s2 s3 gA).mono ?_
  rintro e w2 ⟨rfl,i2,g2⟩
  refine⟨rfl,?_⟩
  have hr2:Struct w2 br:=bG (bG hr g (by simp)) g2 (fun e=>hzr (by cases e;rfl))
  refine(jK br _ v2 l2 w2 hr2 (zN r1 g2 (fun k e=>by cases e;exact bG hz g (by simp))) r2 r3 gA).mono ?_
  rintro e w3 ⟨rfl,i3,g3⟩
  refine⟨rfl,rfl,?_,?_,w2,dB g g2 (some bz) (fun i e _=>by cases e) (fun i e _=>e),g3,hr2⟩
  ·have:=dU i2 g3 hr2 hzr
   rw[s4,xv,yv,←kS,Oc]at this
   exact this
  have:=i3
  rw[r4,xv,yv,←kS,Zl]at this
  exact this)
 clear hx hy xs ys xw yw xt yt xv yv xl yl hz hr ni hyn hy0 h1 h2
 generalize decide (x<0)=nx at *
 generalize decide (y<0)=ny at *
 generalize K9 w bz br (x.tdiv y) (x.tmod y)=T at *
 go_enter func141,ntmps141
 go_wp2_with fail
 go_quiet (fail)
 go_wp2_with fail
 go_region_held3 (fun w'=>w'.cell? ⟨bx,1,none⟩=some vx∧w'.cell? ⟨iP,1,none⟩=some vy) (first|exact K1.out|simp[*])
  (first
   | (go_at_call 200;refine(DV.out _).mono ?_;rintro e w1 ⟨v1,l1,v2,l2,rfl,s1,s2,s3,s4,s5,r1,r2,r3,r4,r5,g1⟩;obtain⟨k1,k2⟩:=h_.out _ v1 l1 v2 l2 w1 s1 s2 s3 s4 s5 r1 r2 r3 r4 r5 g1;have K1:=Zd k1;have K2:=Zd k2;clear s1 s2 s3 s4 s5 r1 r2 r3 r4 r5 g1 k1 k2))
 go_wp2_with fail
 rw[show(!(nx==ny))=(nx != ny)from rfl]
 refine K2.out.mono ?_
 rintro e w2 ⟨rfl,k3⟩
 have K3:=Zd k3
 clear K1 K2 k3
 go_wp2_with fail
 refine K3.out.mono ?_
 rintro e w3 ⟨rfl,k4⟩
 have K4:=Zd k4
 clear K3 k4
 go_wp2_with fail
 exact K4.out
structure jC (f:Nat→Prop) (w w':World):Prop where
 os:w'.os=w.os
 tape:w'.tape=w.tape
 output:w'.output=w.output
 size:w.heap.size≤w'.heap.size
 block:∀k,k<w.heap.size→¬f k→w'.heap[k]?=w.heap[k]?
theorem jC.of {w w':World}{r:Option Nat}{f:Nat→Prop}(h:w.grownBy w' r)(hf:∀k,r=some k→k<w.heap.size→f k):jC f w w':=
 ⟨h.os,h.tape,h.output,h.size,fun k hk hn=>h.block k hk (fun e=>hn (hf k e.symm hk))⟩
theorem jC.then {a b c:World}{f g:Nat→Prop}(h:jC f a b)(k:jC g b c)(hg:∀i,i<a.heap.size→g i→f i):jC f a c:=
 ⟨k.os.trans h.os,k.tape.trans h.tape,k.output.trans h.output,Nat.le_trans h.size k.size,fun i hi hn=>by
  rw[k.block i (Nat.lt_of_lt_of_le hi h.size) (fun e=>hn (hg i hi e)),h.block i hi hn]⟩
theorem jC.grown {w w':World}{f:Nat→Prop}(h:jC f w w')(b:Nat)(hf:∀k,k<w.heap.size→f k→k=b):w.grownBy w' (some b):=
 ⟨h.os,h.tape,h.output,h.size,fun k hk hn=>h.block k hk (fun e=>hn (by rw[hf k hk e]))⟩
theorem Tj (x y:Int)(hy:0<y):x / y=(if x.tmod y<0 then x.tdiv y-1 else x.tdiv y)∧x % y=(if x.tmod y<0 then x.tmod y+y else x.tmod y):=by
 have h1:y*x.tdiv y+x.tmod y=x:=Int.mul_tdiv_add_tmod x y
 have h2:=Int.tmod_lt_of_pos x hy
 have h3:-y<x.tmod y:=by
  have:=Int.tmod_lt_of_pos (-x) hy
  rw[Int.neg_tmod]at this;omega
 by_cases h:x.tmod y<0
 ·rw[if_pos h,if_pos h]
  have e1:y*(x.tdiv y-1)+(x.tmod y+y)=x:=by rw[Int.mul_sub];omega
  have:=Int.ediv_emod_unique hy (a:=x) (r:=x.tmod y+y) (q:=x.tdiv y-1)
  have:=this.2 ⟨gA,gA,gA⟩
  exact⟨this.1,this.2⟩
 rw[if_neg h,if_neg h]
 have:=Int.ediv_emod_unique hy (a:=x) (r:=x.tmod y) (q:=x.tdiv y)
 have:=this.2 ⟨gA,gA,gA⟩
 exact⟨this.1,this.2⟩
def D8 (w:World)(bz bm:Nat)(q r:Int)(e:Ending)(w':World):Prop:=
 e=.returned (.tuple #[.pointer (some ⟨bz,0,none⟩),.pointer (some ⟨bm,0,none⟩)])∧jJ w' bz q∧jJ w' bm r∧jC (fun k=>k=bz∨k=bm) w w'
theorem abd (x y:Int)(hx:0≤x)(hx':x<4294967296)(hy:0≤y)(hy':y<4294967296):bits .or .u64 (y*4294967296) x=y*4294967296+x:=by
 rw[u64_or (y*4294967296) x gA gA hx gA]
 obtain⟨x,rfl⟩:=Int.eq_ofNat_of_zero_le hx
 obtain⟨y,rfl⟩:=Int.eq_ofNat_of_zero_le hy
 have e:((y:Int)*4294967296).toNat=y*4294967296:=gA
 rw[e,Int.toNat_natCast]
 have h3:=Nat.shiftLeft_add_eq_or_of_lt (show x<2^32 by omega) y
 rw[Nat.shiftLeft_eq]at h3
 rw[show y*4294967296=y*2^32 by rfl,←h3]
 omega
theorem abe (rs:List Int)(j:Nat)(v:Int)(hj:j<rs.length)(n:Nat)(hn:j<n):cZ (rs.set j v) n=cZ rs n+(v-aC rs j)*P j:=by
 have nn:∀i,aC (rs.set j v) i=if i=j then v else aC rs i:=fun i=>kU _ _ _ _ hj
 obtain⟨d,rfl⟩:∃d,n=j+1+d:=⟨n-(j+1),gA⟩
 clear hn
 induction d with
 | zero=>
  show cZ (rs.set j v) j+_=cZ rs j+_+_
  rw[nn,if_pos rfl,iY _ rs j (fun i hi=>by rw[nn,if_neg gA]),Int.sub_mul]
  omega
 | succ d ih=>
  rw[←Nat.add_assoc,cZ,cZ,ih,nn,if_neg gA]
  omega
theorem agk (rs:List Int)(j:Nat)(v:Int)(hj:j<rs.length):val (rs.set j v)=val rs+(v-aC rs j)*P j:=by
 unfold val
 rw[List.length_set]
 exact abe rs j v hj rs.length hj
def Aj (l:List Int)(d:Int)(k:Nat)(z:Int)(rs:List Int):Prop:=
 rs.length=l.length∧WF rs∧val rs=P k*(upper l k / d)∧z=upper l k % d∧∀j,j<k→aC rs j=0
theorem Tk (l:List Int)(d:Int)(hl:WF l):Aj l d l.length 0 (List.replicate l.length 0):=by
 have h:=Gw l l.length hl (Nat.le_refl _)
 refine⟨by simp,tq _,?_,by rw[h];simp,fun j _=>kV _ _⟩
 rw[h];unfold val;rw[vN];simp
theorem Tn (l:List Int)(d:Int)(j:Nat)(z:Int)(rs:List Int)(hl:WF l)(h0:0<d)(h1:d<4294967296)(hj:j<l.length)(h:Aj l d (j+1) z rs) :
 0≤z∧z<d∧0≤(z*4294967296+aC l j) / d∧(z*4294967296+aC l j) / d<4294967296∧Aj l d j ((z*4294967296+aC l j) % d) (rs.set j ((z*4294967296+aC l j) / d)):=by
 obtain⟨a1,a2,a3,a4,a5⟩:=h
 have z0:0≤z:=by rw[a4];exact Int.emod_nonneg _ gA
 have z1:z<d:=by rw[a4];exact Int.emod_lt_of_pos _ h0
 have x:=hl j
 have t0:0≤(z*4294967296+aC l j) / d:=Int.ediv_nonneg gA gA
 have t1:(z*4294967296+aC l j) / d<4294967296:=by
  apply Int.ediv_lt_of_lt_mul h0
  have:(z+1)*4294967296≤d*4294967296:=Int.mul_le_mul_of_nonneg_right gA gA
  omega
 refine⟨z0,z1,t0,t1,?_⟩
 have dig:=sD l hl j
 have dm:=Int.emod_add_mul_ediv (upper l (j+1)) d
 rw[←a4]at dm
 generalize hQ:upper l (j+1) / d=Q at *
 generalize ht:z*4294967296+aC l j=t at *
 have eu:upper l j=t+d*(4294967296*Q):=by
  rw[dig,←dm,Int.mul_add,Int.mul_left_comm 4294967296 d]
  omega
 have q1:upper l j / d=t / d+4294967296*Q:=by rw[eu,Int.add_mul_ediv_left _ _ gA]
 have q2:upper l j % d=t % d:=by rw[eu,Int.add_mul_emod_self_left]
 refine⟨by simp;omega,uI _ _ _ a2 gA t0 t1,?_,q2.symm,fun i hi=>by rw[kU _ _ _ _ gA,if_neg gA];exact a5 i gA⟩
 rw[agk _ _ _ gA,a3,a5 j gA,q1,uG,Int.mul_add,Int.mul_assoc,Int.sub_zero,Int.mul_comm (t / d)]
 omega
theorem abf (l:List Int)(d:Int)(z:Int)(rs:List Int)(h:Aj l d 0 z rs):WF rs∧val rs=val l / d∧z=val l % d∧rs.length=l.length:=by
 obtain⟨a1,a2,a3,a4,a5⟩:=h
 have e:upper l 0=val l:=by unfold upper;rw[yC];exact Int.ediv_one _
 rw[e]at a3 a4
 rw[yC,Int.one_mul]at a3
 exact⟨a2,a3,a4,a1⟩
def Xl (w:World)(x d:Int)(n:Nat)(e:Ending)(w':World):Prop:=
 ∃v1 l1,e=.returned (.tuple #[v1,.int .u32 (x % d)])∧Sl w' v1 l1∧WF l1∧Top l1∧val l1=x / d∧l1.length≤n∧w.grownBy w' none
theorem abg (v:Value)(l:List Int)(d:Int)(w:World)(tZ:Sl w v l)(hw:WF l)(hl:l.length≤40)(h0:0<d)(h1:d<4294967296) :
 Calls prog 221 #[v,.int .u32 d] w (Xl w (val l) d l.length):=by
 obtain⟨ad,c,rfl,hv⟩:=iK tZ
 have jg:=fun u=>qY (l.length:Int) gA gA u
 rw[Int.toNat_natCast]at jg
 have HV:=Zd hv
 clear tZ hv
 go_enter func221,ntmps221
 go_wp2_with fail
 go_loopw [7,8] (fun r i wr=>∃(k:Nat) (z:Int) (rs:List Int),r=.int .u64 z∧i=.int .i64 ((k:Int)-1)∧k≤l.length∧Hid (Aj l d k z rs)∧wr=w.alloc (.cells (arr rs) 157)) (fun _ i _=>(intOf i+1).toNat)
 case atStart=>exact⟨l.length,0,_,rfl,rfl,Nat.le_refl _,Tk l d hw,rfl⟩
 case round=>
  obtain⟨k,z,rs,rfl,rfl,hk,hS,rfl⟩:=hrel
  have hlen:Hid (rs.length=l.length):=hS.out.1
  cases k with
  | zero=>
   have F:=Zd (abf l d z rs hS.out)
   have z0:0≤z:=by rw[F.out.2.2.1];exact Int.emod_nonneg _ gA
   have z1:z<d:=by rw[F.out.2.2.1];exact Int.emod_lt_of_pos _ h0
   have hz:z % 4294967296=z:=gA
   have tZ:=Zd (sN w rs l.length hlen.out)
   clear hS jg
   go_wp2_with fail
   refine(nO _ rs _ tZ.out F.out.1 (by rw[hlen.out];omega)).mono ?_
   rintro e w1 ⟨v',l',rfl,s1,s2,s3,s4,s5,rfl⟩
   have G:=Zs (Xl w (val l) d l.length (.returned (.tuple #[v',.int .u32 z])) _) (⟨v',l',by rw[←F.out.2.2.1],s1,s2,s3,s4.trans F.out.2.1,by rw[hlen.out]at s5;exact s5,ak _ _ _⟩)
   clear s1 s2 s3 s4 s5 tZ F hlen
   generalize Xl w (val l) d l.length=T at *
   go_wp2_with fail
   exact G.out
  | succ j=>
   obtain⟨b,rfl,hb,hc⟩:=HV.out gA
   have c1:=hc j gA
   obtain⟨x0,x1⟩:=hw j
   obtain⟨z0,z1,t0,t1,hS'⟩:=Tn l d j z rs hw h0 h1 gA hS.out
   have HS:=Zd hS'
   have g1:=mF rs j (by rw[hlen.out];omega)
   have hor:=abd (aC l j) z x0 x1 z0 gA
   have ej:(((j+1:Nat)):Int)-1=(j:Int):=gA
   have tt0:0≤z*4294967296+aC l j:=gA
   have hd0:¬d=0:=gA
   have htd:(z*4294967296+aC l j).tdiv d=(z*4294967296+aC l j) / d:=Int.tdiv_eq_ediv_of_nonneg tt0
   have htm:(z*4294967296+aC l j).tmod d=(z*4294967296+aC l j) % d:=Int.tmod_eq_emod_of_nonneg tt0
   have hwq:IntKind.u64.wrap ((z*4294967296+aC l j) / d)=(z*4294967296+aC l j) / d:=by rw[IntKind.wrap_u64];exact Int.emod_eq_of_lt t0 gA
   have alP:(z*4294967296+aC l j) / d % 4294967296=(z*4294967296+aC l j) / d:=Int.emod_eq_of_lt t0 t1
   rw[ej]
   clear hS' jg hc ej hS
   go_wp2_with fail
   go_roundw
   case rel=>exact⟨j,_,_,rfl,rfl,gA,HS.out,by rw[kQ]⟩
   case measure=>simp[intOf]
def Zm (w:World)(x y:Int)(e:Ending)(w':World):Prop:=
 ∃v1 l1 v2 l2,e=.returned (.tuple #[v1,v2])∧Sl w' v1 l1∧WF l1∧Top l1∧val l1=x / y∧l1.length≤8∧Sl w' v2 l2∧WF l2∧Top l2∧val l2=x % y∧l2.length≤8∧w.grownBy w' none
theorem abh (va vb:Value)(a b:List Int)(w:World)(ha:Sl w va a)(hb:Sl w vb b)(wa:WF a)(wb:WF b)(ta:Top a)(tb:Top b)(la:3≤a.length)(la8:a.length≤8)(lb:b.length=1)(hb0:val b≠0) :
 Calls prog 200 #[va,vb] w (Zm w (val a) (val b)):=by
 have hbp:=(pI b wb).1
 have hbq:=(pI b wb).2
 have hbv:=z_ b lb
 obtain⟨d0,d1⟩:=wb 0
 have hgt:val b≤val a:=by
  have h1:=Lg a wa ta (fun e=>by rw[e]at la;simp at la)
  have h2:=uH 1 (a.length-1) gA
  rw[lb]at hbq
  omega
 have hc:0≤fJ (val a) (val b):=by unfold fJ;rw[if_neg gA];split<;>omega
 have Uy:=Zd (t_ va vb a b w ha hb wa wb ta tb gA gA)
 have SM:=Zd (fun n=>abg va a (aC b 0) (w.drewN n) (jF ha (dh w n none)) wa gA gA d1)
 have rw0:0≤val a % aC b 0:=Int.emod_nonneg _ gA
 have rw1:val a % aC b 0<aC b 0:=Int.emod_lt_of_pos _ gA
 have WR:WF [val a % aC b 0]:=fun i=>by
  match i with
  | 0=>exact⟨rw0,by show val a % aC b 0<4294967296;omega⟩
  | i+1=>exact⟨by simp[aC],by simp[aC]⟩
 have VR:val [val a % aC b 0]=val a % val b:=by rw[z_ _ rfl,hbv];rfl
 have TR:=Zd (fun w1=>nO (.slice (some ⟨w1.heap.size,0,none⟩) 1 1) [val a % aC b 0] (w1.alloc (.cells #[.int .u32 (val a % aC b 0)] 157)) (sN w1 [val a % aC b 0] 1 rfl) WR (by simp))
 have h_:=Zd (show ∀n v1 l1 w1 v2 l2,Sl w1 v1 l1→WF l1→Top l1→val l1=val a / aC b 0→l1.length≤a.length→(w.drewN n).grownBy w1 none→Sl (w1.alloc (.cells #[.int .u32 (val a % aC b 0)] 157)) v2 l2→WF l2→Top l2→val l2=val [val a % aC b 0]→l2.length≤1→Zm w (val a) (val b) (.returned (.tuple #[v1,v2])) (w1.alloc (.cells #[.int .u32 (val a % aC b 0)] 157))from
  fun n v1 l1 w1 v2 l2 s1 s2 s3 s4 s5 s6 r1 r2 r3 r4 r5=>⟨v1,l1,v2,l2,rfl,jF s1 (ak _ _ none),s2,s3,by rw[s4,hbv],gA,r1,r2,r3,by rw[r4,VR],gA,aB (aB (dh w n none) s6) (ak _ _ none)⟩)
 obtain⟨z,hz⟩:∃z:Int,Hid (z=fJ (val a) (val b)):=⟨_,rfl⟩
 rw[←hz.out]at Uy hc
 obtain⟨ada,ca,rfl,-⟩:=iK ha
 obtain⟨adb,cb,rfl,qc⟩:=iK hb
 obtain⟨bb,rfl,hbb,hcb⟩:=qc gA
 have c0:=hcb 0 gA
 have la':(3:Int)≤a.length:=gA
 have lb':(b.length:Int)=1:=gA
 rw[lb]at Uy ⊢
 clear ha hb hz wa wb ta tb hbp hbq hb0 hbv hgt hcb qc WR VR rw0 rw1 lb'
 generalize Zm w (val a) (val b)=T at *
 generalize aC b 0=D at *
 generalize hR:val a % D=R at *
 have HR:=Zd hR
 clear lb hR
 go_enter func200,ntmps200
 go_wp2_with fail
 refine Uy.out.mono ?_
 rintro e w1 ⟨rfl,n,rfl⟩
 clear Uy
 go_wp2_with fail
 refine(SM.out n).mono ?_
 rintro e w1 ⟨v1,l1,rfl,s1,s2,s3,s4,s5,s6⟩
 have F1:=Zd (fun v2 l2=>h_.out n v1 l1 w1 v2 l2 s1 s2 s3 s4 s5 s6)
 have T1:=Zd (TR.out w1)
 clear SM s1 s2 s3 s4 s5 s6
 rw[HR.out]
 go_wp2_with fail
 refine T1.out.mono ?_
 rintro e w2 ⟨v2,l2,rfl,r1,r2,r3,r4,r5,rfl⟩
 have F:=Zd (F1.out v2 l2 r1 r2 r3 r4 r5)
 clear T1 r1 r2 r3 r4 r5
 go_wp2_with fail
 exact F.out
theorem abj (va vb:Value)(a b:List Int)(w:World)(ha:Sl w va a)(hb:Sl w vb b)(wa:WF a)(wb:WF b)(ta:Top a)(tb:Top b)(la:a.length≤8)(lb:b.length=1)(hb0:val b≠0) :
 Calls prog 200 #[va,vb] w (Zm w (val a) (val b)):=by
 by_cases h:a.length≤2
 ·refine(Ti va vb a b w ha hb wa wb ta tb h gA hb0).mono ?_
  rintro e w1 ⟨v1,l1,v2,l2,e1,s1,s2,s3,s4,s5,r1,r2,r3,r4,r5,g⟩
  exact⟨v1,l1,v2,l2,e1,s1,s2,s3,s4,gA,r1,r2,r3,r4,gA,g⟩
 exact abh va vb a b w ha hb wa wb ta tb gA la lb hb0
theorem P1w:P 1=4294967296:=by decide
theorem Tp (bz bx iP br:Nat)(x y:Int)(w:World)(hz:Struct w bz)(hr:Struct w br)(hzr:bz≠br)(hx:jJ w bx x)(hy:jJ w iP y)(hy0:0<y)(hy1:y<4294967296) :
 Calls prog 141 #[.pointer (some ⟨bz,0,none⟩),.pointer (some ⟨bx,0,none⟩),.pointer (some ⟨iP,0,none⟩),.pointer (some ⟨br,0,none⟩)] w (K9 w bz br (x.tdiv y) (x.tmod y)):=by
 obtain⟨vx,lx,x0,x1,xb,xs,xw,xt,xv,xl⟩:=fC hx
 obtain⟨vy,ly,y0,y1,yb,ys,yw,yt,yv,yl⟩:=fC hy
 have hl1:=Ed ly yw yt 1 (by rw[P1w,yv];omega)
 have hl0:ly.length≠0:=fun h=>by rw[List.length_eq_zero_iff.1 h,mh]at yv;omega
 have hyn:val ly≠0:=by rw[yv];omega
 have DV:=Zd (fun n=>abj vx vy lx ly (w.drewN n) (jF xs (dh w n none)) (jF ys (dh w n none)) xw yw xt yt xl gA hyn)
 have h_:=Zd (show ∀n v1 l1 v2 l2 w1,Sl w1 v1 l1→WF l1→Top l1→val l1=val lx / val ly→l1.length≤8→Sl w1 v2 l2→WF l2→Top l2→val l2=val lx % val ly→l2.length≤8→(w.drewN n).grownBy w1 none→
  (w1.cell? ⟨bx,1,none⟩=some vx∧w1.cell? ⟨iP,1,none⟩=some vy)∧
  Calls prog 132 #[.pointer (some ⟨bz,0,none⟩),.bool (decide (x<0) != decide (y<0)),v1] w1 (fun e w2=>e=.returned (.pointer (some ⟨bz,0,none⟩))∧
   Calls prog 132 #[.pointer (some ⟨br,0,none⟩),.bool (decide (x<0)),v2] w2 (fun e w3=>e=.returned (.pointer (some ⟨br,0,none⟩))∧K9 w bz br (x.tdiv y) (x.tmod y) (.returned (.tuple #[.pointer (some ⟨bz,0,none⟩),.pointer (some ⟨br,0,none⟩)])) w3))from by
  intro n v1 l1 v2 l2 w1 s1 s2 s3 s4 s5 r1 r2 r3 r4 r5 g0
  have g:w.grownBy w1 none:=aB (dh w n none) g0
  refine⟨⟨by rw[eY g xb];exact x1,by rw[eY g yb];exact y1⟩,?_⟩
  refine(jK bz _ v1 l1 w1 (bG hz g (by simp)) s1 s2 s3 gA).mono ?_
  rintro e w2 ⟨rfl,i2,g2⟩
  refine⟨rfl,?_⟩
  have hr2:Struct w2 br:=bG (bG hr g (by simp)) g2 (fun e=>hzr (by cases e;rfl))
  refine(jK br _ v2 l2 w2 hr2 (zN r1 g2 (fun k e=>by cases e;exact bG hz g (by simp))) r2 r3 gA).mono ?_
  rintro e w3 ⟨rfl,i3,g3⟩
  refine⟨rfl,rfl,?_,?_,w2,dB g g2 (some bz) (fun i e _=>by cases e) (fun i e _=>e),g3,hr2⟩
  ·have:=dU i2 g3 hr2 hzr
   rw[s4,xv,yv,←kS,Oc]at this
   exact this
  have:=i3
  rw[r4,xv,yv,←kS,Zl]at this
  exact this)
 clear hx hy xs ys xw yw xt yt xv yv xl yl hz hr hl1 hl0 hyn hy0 hy1
 generalize decide (x<0)=nx at *
 generalize decide (y<0)=ny at *
 generalize K9 w bz br (x.tdiv y) (x.tmod y)=T at *
 go_enter func141,ntmps141
 go_wp2_with fail
 go_quiet (fail)
 go_wp2_with fail
 go_region_held3 (fun w'=>w'.cell? ⟨bx,1,none⟩=some vx∧w'.cell? ⟨iP,1,none⟩=some vy) (first|exact K1.out|simp[*])
  (first
   | (go_at_call 200;refine(DV.out _).mono ?_;rintro e w1 ⟨v1,l1,v2,l2,rfl,s1,s2,s3,s4,s5,r1,r2,r3,r4,r5,g1⟩;obtain⟨k1,k2⟩:=h_.out _ v1 l1 v2 l2 w1 s1 s2 s3 s4 s5 r1 r2 r3 r4 r5 g1;have K1:=Zd k1;have K2:=Zd k2;clear s1 s2 s3 s4 s5 r1 r2 r3 r4 r5 g1 k1 k2))
 go_wp2_with fail
 rw[show(!(nx==ny))=(nx != ny)from rfl]
 refine K2.out.mono ?_
 rintro e w2 ⟨rfl,k3⟩
 have K3:=Zd k3
 clear K1 K2 k3
 go_wp2_with fail
 refine K3.out.mono ?_
 rintro e w3 ⟨rfl,k4⟩
 have K4:=Zd k4
 clear K3 k4
 go_wp2_with fail
 exact K4.out
theorem aeh (x y:Int)(hy:0<y)(h1:-6277101735386680763835789423207666416102355444464034512896<x)(h2:x<6277101735386680763835789423207666416102355444464034512896):-6277101735386680763835789423207666416102355444464034512896<x.tdiv y∧x.tdiv y<6277101735386680763835789423207666416102355444464034512896:=by
 rw[←Oc]
 have e1:0≤(x.natAbs:Int) / (y.natAbs:Int):=Int.ediv_nonneg gA gA
 have e2:(x.natAbs:Int) / (y.natAbs:Int)≤x.natAbs:=Int.ediv_le_self _ gA
 generalize (x.natAbs:Int) / (y.natAbs:Int)=q at *
 cases (decide (x<0) != decide (y<0))<;>simp[kS]<;>omega
theorem agl:6277101735386680763835789423207666416102355444464034512896*2<P 8:=by decide +kernel
theorem Tq (bz bx iP bm:Nat)(x y:Int)(w:World)(hz:Struct w bz)(hm:Struct w bm)(hzm:bz≠bm)(hx:jJ w bx x)(hy:jJ w iP y)(hy0:0<y)(hy1:y<4294967296)(h1:-6277101735386680763835789423207666416102355444464034512896<x)(h2:x<6277101735386680763835789423207666416102355444464034512896) :
 Calls prog 227 #[.pointer (some ⟨bz,0,none⟩),.pointer (some ⟨bx,0,none⟩),.pointer (some ⟨iP,0,none⟩),.pointer (some ⟨bm,0,none⟩)] w (D8 w bz bm (x / y) (x % y)):=by
 obtain⟨dq,dr⟩:=Tj x y hy0
 obtain⟨tq0,tq1⟩:=aeh x y hy0 h1 h2
 have tm1:=Int.tmod_lt_of_pos x hy0
 have tm0:-y<x.tmod y:=by
  have:=Int.tmod_lt_of_pos (-x) hy0
  rw[Int.neg_tmod]at this;omega
 have h8:=agl
 obtain⟨_,_,zz⟩:=id hz
 obtain⟨_,_,mm⟩:=id hm
 have zlt:=aN zz
 have mlt:=aN mm
 have xlt:=mV hx
 have ylt:=mV hy
 clear zz mm
 have ga:=ak w iI none
 have SE:=Zd (Wz w.heap.size iP y (w.alloc iI) (eT w) (bJ hy ga) gA gA)
 have h_:=Zs (∀w5 q r,jJ w5 bz q→jJ w5 bm r→q=x / y→r=x % y→jC (fun k=>k=bz∨k=bm) w w5→D8 w bz bm (x / y) (x % y) (.returned (.tuple #[.pointer (some ⟨bz,0,none⟩),.pointer (some ⟨bm,0,none⟩)])) w5) (fun w5 q r hq hr eq er ht=>⟨rfl,by rw[←eq];exact hq,by rw[←er];exact hr,ht⟩)
 have DD:=Zd (And.intro dq dr)
 clear dq dr
 generalize D8 w bz bm (x / y) (x % y)=T at *
 go_enter func227,ntmps227
 go_wp2_with fail
 refine SE.out.mono ?_
 rintro e w1 ⟨rfl,d1,g1⟩
 have x1:=dU (bJ hx ga) g1 (eT w) gA
 have y1:=dU (bJ hy ga) g1 (eT w) gA
 have z1:=bG (bG hz ga (by simp)) g1 (fun e=>by cases e;omega)
 have m1:=bG (bG hm ga (by simp)) g1 (fun e=>by cases e;omega)
 have T1:=Zs (jC (fun k=>k=bz∨k=bm) w w1) (jC.then (jC.of ga (fun k e=>by cases e)) (jC.of (f:=fun k=>k=w.heap.size) g1 (fun k e _=>by cases e;rfl)) (fun i hi e=>gA))
 have QR:=Zd (Tp bz bx iP bm x y w1 z1 m1 hzm x1 y1 hy0 hy1)
 clear SE hx hy hz hm ga g1 x1 y1
 go_wp2_with fail
 refine QR.out.mono ?_
 rintro e w2 ⟨rfl,q2,r2,w1',ga,gb,sb⟩
 have d2:=dU (dU d1 ga z1 gA) gb sb gA
 have T2:=Zs (jC (fun k=>k=bz∨k=bm) w w2) (jC.then (jC.then T1.out (jC.of (f:=fun k=>k=bz∨k=bm) ga (fun k e _=>by cases e;exact Or.inl rfl)) (fun i _ e=>e)) (jC.of (f:=fun k=>k=bz∨k=bm) gb (fun k e _=>by cases e;exact Or.inr rfl)) (fun i _ e=>e))
 obtain⟨vr,lr,rc0,rc1,-⟩:=fC r2
 obtain⟨vd,ld,dc0,dc1,-⟩:=fC d2
 clear QR d1 z1 m1 ga gb sb w1' rc1 dc1
 by_cases hneg:x.tmod y<0
 ·rw[decide_eq_true hneg]at rc0
  rw[decide_eq_false gA]at dc0
  rw[if_pos hneg,if_pos hneg]at DD
  go_wp2_with fail
  refine(jN 1 _ gA gA).mono ?_
  rintro e w3 ⟨b3,rfl,hb3,i3,g3⟩
  have q3:=bJ q2 g3
  have r3:=bJ r2 g3
  have d3:=bJ d2 g3
  have T3:=Zs (jC (fun k=>k=bz∨k=bm) w w3) (jC.then T2.out (jC.of (f:=fun k=>False) g3 (fun k e=>by cases e)) (fun i _ e=>e.elim))
  have SB:=Zd (Gt bz bz b3 (x.tdiv y) 1 w3 (bU q3) q3 i3 gA gA)
  clear q2 r2 d2 g3 i3 rc0 dc0
  go_wp2_with fail
  refine SB.out.mono ?_
  rintro e w4 ⟨rfl,q4,g4⟩
  have r4:=dU r3 g4 (bU q3) (fun e=>hzm e.symm)
  have d4:=dU d3 g4 (bU q3) gA
  have T4:=Zs (jC (fun k=>k=bz∨k=bm) w w4) (jC.then T3.out (jC.of (f:=fun k=>k=bz∨k=bm) g4 (fun k e _=>by cases e;exact Or.inl rfl)) (fun i _ e=>e))
  have AD:=Zd (jP bm bm w.heap.size (x.tmod y) y w4 (bU r4) r4 d4 gA gA)
  clear SB q3 r3 d3 g4
  go_wp2_with fail
  refine AD.out.mono ?_
  rintro e w5 ⟨rfl,r5,g5⟩
  have q5:=dU q4 g5 (bU r4) hzm
  have F:=Zd (h_.out w5 _ _ q5 r5 DD.out.1.symm DD.out.2.symm (jC.then T4.out (jC.of (f:=fun k=>k=bz∨k=bm) g5 (fun k e _=>by cases e;exact Or.inr rfl)) (fun i _ e=>e)))
  clear AD q4 r4 d4 g5 q5 r5
  go_wp2_with fail
  exact F.out
 rw[decide_eq_false hneg]at rc0
 rw[if_neg hneg,if_neg hneg]at DD
 have F:=Zd (h_.out w2 _ _ q2 r2 DD.out.1.symm DD.out.2.symm T2.out)
 clear q2 r2 d2 dc0
 go_wp2_with fail
 exact F.out
theorem Xm (bz bx iP:Nat)(x y:Int)(w:World)(hz:Struct w bz)(hx:jJ w bx x)(hy:jJ w iP y)(hy0:0<y)(hy1:y<4294967296)(h1:-6277101735386680763835789423207666416102355444464034512896<x)(h2:x<6277101735386680763835789423207666416102355444464034512896) :
 Calls prog 223 #[.pointer (some ⟨bz,0,none⟩),.pointer (some ⟨bx,0,none⟩),.pointer (some ⟨iP,0,none⟩)] w (fT w bz (x % y)):=by
 have ga:=ak w iI none
 obtain⟨_,_,zz⟩:=id hz
 have zlt:=aN zz
 have DM:=Zd (Tq w.heap.size bx iP bz x y (w.alloc iI) (eT w) (bG hz ga (by simp)) gA (bJ hx ga) (bJ hy ga) hy0 hy1 h1 h2)
 have h_:=Zd (show ∀e w1,D8 (w.alloc iI) w.heap.size bz (x / y) (x % y) e w1→fT w bz (x % y) (.returned (.pointer (some ⟨bz,0,none⟩))) w1 from by
  rintro e w1 ⟨-,-,hr,ht⟩
  refine⟨rfl,hr,jC.grown (f:=fun k=>k=bz) (jC.then (jC.of ga (fun k e=>by cases e)) ht (fun i hi e=>?_)) bz (fun k _ e=>e)⟩
  rcases e with e|e
  ·omega
  exact e)
 clear hz hx hy ga zz
 generalize fT w bz (x % y)=T at *
 go_enter func223,ntmps223
 go_wp2_with fail
 refine DM.out.mono ?_
 intro e w1 hd
 have F:=Zd (h_.out e w1 hd)
 obtain⟨rfl,-⟩:=hd
 clear DM
 go_wp2_with fail
 exact F.out
theorem Zn (bz bx iP:Nat)(x y:Int)(w:World)(hz:Struct w bz)(hx:jJ w bx x)(hy:jJ w iP y)(hy0:y≠0)(h1:-18446744073709551616<x)(h2:x<18446744073709551616) :
 Calls prog 59 #[.pointer (some ⟨bz,0,none⟩),.pointer (some ⟨bx,0,none⟩),.pointer (some ⟨iP,0,none⟩)] w (fT w bz (x.tdiv y)):=by
 have ga:=ak w iI none
 have hzl:bz<w.heap.size:=by obtain⟨p,q,h⟩:=hz;exact aN h
 have QR:=Zd (Xk bz bx iP w.heap.size x y (w.alloc iI) (bG hz ga (by simp)) (eT w) gA (bJ hx ga) (bJ hy ga) hy0 h1 h2)
 have h_:=Zd (show ∀w',(∃w1,(w.alloc iI).grownBy w1 (some bz)∧w1.grownBy w' (some w.heap.size)∧Struct w1 w.heap.size)→jJ w' bz (x.tdiv y)→fT w bz (x.tdiv y) (.returned (.pointer (some ⟨bz,0,none⟩))) w' from fun w' ⟨w1,a1,a2,_⟩ i=>⟨rfl,i,by
  refine dB (dB ga a1 (some bz) (fun i e _=>by cases e) (fun i e _=>e)) a2 (some bz) (fun i e _=>e) (fun i e hi=>by cases e;omega)⟩)
 generalize fT w bz (x.tdiv y)=T at *
 clear hz hx hy ga
 go_enter func59,ntmps59
 go_wp2_with fail
 refine QR.out.mono ?_
 rintro e w1 ⟨rfl,i1,i2,g⟩
 have F:=Zd (h_.out w1 g i1)
 clear i1 i2 g QR
 go_wp2_with fail
 exact F.out
def Steps (w:World)(a:Addr)(c:Nat):Prop:=w.cell? ⟨4,0,none⟩=some (.slice (some a) 15 c)∧15≤c∧∀i,i<15→w.cell? (a.add i)=some (.int .i64 (lJ i))
theorem jR {w w':World}{a:Addr}{c:Nat}(h:Steps w a c)(g:w.grownBy w' none):Steps w' a c:=⟨bA g h.1,h.2.1,fun i hi=>bA g (h.2.2 i hi)⟩
theorem abp (f:Int)(k:Nat)(h1:0≤f)(h2:f≤32767):wrap64 ((2:Int)^(14-k))=2^(14-k)∧((2:Int)^(14-k)==0)=false∧(0:Int)<2^(14-k)∧∃F:Int,f.tdiv (2^(14-k))=F∧0≤F∧F≤32767∧pJ f k=F % 2:=by
 have hp:(0:Int)<2^(14-k):=Int.pow_pos (by decide)
 have hq:(2:Int)^(14-k)≤16384:=(ahm (14-k) 14 gA).2
 refine⟨Dn _ (by generalize (2:Int)^(14-k)=z at *;omega) (by generalize (2:Int)^(14-k)=z at *;omega),beq_eq_false_iff_ne.2 (Int.ne_of_gt hp),hp,f / 2^(14-k),Int.tdiv_eq_ediv_of_nonneg h1,Int.ediv_nonneg h1 (Int.le_of_lt hp),Int.le_trans (Int.ediv_le_self _ h1) h2,rfl⟩
theorem Xz (n:Nat)(f:Int)(hn:n≤30)(h1:0≤f)(h2:f≤32767)(a:Addr)(c:Nat)(w:World)(hS:Steps w a c) :
 Calls prog 154 #[.int .i64 n,.int .i64 f] w fun e w'=>e=.returned (.tuple #[.int .i64 (C9 n f),.int .i64 0])∧w.grownBy w' none:=by
 have HS:=Zd hS
 have HB:=Zd (Lm f)
 have HN:=Zd (Ye n f hn)
 have HP:=Zs (C9 n f=pw f 15 / 2^(30-n)) (rfl)
 clear hS
 go_enter func154,ntmps154
 go_wp2_with fail
 refine(jN 1073741824 _ gA gA).mono ?_
 rintro e w1 ⟨bx,rfl,hbx,i1,g1⟩
 have W1:=Zs (jJ w1 bx 1073741824∧w.grownBy w1 none) (⟨i1,g1⟩)
 clear i1 g1
 go_wp2_with fail
 go_loopw [7] (fun i wr=>∃k:Nat,i=.int .i64 k∧k≤15∧Hid (jJ wr bx (pw f k)∧w.grownBy wr none)) (fun i _=>15-(intOf i).toNat)
 case atStart=>exact⟨0,rfl,gA,W1.out⟩
 case round=>
  obtain⟨k,rfl,hk,hI⟩:=hrel
  clear W1
  by_cases hk':k=15
  ·subst hk'
   obtain⟨x1,x2⟩:=HB.out 15 gA
   obtain⟨-,-,y2⟩:=HN.out
   have y1:0≤C9 n f:=by rw[HP.out];exact Int.ediv_nonneg gA (Int.le_of_lt (Int.pow_pos (by decide)))
   have RS:=Zd (Gx bx bx (pw f 15) (30-n) gA wr (bU hI.out.1) hI.out.1 gA)
   rw[show(((30-n:Nat)):Int)=30-(n:Int) by omega,←HP.out]at RS
   generalize hY:C9 n f=y at *
   have HY:=Zd hY
   clear hY
   go_wp2_with fail
   refine RS.out.mono ?_
   rintro e w2 ⟨rfl,i2,g2⟩
   have G2:=Zd (aG hI.out.2 g2 hbx)
   have I:=Zd (nT bx y w2 i2 gA gA)
   clear RS g2 i2 hI
   go_wp2_with fail
   refine I.out.mono ?_
   rintro e w3 ⟨rfl,rfl⟩
   clear I
   go_wp2_with fail
   go_ret2
   exact⟨by rw[HY.out];rfl,G2.out⟩
  obtain⟨x1,x2⟩:=HB.out k hk
  obtain⟨r1,r2⟩:=QZ k gA
  obtain⟨m1,m2⟩:=agR _ _ x1 x2 r1 r2
  obtain⟨y1,y2⟩:=HB.out (k+1) gA
  obtain⟨hs1,z0,hp,F,q1,f1,f2,EQ⟩:=abp f k h1 h2
  have hst:=jR (jR HS.out hI.out.2) (ak wr (.cells #[.bool false,.slice none 0 0] 96) none)
  obtain⟨s1,s2,s3⟩:=hst
  have s4:=s3 k gA
  have aok:=mV hI.out.1
  by_cases hb:pJ f k=1
  ·have e:=Zs (pw f (k+1)=xY (pw f k) (lJ k)) (by show(if pJ f k=1 then _ else _)=_;rw[if_pos hb])
   have hb1:(F % 2==1)=true:=by rw[←EQ,hb];decide
   have EU:=Zs (xY (pw f k) (lJ k)=pw f k+pw f k*lJ k / 1073741824) (rfl)
   rw[e.out,EU.out]at y1 y2
   clear s3 EQ hb
   generalize hr:lJ k=r at *
   generalize hx:pw f k=x at *
   have HR:=Zd hr
   have HXX:=Zd hx
   clear hr hx
   go_wp2_with fail
   refine(eD r _ gA gA).mono ?_
   rintro e' w2 ⟨bw,rfl,hbw,i2,g2⟩
   have z2:=bG (eT wr) g2 (by simp)
   have GW:=Zd (aB (ak wr iI none) g2)
   have x2':=bJ hI.out.1 GW.out
   have MU:=Zd (iC wr.heap.size bx bw x r w2 z2 x2' i2 (by have:=rA;omega) (by have:=rA;omega))
   have W2:=Zs (jJ w2 bx x∧w.grownBy w2 none∧Struct w2 wr.heap.size) (⟨x2',aB hI.out.2 GW.out,z2⟩)
   have szw:=hI.out.2.size
   clear g2 z2 x2' i2 hI s1 s4
   go_wp2_with fail
   refine MU.out.mono ?_
   rintro e' w3 ⟨rfl,i3,g3⟩
   have W3:=Zs (jJ w3 bx x∧w.grownBy w3 none) (⟨dU W2.out.1 g3 W2.out.2.2 gA,aG W2.out.2.1 g3 szw⟩)
   have RS:=Zd (Gx wr.heap.size wr.heap.size (x*r) 30 gA w3 (bU i3) i3 m1)
   rw[show((30:Nat):Int)=30 from rfl,show(2:Int)^30=1073741824 by decide]at RS
   have S3:=Zd (bU i3)
   clear MU g3 i3
   go_wp2_with fail
   refine RS.out.mono ?_
   rintro e' w4 ⟨rfl,i4,g4⟩
   have W4:=Zs (jJ w4 bx x∧w.grownBy w4 none) (⟨dU W3.out.1 g4 S3.out gA,aG W3.out.2 g4 szw⟩)
   have AD:=Zd (jP bx bx wr.heap.size x (x*r / 1073741824) w4 (bU W4.out.1) W4.out.1 i4 (by have:=rA;omega) (by have:=rA;omega))
   clear RS g4 i4
   go_wp2_with fail
   refine AD.out.mono ?_
   rintro e' w5 ⟨rfl,i5,g5⟩
   have W5:=Zs (jJ w5 bx (x+x*r / 1073741824)∧w.grownBy w5 none) (⟨i5,aG W4.out.2 g5 hbx⟩)
   clear AD g5 i5
   go_wp2_with fail
   go_roundw
   case rel=>exact⟨k+1,by go_num,gA,by rw[e.out,EU.out];exact W5.out⟩
   case measure=>simp[intOf];omega
  have e:=Zs (pw f (k+1)=pw f k) (by show(if pJ f k=1 then _ else _)=_;rw[if_neg hb])
  have hb1:(F % 2==1)=false:=by rw[←EQ];exact beq_eq_false_iff_ne.2 hb
  clear s3 EQ hb s1 s4 x1 x2 r1 r2 m1 m2 y1 y2
  go_wp2_with fail
  go_roundw
  case rel=>exact⟨k+1,by go_num,gA,by rw[e.out];exact hI.out⟩
  case measure=>simp[intOf];omega
theorem Zt (x:Int)(h:x≤9223372036854775807):0≤lQ x∧lQ x≤9223372036854775807:=by unfold lQ;split<;>omega
theorem aip:784637716923335095224261902710254454442933591094742482943<P 8:=by rw[P8];decide
theorem Zu (u f:Int)(h0:0≤u)(h1:u≤9223372036854775807)(f0:0≤f)(f1:f≤9223372036854775807) :
 0≤u*u∧u*u≤85070591730234615847396907784232501249∧0≤u*u*f∧u*u*f≤784637716923335095224261902710254454442933591094742482943:=by
 have e1:0≤u*u:=Int.mul_nonneg h0 h0
 have e2:u*u≤9223372036854775807*9223372036854775807:=Int.mul_le_mul h1 h1 h0 gA
 have e3:0≤u*u*f:=Int.mul_nonneg e1 f0
 have e4:u*u*f≤9223372036854775807*9223372036854775807*9223372036854775807:=Int.mul_le_mul e2 f1 f0 gA
 exact⟨e1,e2,e3,e4⟩
theorem yx (c e d f:Int)(c1:c≤9223372036854775807)(e1:e≤9223372036854775807)(d1:d≤9223372036854775807)(f1:f≤9223372036854775807)(w:World) :
 Calls prog 148 #[.int .i64 c,.int .i64 e,.int .i64 d,.int .i64 f] w (gJ w (.bool (yF c e d f))):=by
 by_cases he:e≤0
 ·have hb:yF c e d f=false:=by unfold yF;rw[if_pos he]
  rw[hb];clear hb
  have F:=Zs (gJ w (.bool false) (.returned (.bool false)) w) (⟨rfl,aQ _ _⟩)
  generalize gJ w (.bool false)=T at *
  go_enter func148,ntmps148
  go_wp2_with fail
  exact F.out
 by_cases hf:f≤0
 ·have hb:yF c e d f=true:=by unfold yF;rw[if_neg he,if_pos hf]
  rw[hb];clear hb
  have F:=Zs (gJ w (.bool true) (.returned (.bool true)) w) (⟨rfl,aQ _ _⟩)
  generalize gJ w (.bool true)=T at *
  go_enter func148,ntmps148
  go_wp2_with fail
  exact F.out
 have hb:yF c e d f=decide (0<fJ (lQ c*lQ c*f) (lQ d*lQ d*e)):=by
  unfold yF;rw[if_neg he,if_neg hf]
  rw[decide_eq_decide]
  unfold fJ
  split<;>(try split)<;>omega
 rw[hb];clear hb
 obtain⟨pc0,pc1⟩:=Zt c c1
 obtain⟨pd0,pd1⟩:=Zt d d1
 have BC:=Zd (Zu (lQ c) f pc0 pc1 gA f1)
 have BD:=Zd (Zu (lQ d) e pd0 pd1 gA e1)
 have H8:=Zd aip
 have hc:(if 0<c then c else 0)=lQ c∧(if c<0 then 0 else c)=lQ c:=⟨by unfold lQ;split<;>split<;>omega,rfl⟩
 have hd:(if 0<d then d else 0)=lQ d∧(if d<0 then 0 else d)=lQ d:=⟨by unfold lQ;split<;>split<;>omega,rfl⟩
 go_enter func148,ntmps148
 go_wp2_with fail
 refine(eD (lQ c) w gA gA).mono ?_
 rintro r w1 ⟨bx,rfl,hbx,x1,g1⟩
 have aos:=mV x1
 go_wp2_with fail
 refine(eD (lQ d) w1 gA gA).mono ?_
 rintro r w2 ⟨iP,rfl,hby,y2,g2⟩
 have x2:=bJ x1 g2
 have G2:=Zd (aB g1 g2)
 clear hc hd x1 g1 g2
 generalize lQ c=u at *
 generalize lQ d=v at *
 have M1:=Zd (iC bx bx bx u u w2 (bU x2) x2 x2 (by have:=BC.out;have:=H8.out;omega) (by have:=BC.out;have:=H8.out;omega))
 go_wp2_with fail
 refine M1.out.mono ?_
 rintro r w3 ⟨rfl,x3,g3⟩
 have y3:=dU y2 g3 (bU x2) gA
 have G3:=Zd (aG G2.out g3 gA)
 clear M1 x2 y2 g3
 go_wp2_with fail
 refine(eD f w3 gA gA).mono ?_
 rintro r w4 ⟨bf,rfl,hbf,f4,g4⟩
 have x4:=bJ x3 g4
 have y4:=bJ y3 g4
 have G4:=Zd (aB G3.out g4)
 have M2:=Zd (iC bx bx bf (u*u) f w4 (bU x4) x4 f4 (by have:=BC.out;have:=H8.out;omega) (by have:=BC.out;have:=H8.out;omega))
 clear x3 y3 g4 f4
 go_wp2_with fail
 refine M2.out.mono ?_
 rintro r w5 ⟨rfl,x5,g5⟩
 have y5:=dU y4 g5 (bU x4) gA
 have G5:=Zd (aG G4.out g5 gA)
 have M3:=Zd (iC iP iP iP v v w5 (bU y5) y5 y5 (by have:=BD.out;have:=H8.out;omega) (by have:=BD.out;have:=H8.out;omega))
 clear M2 x4 y4 g5
 go_wp2_with fail
 refine M3.out.mono ?_
 rintro r w6 ⟨rfl,y6,g6⟩
 have x6:=dU x5 g6 (bU y5) gA
 have G6:=Zd (aG G5.out g6 (by have:=G5.out.size;omega))
 clear M3 x5 y5 g6
 go_wp2_with fail
 refine(eD e w6 gA gA).mono ?_
 rintro r w7 ⟨be,rfl,hbe,e7,g7⟩
 have x7:=bJ x6 g7
 have y7:=bJ y6 g7
 have G7:=Zd (aB G6.out g7)
 have M4:=Zd (iC iP iP be (v*v) e w7 (bU y7) y7 e7 (by have:=BD.out;have:=H8.out;omega) (by have:=BD.out;have:=H8.out;omega))
 clear x6 y6 g7 e7
 go_wp2_with fail
 refine M4.out.mono ?_
 rintro r w8 ⟨rfl,y8,g8⟩
 have x8:=dU x7 g8 (bU y7) gA
 have G8:=Zd (aG G7.out g8 gA)
 have C:=Zd (uW bx iP (u*u*f) (v*v*e) w8 x8 y8)
 have h_:=Zs (∀n,gJ w (.bool (decide (0<fJ (u*u*f) (v*v*e)))) (.returned (.bool (decide (0<fJ (u*u*f) (v*v*e))))) (w8.drewN n)) (fun n=>⟨rfl,aB G8.out (dh w8 n none)⟩)
 generalize gJ w _=T at *
 clear M4 x7 y7 g8 x8 y8
 go_wp2_with fail
 refine C.out.mono ?_
 rintro r w9 ⟨rfl,n,rfl⟩
 clear C
 go_wp2_with fail
 exact h_.out n
theorem Ij (x:Int)(w:World):Calls prog 222 #[.int .i64 x] w (mO w (.int .i64 (eU x))):=by
 by_cases h1:x < -32768
 ·have e:eU x=-32768:=by unfold eU;rw[if_pos h1]
  have m1:min x 32767=x:=gA
  have m2:max x (-32768)=-32768:=gA
  rw[e];clear e
  go_enter func222,ntmps222
  go_wp2_with fail
  go_ret
  exact⟨rfl,rfl⟩
 by_cases h2:32767<x
 ·have e:eU x=32767:=by unfold eU;rw[if_neg h1,if_pos h2]
  have m1:min x 32767=32767:=gA
  rw[e];clear e
  go_enter func222,ntmps222
  go_wp2_with fail
  go_ret
  exact⟨rfl,rfl⟩
 have e:eU x=x:=by unfold eU;rw[if_neg h1,if_neg h2]
 have m1:min x 32767=x:=gA
 have m2:max x (-32768)=x:=gA
 rw[e];clear e
 go_enter func222,ntmps222
 go_wp2_with fail
 go_ret
 exact⟨rfl,rfl⟩
theorem iX:(prog.info? 44).map (·.size)=some 4:=by kernel_rfl
def HrF (d r x:List Int)(m q:Nat)(rs:List Int):Prop:=rs.length=40∧∀j,j<40→aC rs j=if j<q then rE d r x (m+1) j else rE d r x m j
def HrA (d r x:List Int)(m:Nat)(rs:List Int):Prop:=rs.length=40∧∀j,j<40→aC rs j=rE d r x m j
theorem Ik (d r x:List Int)(m j:Nat):rE d r x (m+1) j=rE d r x m j+Uw d x m*fD r (iW x m) j:=rfl
theorem abv {d r x:List Int}{m:Nat}{rs:List Int}(h:HrA d r x m rs):HrF d r x m (iW x m) rs:=⟨h.1,fun j hj=>by
 rw[h.2 j hj]
 by_cases e:j<iW x m
 ·rw[if_pos e,Ik,show fD r (iW x m) j=0 from if_neg gA];simp
 rw[if_neg e]⟩
theorem Ub {d r x:List Int}{m q:Nat}{rs:List Int}(h:HrF d r x m q rs)(hq:q<40)(z:Int)(hz:z=rE d r x (m+1) q):HrF d r x m (q+1) (rs.set q z):=⟨by simpa using h.1,fun j hj=>by
 by_cases e:q=j
 ·subst e
  rw[mH _ _ _ (by rw[h.1];exact hq),if_pos gA,hz]
 rw[j_ _ _ _ _ e,h.2 j hj]
 by_cases e2:j<q
 ·rw[if_pos e2,if_pos gA]
 rw[if_neg e2,if_neg gA]⟩
theorem Zv {d r x:List Int}{m:Nat}{rs:List Int}(h:HrF d r x m 40 rs):HrA d r x (m+1) rs:=⟨h.1,fun j hj=>by rw[h.2 j hj,if_pos hj]⟩
def abw (w:World)(c e en:Int)(x:Ending)(w':World):Prop:=x=.returned (.tuple #[.int .i64 c,.int .i64 e,.int .i64 en])∧w.grownBy w' none
theorem JW (vd vr:Value)(d r x:List Int)(w:World)(hd:aS w vd d)(hr:aS w vr r)(h:¬(d.length=40∧r.length=40))(hl:d.length≤1000000000000000000)(ni:r.length≤1000000000000000000) :
 Calls prog 202 #[vd,vr,.agg (aD x)] w (abw w 0 0 1):=by
 have GG:=Zd (ak w (.cells (aD x) 44) none)
 obtain⟨ad,cp,rfl,_,_⟩:=hd
 obtain⟨ar,cr,rfl,_,_⟩:=hr
 generalize d.length=nd at *
 generalize r.length=nr at *
 by_cases h1:nd=40
 ·have b2:((nr:Int) != 40)=true:=by simp;omega
  subst h1
  clear h
  go_enter func202,ntmps202
  go_wp2_with fail
  refine bodyPost_ret (v:=.tuple #[.int .i64 0,.int .i64 0,.int .i64 1]) ?_ rfl ⟨rfl,GG.out⟩
  simp[results,results202,asAddr,Act.put]
 have b1:((nd:Int) != 40)=true:=by simp;omega
 clear h h1
 go_enter func202,ntmps202
 go_wp2_with fail
 refine bodyPost_ret (v:=.tuple #[.int .i64 0,.int .i64 0,.int .i64 1]) ?_ rfl ⟨rfl,GG.out⟩
 simp[results,results202,asAddr,Act.put]
theorem abx {x:List Int}(i:Nat)(hi:i<x.length)(h:¬(0≤aC x i∧aC x i≤9)):f_ x=false:=by
 rcases hb:f_ x with _|_
 ·rfl
 exact absurd ((iq x).1 hb i hi) h
theorem agw {d r x:List Int}(h:d.length=40∧r.length=40)(ho:f_ x=false):Vb d r x=2∧soC d r x=0∧soV d r x=0:=by
 have e:Vb d r x=2:=by unfold Vb;rw[if_pos h,ho];rfl
 refine⟨e,?_,?_⟩
 ·unfold soC;rw[e];rfl
 unfold soV;rw[e];rfl
theorem Uc {d r x:List Int}(h:d.length=40∧r.length=40)(ho:f_ x=true):Vb d r x=0∧soC d r x=cS d x∧soV d r x=eS d r x:=by
 have e:Vb d r x=0:=by unfold Vb;rw[if_pos h,ho];rfl
 refine⟨e,?_,?_⟩
 ·unfold soC;rw[e];rfl
 unfold soV;rw[e];rfl
theorem aiq (h:Int)(h1:-131072≤h)(h2:h≤131072):0≤h*h∧h*h≤17179869184:=by
 have e1:0≤(131072-h)*(131072+h):=Int.mul_nonneg gA gA
 refine⟨Et h,?_⟩
 rw[Int.sub_mul,Int.mul_add,Int.mul_add,Int.mul_comm h 131072]at e1
 omega
theorem Il (vd vr:Value)(d r x:List Int)(w:World)(hd:aS w vd d)(hr:aS w vr r)(hx:x.length=4)(h1:d.length=40)(h2:r.length=40)(iQ:jv d) :
 Calls prog 202 #[vd,vr,.agg (aD x)] w (abw w (soC d r x) (soV d r x) (Vb d r x)):=by
 have B0:=Zd (bO.new w 44 x)
 have G0:=Zd (ak w (.cells (aD x) 44) none)
 have IX:=Zd (fun(k:Nat) (hk:k<4)=>fQ x underlying44 k gA hx)
 have DV:=Zd (fun wr (g:w.grownBy wr none)=>aP hd g)
 have RV:=Zd (fun wr (g:w.grownBy wr none)=>aP hr g)
 have FNO:=Zd (fun(hg:f_ x=false) w' (g:w.grownBy w' none)=>(show abw w (soC d r x) (soV d r x) (Vb d r x) (.returned (.tuple #[.int .i64 0,.int .i64 0,.int .i64 2])) w' from by
  obtain⟨e1,e2,e3⟩:=agw ⟨h1,h2⟩ hg
  rw[e1,e2,e3]
  exact⟨rfl,g⟩))
 have WX:=Zd (fun(hg:f_ x=true) w' (g:w.grownBy w' none)=>(show abw w (soC d r x) (soV d r x) (Vb d r x) (.returned (.tuple #[.int .i64 (EO d x 4),.int .i64 (fq (fun i=>rE d r x 4 i*rE d r x 4 i) 40),.int .i64 0])) w' from by
  obtain⟨e1,e2,e3⟩:=Uc ⟨h1,h2⟩ hg
  rw[e1,e2,e3,←aaj]
  exact⟨rfl,g⟩))
 obtain⟨ad,cp,rfl,_,_⟩:=hd
 obtain⟨ar,cr,rfl,_,_⟩:=hr
 have HD:=Zd h1
 have HR:=Zd h2
 have HX:=Zd hx
 have DY:=Zd iQ
 have jg:=fZ 40 gA
 rw[show((40:Nat):Int)=40 from rfl]at jg
 rw[h1,h2]
 clear h1 h2 iQ
 generalize abw w (soC d r x) (soV d r x) (Vb d r x)=T at *
 go_enter func202,ntmps202
 go_upto_region 1 with fail
 generalize w.alloc (.cells (aD x) 44)=W1 at *
 go_wp2_with (first|refine lA B0.out (by rw[hx];exact iX) ?_)
 go_loop [30] (fun i=>∃k:Nat,i=.int .i64 k∧k≤4∧Hid (∀i,i<k→0≤aC x i∧aC x i≤9)) (fun i=>4-(intOf i).toNat)
 case atStart=>exact⟨0,rfl,Nat.zero_le _,fun i hi=>gA⟩
 case round=>
  obtain⟨k,rfl,hk,hG⟩:=hrel
  by_cases hk4:k<4
  ·have uT:=IX.out k hk4
   have i1:(k:Int)<4:=gA
   have NK:=Zd (fun(hh:¬(0≤aC x k∧aC x k≤9))=>FNO.out (abx k (by rw[HX.out];omega) hh) W1 G0.out)
   have GK:=Zd (fun(hh:0≤aC x k∧aC x k≤9)=>(show ∀i,i<k+1→0≤aC x i∧aC x i≤9 from fun i hi=>by
    rcases Nat.lt_or_ge i k with g|g
    ·exact hG.out i g
    obtain rfl:i=k:=gA
    exact hh))
   clear hG
   generalize aC x k=z at *
   by_cases z1:z<0
   ·have F:=Zd (NK.out gA)
    go_wp2_with fail
    (try simp only[Exit.inBlock,Exit.then])
    refine bodyPost_ret (v:=.tuple #[.int .i64 0,.int .i64 0,.int .i64 2]) ?_ rfl F.out
    simp[results,results202,asAddr,Act.put]
   by_cases z2:9<z
   ·have F:=Zd (NK.out gA)
    go_wp2_with fail
    (try simp only[Exit.inBlock,Exit.then])
    refine bodyPost_ret (v:=.tuple #[.int .i64 0,.int .i64 0,.int .i64 2]) ?_ rfl F.out
    simp[results,results202,asAddr,Act.put]
   have F:=Zd (GK.out ⟨gA,gA⟩)
   go_wp2_with fail
   go_round
   case rel=>exact⟨k+1,by go_num,gA,F.out⟩
   case measure=>simp[intOf];omega
  obtain rfl:k=4:=gA
  have hg:f_ x=true:=(iq x).2 (fun i hi=>hG.out i (by have:=HX.out;omega))
  have FY:=Zd (WX.out hg)
  have PL:=Zd (Bc hg HX.out)
  have GX:=Zd ((iq x).1 hg)
  have ga:=ak W1 (.cells (aD (ay 40)) 3) none
  have M0:=Zs (bO (W1.alloc (.cells (aD (ay 40)) 3)) W1.heap.size 3 (ay 40)∧w.heap.size≤W1.heap.size∧w.grownBy (W1.alloc (.cells (aD (ay 40)) 3)) none) (⟨bO.new W1 _ _,G0.out.size,aB G0.out ga⟩)
  have BX:=Zd (B0.out.aH ga)
  have A0:=Zs (HrA d r x 0 (ay 40)) (⟨au 40,fun j hj=>by rw[iZ];rfl⟩)
  clear hG hg ga
  rw[show((4:Nat):Int)=4 from rfl]
  go_upto_region 11 with fail
  clear jg
  generalize W1.alloc (.cells (aD (ay 40)) 3)=W2 at *
  generalize W1.heap.size=B at *
  go_wp2_with (first|refine lA BX.out (by rw[hx];exact iX) ?_)
  go_loopw [11,42] (fun c i wr=>∃(m:Nat) (rs:List Int),i=.int .i64 m∧m≤4∧c=.int .i64 (EO d x m)∧Hid (HrA d r x m rs)∧Hid (bO wr B 3 rs∧w.heap.size≤B∧w.grownBy wr none)) (fun _ i _=>4-(intOf i).toNat)
  case atStart=>exact⟨0,ay 40,rfl,Nat.zero_le _,rfl,A0.out,M0.out⟩
  case round=>
   obtain⟨m,rs,rfl,hm,rfl,hH,hM⟩:=hrel
   clear M0 A0
   by_cases hm4:m<4
   ·have uT:=IX.out m hm4
    have hPL:=PL.out m hm4
    obtain⟨g1,g2⟩:=GX.out m (by rw[HX.out];omega)
    have i1:(m:Int)<4:=gA
    have e1:(m:Int)+4*aC x m=((iW x m:Nat):Int):=by unfold iW;omega
    obtain⟨Yr,c',e',q1,q2⟩:=DV.out wr hM.out.2.2
    simp only[Value.slice.injEq]at e'
    obtain⟨rfl,e2,rfl⟩:=e'
    obtain⟨a,rfl,q3⟩:=q2 (by rw[HD.out];omega)
    have cz:=q3 (iW x m) (by rw[HD.out];omega)
    obtain⟨z1,z2⟩:=DY.out (iW x m)
    have EC:=Zs (EO d x (m+1)=wrap64 (EO d x m+wrap64 (sg (aC d (iW x m))*aC d (iW x m)))) (rfl)
    have F0:=Zd (abv hH.out)
    have SN:=Zs (Uw d x m=sg (aC d (iW x m))) (rfl)
    have i2:((iW x m:Nat):Int)<40:=gA
    have C0:=Zd (rfl:EO d x m=EO d x m)
    clear e2 q1 q2 q3 hH
    generalize aC d (iW x m)=z at *
    generalize hP:iW x m=P at *
    have HP:=Zd hP
    clear hP
    generalize aC x m=pl at *
    generalize EO d x m=C at *
    rcases oO z with⟨hz,es⟩|⟨hz,es⟩
    ·rw[es]at EC SN
     rw[show -1*z=-z by omega]at EC
     clear es
     go_wp2_with fail
     rw[←EC.out]
     go_loopw [17] (fun i wr=>∃(q:Nat) (rs:List Int),i=.int .i64 q∧P≤q∧q≤40∧Hid (HrF d r x m q rs)∧Hid (bO wr B 3 rs∧w.heap.size≤B∧w.grownBy wr none)) (fun i _=>40-(intOf i).toNat)
     case atStart=>exact⟨P,rs,rfl,Nat.le_refl _,gA,F0.out,hM.out⟩
     case round=>
      obtain⟨q,rs,rfl,hq1,hq2,hF,hM⟩:=hrel
      clear F0
      by_cases aer:q<40
      ·have j1:(q:Int)<40:=gA
       have lr:=hF.out.1
       obtain⟨ar',c2,e',k1,k2⟩:=RV.out wr hM.out.2.2
       simp only[Value.slice.injEq]at e'
       obtain⟨rfl,e2,rfl⟩:=e'
       obtain⟨ra,rfl,k3⟩:=k2 (by rw[HR.out];omega)
       have cy:=k3 (q-P) (by rw[HR.out];omega)
       have ch:=hM.out.1.cell q gA
       have fh:=hM.out.1.free q
       have hv:=hF.out.2 q aer
       rw[if_neg gA]at hv
       rw[hv]at ch
       have HE:=Zd (show rE d r x (m+1) q=rE d r x m q+-eU (aC r (q-P)) by
        rw[Ik,SN.out,HP.out,show fD r P q=eU (aC r (q-P))from if_pos hq1];omega)
       obtain⟨b1,b2⟩:=U_ d r x m q gA
       obtain⟨b3,b4⟩:=kK (aC r (q-P))
       have NF:=Zd (Ub hF.out aer _ HE.out.symm)
       have NM:=Zs (bO (wr.setCell ⟨B,q,none⟩ (.int .i64 (rE d r x m q+-eU (aC r (q-P))))) B 3 (rs.set q (rE d r x m q+-eU (aC r (q-P))))∧w.heap.size≤B∧w.grownBy (wr.setCell ⟨B,q,none⟩ (.int .i64 (rE d r x m q+-eU (aC r (q-P))))) none) (⟨hM.out.1.set q _,hM.out.2.1,aG hM.out.2.2 (aF wr ⟨B,q,none⟩ _) hM.out.2.1⟩)
       have J1:(q:Int)-(P:Int)=((q-P:Nat):Int):=gA
       have j2:((q-P:Nat):Int)<40:=gA
       clear e2 k1 k2 k3 hF hM hv lr
       generalize rE d r x m q=h at *
       generalize aC r (q-P)=y at *
       generalize q-P=J at *
       have WJ:=fH (J:Int) gA gA
       have W1:=fH (-eU y) gA gA
       have W2:=fH (h+-eU y) gA gA
       go_upto_region 22 with fail
       refine b_ 15 (fun w'=>w'=wr.drew) 16 (by rfl) _ rfl (by kernel_rfl) (fun aK=>?_)
       refine eF 0 rfl aK fun aK=>?_
       refine eF 1 rfl aK fun aK=>?_
       refine eF 2 rfl aK fun aK=>?_
       refine eF (v:=.int .i64 h) 3 rfl aK fun aK=>?_
       refine eF 4 rfl aK fun aK=>?_
       refine eF 5 rfl aK fun aK=>?_
       refine eF 6 rfl aK fun aK=>?_
       refine eF 7 rfl aK fun aK=>?_
       refine jq (hy:=by intro w' bL;subst bL;go_simp;try simp only[WJ]) (v:=.int .i64 (J:Int)) 8 rfl aK fun aK=>?_
       refine eF 9 rfl aK fun aK=>?_
       refine eF (v:=.int .i64 y) 10 rfl aK fun aK=>?_
       refine kT 11 aK fun K hK=>?_
       (try simp only[sZ])
       go_simp
       refine(Ij y _).mono ?_
       rintro e wc ⟨rfl,rfl⟩
       go_wp2_with fail
       refine hK.out _ _ (fun _=>rfl) (fun aK=>?_)
       (try simp only[sZ])
       refine jq (hy:=by intro w' bL;subst bL;go_simp;try simp only[W1]) (v:=.int .i64 (-eU y)) 12 rfl aK fun aK=>?_
       refine jq (hy:=by intro w' bL;subst bL;go_simp;try simp only[W2]) (v:=.int .i64 (h+-eU y)) 13 rfl aK fun aK=>?_
       refine eF 14 rfl aK fun aK=>?_
       refine kT 15 aK fun K hK=>?_
       (try simp only[sZ])
       go_simp
       go_wp2_with fail
       refine hK.out _ _ (fun h=>by cases h) (fun aK=>?_)
       (try simp only[sZ])
       refine bI _ _ _ _ (by rfl) ?_
       refine xP ?_
       have Nw:=Zs (bO (wr.setCell ⟨B,q,none⟩ (.int .i64 (h+-eU y))).drew B 3 (rs.set q (h+-eU y))∧w.heap.size≤B∧w.grownBy (wr.setCell ⟨B,q,none⟩ (.int .i64 (h+-eU y))).drew none) (⟨NM.out.1.aH (aZ _),NM.out.2.1,aB NM.out.2.2 (aZ _)⟩)
       generalize (wr.setCell ⟨B,q,none⟩ (.int .i64 (h+-eU y))).drew=wz at *
       clear cy ch fh WJ W1 W2 J1 j2 b1 b2 b3 b4
       go_wp2_with fail
       go_roundw
       case rel=>exact⟨q+1,_,by go_num,gA,gA,NF.out,Nw.out⟩
       case measure=>simp[intOf];omega
      obtain rfl:q=40:=gA
      have NA:=Zd (Zv hF.out)
      have NM:=hM
      clear hF hM
      rw[show((40:Nat):Int)=40 from rfl]
      go_wp2_with fail
      go_roundw
      case rel=>exact⟨m+1,_,by go_num,gA,rfl,NA.out,NM.out⟩
      case measure=>simp[intOf];omega
    rw[es]at EC SN
    rw[show 1*z=z by omega,Dn z z1 z2]at EC
    clear es
    go_wp2_with fail
    rw[←EC.out]
    go_loopw [17] (fun i wr=>∃(q:Nat) (rs:List Int),i=.int .i64 q∧P≤q∧q≤40∧Hid (HrF d r x m q rs)∧Hid (bO wr B 3 rs∧w.heap.size≤B∧w.grownBy wr none)) (fun i _=>40-(intOf i).toNat)
    case atStart=>exact⟨P,rs,rfl,Nat.le_refl _,gA,F0.out,hM.out⟩
    case round=>
     obtain⟨q,rs,rfl,hq1,hq2,hF,hM⟩:=hrel
     clear F0
     by_cases aer:q<40
     ·have j1:(q:Int)<40:=gA
      have lr:=hF.out.1
      obtain⟨ar',c2,e',k1,k2⟩:=RV.out wr hM.out.2.2
      simp only[Value.slice.injEq]at e'
      obtain⟨rfl,e2,rfl⟩:=e'
      obtain⟨ra,rfl,k3⟩:=k2 (by rw[HR.out];omega)
      have cy:=k3 (q-P) (by rw[HR.out];omega)
      have ch:=hM.out.1.cell q gA
      have fh:=hM.out.1.free q
      have hv:=hF.out.2 q aer
      rw[if_neg gA]at hv
      rw[hv]at ch
      have HE:=Zd (show rE d r x (m+1) q=rE d r x m q+eU (aC r (q-P)) by
       rw[Ik,SN.out,HP.out,show fD r P q=eU (aC r (q-P))from if_pos hq1];omega)
      obtain⟨b1,b2⟩:=U_ d r x m q gA
      obtain⟨b3,b4⟩:=kK (aC r (q-P))
      have NF:=Zd (Ub hF.out aer _ HE.out.symm)
      have NM:=Zs (bO (wr.setCell ⟨B,q,none⟩ (.int .i64 (rE d r x m q+eU (aC r (q-P))))) B 3 (rs.set q (rE d r x m q+eU (aC r (q-P))))∧w.heap.size≤B∧w.grownBy (wr.setCell ⟨B,q,none⟩ (.int .i64 (rE d r x m q+eU (aC r (q-P))))) none) (⟨hM.out.1.set q _,hM.out.2.1,aG hM.out.2.2 (aF wr ⟨B,q,none⟩ _) hM.out.2.1⟩)
      have J1:(q:Int)-(P:Int)=((q-P:Nat):Int):=gA
      have j2:((q-P:Nat):Int)<40:=gA
      clear e2 k1 k2 k3 hF hM hv lr
      generalize rE d r x m q=h at *
      generalize aC r (q-P)=y at *
      generalize q-P=J at *
      have WJ:=fH (J:Int) gA gA
      have W1:=fH (eU y) gA gA
      have W2:=fH (h+eU y) gA gA
      go_upto_region 22 with fail
      refine b_ 15 (fun w'=>w'=wr.drew) 16 (by rfl) _ rfl (by kernel_rfl) (fun aK=>?_)
      refine eF 0 rfl aK fun aK=>?_
      refine eF 1 rfl aK fun aK=>?_
      refine eF 2 rfl aK fun aK=>?_
      refine eF (v:=.int .i64 h) 3 rfl aK fun aK=>?_
      refine eF 4 rfl aK fun aK=>?_
      refine eF 5 rfl aK fun aK=>?_
      refine eF 6 rfl aK fun aK=>?_
      refine eF 7 rfl aK fun aK=>?_
      refine jq (hy:=by intro w' bL;subst bL;go_simp;try simp only[WJ]) (v:=.int .i64 (J:Int)) 8 rfl aK fun aK=>?_
      refine eF 9 rfl aK fun aK=>?_
      refine eF (v:=.int .i64 y) 10 rfl aK fun aK=>?_
      refine kT 11 aK fun K hK=>?_
      (try simp only[sZ])
      go_simp
      refine(Ij y _).mono ?_
      rintro e wc ⟨rfl,rfl⟩
      go_wp2_with fail
      refine hK.out _ _ (fun _=>rfl) (fun aK=>?_)
      (try simp only[sZ])
      refine jq (hy:=by intro w' bL;subst bL;go_simp;try simp only[W1]) (v:=.int .i64 (eU y)) 12 rfl aK fun aK=>?_
      refine jq (hy:=by intro w' bL;subst bL;go_simp;try simp only[W2]) (v:=.int .i64 (h+eU y)) 13 rfl aK fun aK=>?_
      refine eF 14 rfl aK fun aK=>?_
      refine kT 15 aK fun K hK=>?_
      (try simp only[sZ])
      go_simp
      go_wp2_with fail
      refine hK.out _ _ (fun h=>by cases h) (fun aK=>?_)
      (try simp only[sZ])
      refine bI _ _ _ _ (by rfl) ?_
      refine xP ?_
      have Nw:=Zs (bO (wr.setCell ⟨B,q,none⟩ (.int .i64 (h+eU y))).drew B 3 (rs.set q (h+eU y))∧w.heap.size≤B∧w.grownBy (wr.setCell ⟨B,q,none⟩ (.int .i64 (h+eU y))).drew none) (⟨NM.out.1.aH (aZ _),NM.out.2.1,aB NM.out.2.2 (aZ _)⟩)
      generalize (wr.setCell ⟨B,q,none⟩ (.int .i64 (h+eU y))).drew=wz at *
      clear cy ch fh WJ W1 W2 J1 j2 b1 b2 b3 b4
      go_wp2_with fail
      go_roundw
      case rel=>exact⟨q+1,_,by go_num,gA,gA,NF.out,Nw.out⟩
      case measure=>simp[intOf];omega
     obtain rfl:q=40:=gA
     have NA:=Zd (Zv hF.out)
     have NM:=hM
     clear hF hM
     rw[show((40:Nat):Int)=40 from rfl]
     go_wp2_with fail
     go_roundw
     case rel=>exact⟨m+1,_,by go_num,gA,rfl,NA.out,NM.out⟩
     case measure=>simp[intOf];omega
   obtain rfl:m=4:=gA
   have lr:=hH.out.1
   have NR:=Zd hH.out.2
   have BB:=Zd hM.out.1
   have FF:=Zd (FY.out wr hM.out.2.2)
   have HB:=Zd (U_ d r x 4)
   clear hH hM
   generalize EO d x 4=C at *
   rw[show((4:Nat):Int)=4 from rfl]
   go_wp2_with fail
   go_loop [18,86] (fun s i=>∃k:Nat,i=.int .i64 k∧k≤40∧s=.int .i64 (fq (fun i=>rE d r x 4 i*rE d r x 4 i) k)∧Hid (0≤fq (fun i=>rE d r x 4 i*rE d r x 4 i) k∧fq (fun i=>rE d r x 4 i*rE d r x 4 i) k≤17179869184*(k:Int))) (fun _ i=>40-(intOf i).toNat)
   case atStart=>exact⟨0,rfl,Nat.zero_le _,rfl,⟨Int.le_refl _,Int.le_refl _⟩⟩
   case round=>
    obtain⟨k,rfl,hk,rfl,hS⟩:=hrel
    by_cases wR:k<40
    ·have i1:(k:Int)<40:=gA
     have ck:=BB.out.cell k gA
     rw[NR.out k wR]at ck
     obtain⟨b1,b2⟩:=HB.out k gA
     obtain⟨s1,s2⟩:=aiq _ b1 b2
     obtain⟨t1,t2⟩:=hS.out
     have ES:=Zs (fq (fun i=>rE d r x 4 i*rE d r x 4 i) (k+1)=fq (fun i=>rE d r x 4 i*rE d r x 4 i) k+rE d r x 4 k*rE d r x 4 k) (rfl)
     clear hS
     generalize hs':fq (fun i=>rE d r x 4 i*rE d r x 4 i) (k+1)=s' at *
     have HS':=Zd hs'
     clear hs'
     generalize fq (fun i=>rE d r x 4 i*rE d r x 4 i) k=s at *
     generalize rE d r x 4 k=h at *
     go_wp2_with fail
     go_round
     case rel=>exact⟨k+1,by go_num,gA,by rw[HS'.out,ES.out],by rw[HS'.out,ES.out];exact⟨gA,gA⟩⟩
     case measure=>simp[intOf];omega
    obtain rfl:k=40:=gA
    clear hS
    generalize fq (fun i=>rE d r x 4 i*rE d r x 4 i) 40=s at *
    rw[show((40:Nat):Int)=40 from rfl]
    go_wp2_with fail
    refine bodyPost_ret (v:=.tuple #[.int .i64 C,.int .i64 s,.int .i64 0]) ?_ rfl FF.out
    simp[results,results202,asAddr,Act.put]
theorem Oo (vd vr:Value)(d r x:List Int)(w:World)(hd:aS w vd d)(hr:aS w vr r)(hx:x.length=4)(hl:d.length≤1000000000000000000)(ni:r.length≤1000000000000000000)(iQ:jv d) :
 Calls prog 202 #[vd,vr,.agg (aD x)] w (abw w (soC d r x) (soV d r x) (Vb d r x)):=by
 by_cases h:d.length=40∧r.length=40
 ·exact Il vd vr d r x w hd hr hx h.1 h.2 iQ
 have e:Vb d r x=1:=if_neg h
 rw[show soC d r x=0 by unfold soC;rw[e];rfl,show soV d r x=0 by unfold soV;rw[e];rfl,e]
 exact JW vd vr d r x w hd hr h hl ni
theorem Oq (vd vr:Value)(d r:List Int)(w:World)(hd:aS w vd d)(hr:aS w vr r)(hl:d.length≤1000000000000000000)(ni:r.length≤1000000000000000000) :
 Calls prog 151 #[vd,vr] w (mO w (.int .i64 (vJ d r))):=by
 by_cases h:d.length=40∧r.length=40
 ·have NO:=Zd (fun i (hi:i<40) (hb:¬(-1099511627776≤aC d i∧aC d i≤1099511627776))=>(show mO w (.int .i64 (vJ d r)) (.returned (.int .i64 2)) w from⟨by
   have ho:xU d=false:=by
    rcases ho:xU d with _|_
    ·rfl
    exact absurd ((tO d).1 ho i gA) hb
   rw[show vJ d r=2 by unfold vJ;rw[if_pos h,ho];rfl],rfl⟩))
  have YES:=Zd (fun(hh:∀i,i<40→-1099511627776≤aC d i∧aC d i≤1099511627776)=>(show mO w (.int .i64 (vJ d r)) (.returned (.int .i64 0)) w from⟨by
   have ho:xU d=true:=(tO d).2 (fun i hi=>hh i gA)
   rw[show vJ d r=0 by unfold vJ;rw[if_pos h,ho];rfl],rfl⟩))
  generalize mO w (.int .i64 (vJ d r))=T at *
  obtain⟨ad,cp,rfl,hcp,bH⟩:=hd
  obtain⟨ar,cr,rfl,_,_⟩:=hr
  have HC:=Zd bH
  have HD:=Zd h.1
  rw[h.1,h.2]
  clear h bH hcp hl ni
  go_enter func151,ntmps151
  go_wp2_with fail
  go_loop [17] (fun i=>∃k:Nat,i=.int .i64 k∧k≤40∧Hid (∀i,i<k→-1099511627776≤aC d i∧aC d i≤1099511627776)) (fun i=>40-(intOf i).toNat)
  case atStart=>exact⟨0,rfl,Nat.zero_le _,fun i hi=>gA⟩
  case round=>
   obtain⟨k,rfl,hk,hG⟩:=hrel
   by_cases wR:k<40
   ·obtain⟨a,rfl,h3⟩:=HC.out (by rw[HD.out];omega)
    have ck:=h3 k (by rw[HD.out];omega)
    have i1:(k:Int)<40:=gA
    have NK:=Zd (NO.out k wR)
    have GK:=Zd (fun(hh:-1099511627776≤aC d k∧aC d k≤1099511627776)=>(show ∀i,i<k+1→-1099511627776≤aC d i∧aC d i≤1099511627776 from fun i hi=>by
     rcases Nat.lt_or_ge i k with g|g
     ·exact hG.out i g
     obtain rfl:i=k:=gA
     exact hh))
    clear hG h3
    generalize aC d k=z at *
    by_cases z1:z < -1099511627776
    ·have F:=Zd (NK.out gA)
     go_wp2_with fail
     exact F.out
    by_cases z2:1099511627776<z
    ·have F:=Zd (NK.out gA)
     go_wp2_with fail
     exact F.out
    have F:=Zd (GK.out ⟨gA,gA⟩)
    go_wp2_with fail
    go_round
    case rel=>exact⟨k+1,by go_num,gA,F.out⟩
    case measure=>simp[intOf];omega
   obtain rfl:k=40:=gA
   have F:=Zd (YES.out hG.out)
   clear hG
   rw[show((40:Nat):Int)=40 from rfl]
   go_wp2_with fail
   exact F.out
 rw[show vJ d r=1 from if_neg h]
 obtain⟨ad,cp,rfl,_,_⟩:=hd
 obtain⟨ar,cr,rfl,_,_⟩:=hr
 generalize d.length=nd at *
 generalize r.length=nr at *
 by_cases h1:nd=40
 ·have b2:((nr:Int) != 40)=true:=by simp;omega
  subst h1
  clear h
  go_enter func151,ntmps151
  go_wp2_with fail
  go_ret
  exact⟨rfl,rfl⟩
 have b1:((nd:Int) != 40)=true:=by simp;omega
 clear h h1
 go_enter func151,ntmps151
 go_wp2_with fail
 go_ret
 exact⟨rfl,rfl⟩
def yU (d x:List Int)(t:Nat):Int:=if aC d (iW x t)<0 then 0 else 1
def sgR (d x:List Int):Nat→Int
 | 0=>0
 | k+1=>2*sgR d x k+yU d x (3-k)
theorem agx (d x:List Int):sgR d x 4=Fa d x 4:=by
 have e:∀t,Mf d x t=yU d x t*2^t:=fun t=>by
  unfold Mf yU
  split
  ·simp
  simp
 show 2*(2*(2*(2*0+yU d x 3)+yU d x 2)+yU d x 1)+yU d x 0=0+Mf d x 0+Mf d x 1+Mf d x 2+Mf d x 3
 rw[e,e,e,e]
 have e:(2:Int)^0=1∧(2:Int)^1=2∧(2:Int)^2=4∧(2:Int)^3=8:=by decide
 rw[e.1,e.2.1,e.2.2.1,e.2.2.2]
 omega
theorem air (d x:List Int):∀k,k≤4→0≤sgR d x k∧sgR d x k≤100:=by
 have hb:∀t,0≤yU d x t∧yU d x t≤1:=fun t=>by unfold yU;split<;>omega
 have h0:=hb 0
 have h1:=hb 1
 have h2:=hb 2
 have h3:=hb 3
 intro k hk
 match k,hk with
 | 0,_=>exact⟨Int.le_refl _,by show(0:Int)≤100;omega⟩
 | 1,_=>show 0≤2*0+yU d x 3∧2*0+yU d x 3≤100;omega
 | 2,_=>show 0≤2*(2*0+yU d x 3)+yU d x 2∧2*(2*0+yU d x 3)+yU d x 2≤100;omega
 | 3,_=>show 0≤2*(2*(2*0+yU d x 3)+yU d x 2)+yU d x 1∧2*(2*(2*0+yU d x 3)+yU d x 2)+yU d x 1≤100;omega
 | 4,_=>show 0≤2*(2*(2*(2*0+yU d x 3)+yU d x 2)+yU d x 1)+yU d x 0∧2*(2*(2*(2*0+yU d x 3)+yU d x 2)+yU d x 1)+yU d x 0≤100;omega
theorem Ot (vd:Value)(d x:List Int)(w:World)(hd:aS w vd d)(hdl:d.length=40)(hx:x.length=4)(hg:f_ x=true) :
 Calls prog 153 #[vd,.agg (aD x)] w (qQ w (.int .i64 (Fa d x 4))):=by
 have B0:=Zd (bO.new w 44 x)
 have ga:=ak w (.cells (aD x) 44) none
 have G0:=Zd ga
 have PL:=Zd (Bc hg hx)
 have GX:=Zd ((iq x).1 hg)
 have HX:=Zd hx
 have HD:=Zd hdl
 have DV:=Zd (aP hd ga)
 rw[←agx]
 have SB:=Zd (air d x)
 obtain⟨ad,cp,rfl,_,_⟩:=hd
 rw[hdl]
 clear ga hg hdl
 go_enter func153,ntmps153
 go_upto_region 1 with fail
 generalize w.alloc (.cells (aD x) 44)=W1 at *
 obtain⟨Yr,c',e',h1,h2⟩:=DV.out
 simp only[Value.slice.injEq]at e'
 obtain⟨rfl,e2,rfl⟩:=e'
 obtain⟨a,rfl,h3⟩:=h2 (by rw[HD.out];omega)
 have DC:=Zd h3
 clear e2 h1 h2 h3
 go_wp2_with fail
 go_loop [5,6] (fun s i=>∃n:Nat,i=.int .i64 ((n:Int)-1)∧n≤4∧s=.int .i64 (sgR d x (4-n))) (fun _ i=>(intOf i+1).toNat)
 case atStart=>exact⟨4,rfl,Nat.le_refl _,rfl⟩
 case round=>
  obtain⟨n,rfl,hn,rfl⟩:=hrel
  by_cases hn0:0<n
  ·obtain⟨t,rfl⟩:∃t,n=t+1:=⟨n-1,gA⟩
   rw[show(((t+1:Nat):Int)-1)=(t:Int) by omega]
   have ht:t<4:=gA
   have hPL:=PL.out t ht
   obtain⟨g1,g2⟩:=GX.out t (by rw[HX.out];omega)
   have cx:=B0.out.cell t (by rw[HX.out];exact ht)
   have cz:=DC.out (iW x t) (by rw[HD.out];omega)
   have e1:(t:Int)+4*aC x t=((iW x t:Nat):Int):=by unfold iW;omega
   obtain⟨s1,s2⟩:=SB.out (4-(t+1)) gA
   have ES:=Zd (show sgR d x (4-t)=2*sgR d x (4-(t+1))+(if aC d (iW x t)<0 then 0 else 1) by
    rw[show 4-t=(4-(t+1))+1 by omega]
    show 2*sgR d x (4-(t+1))+yU d x (3-(4-(t+1)))=_
    rw[show 3-(4-(t+1))=t by omega]
    rfl)
   have i1:(t:Int)<4:=gA
   have i2:((iW x t:Nat):Int)<40:=gA
   clear hn0
   generalize hs':sgR d x (4-t)=s' at *
   have HS':=Zd hs'
   clear hs'
   generalize sgR d x (4-(t+1))=s at *
   generalize aC d (iW x t)=z at *
   generalize iW x t=P at *
   generalize aC x t=pl at *
   by_cases hz:z<0
   ·have EV:=Zs (s'=s*2) (by rw[ES.out,if_pos hz];omega)
    go_wp2_with fail
    go_round
    case rel=>exact⟨t,rfl,gA,by rw[HS'.out,EV.out]⟩
    case measure=>simp[intOf]
   have EV:=Zs (s'=s*2+1) (by rw[ES.out,if_neg hz];omega)
   have hz':0≤z:=gA
   clear hz
   go_wp2_with fail
   go_round
   case rel=>exact⟨t,rfl,gA,by rw[HS'.out,EV.out]⟩
   case measure=>simp[intOf]
  obtain rfl:n=0:=gA
  rw[show 4-0=4 from rfl,show(((0:Nat):Int)-1)=-1 from rfl]
  generalize sgR d x 4=s at *
  go_wp2_with fail
  go_ret
  exact⟨rfl,G0.out⟩
def ais (w:World)(v:Value)(N:Nat)(ix:Nat→List Int):Prop:=∃g cap,v=.slice (some ⟨g,0,none⟩) N cap∧∀i,i<N→w.rangeAt g (i*4) ((ix i).map (Value.int .i64))
theorem XJ {w w':World}{b o:Nat}{cs:List Value}(h:w.rangeAt b o cs)(g:w.grownBy w' none):w'.rangeAt b o cs:=fun j v hv=>bA g (h j v hv)
theorem aes:(prog.info? 44).bind (·.zero)=some (.agg (aD (ay 4))):=by kernel_rfl
theorem aeu (d x:List Int):cS d x≤9223372036854775807:=by
 show wrap64 _≤_
 unfold wrap64
 omega
theorem aev (d r x:List Int):eS d r x≤9223372036854775807:=by
 have:=U9 d r x 4 0 gA gA
 unfold eS
 omega
def kbL (C E:List Int→Int)(ix:Nat→List Int)(m:Nat):List Int:=if m=0 then ix 0 else(qU C E ix m).1
theorem agy (C E:List Int→Int)(ix:Nat→List Int)(N:Nat)(uT:∀m,m<N→(ix m).length=4)(hN:0<N)(m:Nat)(hm:m≤N):(kbL C E ix m).length=4:=by
 unfold kbL
 split
 ·exact uT 0 hN
 obtain⟨j,hj,e⟩:=w_ C E ix m gA
 rw[e]
 exact uT j gA
theorem Ud (vd vr vl:Value)(d r:List Int)(N:Nat)(ix:Nat→List Int)(w:World)(hd:aS w vd d)(hr:aS w vr r)(h1:d.length=40)(h2:r.length=40)(iQ:jv d)(hl:ais w vl N ix)(hN:0<N)(hN2:N≤100000)(uT:∀m,m<N→(ix m).length=4∧f_ (ix m)=true) :
 Calls prog 152 #[vd,vr,vl] w (qQ w (.agg (aD (qU (cS d) (eS d r) ix N).1))):=by
 obtain⟨g,cap,rfl,aj9⟩:=hl
 have SC:=Zd (fun W (gW:w.grownBy W none) m (hm:m<N)=>Oo vd vr d r (ix m) W (aP hd gW) (aP hr gW) (uT m hm).1 gA gA iQ)
 have SV:=Zd (fun m (hm:m<N)=>(Uc ⟨h1,h2⟩ (uT m hm).2:Vb d r (ix m)=0∧soC d r (ix m)=cS d (ix m)∧soV d r (ix m)=eS d r (ix m)))
 have RG:=Zd (fun W (gW:w.grownBy W none) i (hi:i<N)=>XJ (aj9 i hi) gW)
 have IL:=Zd (fun m (hm:m<N)=>(uT m hm).1)
 have KL:=Zd (agy (cS d) (eS d r) ix N (fun m hm=>(uT m hm).1) hN)
 have KB:=Zd (show ∀m,0<m→(qU (cS d) (eS d r) ix m).2.1≤9223372036854775807∧(qU (cS d) (eS d r) ix m).2.2≤9223372036854775807 from fun m h=>by
  obtain⟨j,_,e⟩:=w_ (cS d) (eS d r) ix m h
  rw[e]
  exact⟨aeu _ _,aev _ _ _⟩)
 have BY:=Zd (Me (cS d) (eS d r) ix)
 have BN:=Zd (Va (cS d) (eS d r) ix)
 have hz4:=gM aes
 have ga:=ak w (.cells (aD (ay 4)) 44) none
 have BZ0:=Zd (bO.new w 44 (ay 4))
 have G0:=Zd ga
 obtain⟨ad,cp,rfl,_,_⟩:=hd
 obtain⟨ar,cr,rfl,_,_⟩:=hr
 have h_:=Zs (∀w',w.grownBy w' none→qQ w (.agg (aD (qU (cS d) (eS d r) ix N).1)) (.returned (.agg (aD (kbL (cS d) (eS d r) ix N)))) w') (fun w' gw=>⟨by unfold kbL;rw[if_neg gA],gw⟩)
 clear h1 h2 iQ aj9 uT ga
 generalize qQ w (.agg (aD (qU (cS d) (eS d r) ix N).1))=T at *
 have hN0:(0:Int)<(N:Int):=gA
 go_enter func152,ntmps152
 go_upto_region 1 with fail
 generalize hW1:w.alloc (.cells (aD (ay 4)) 44)=W1 at *
 have S1:W1.heap.size=w.heap.size+1:=by rw[←hW1];simp
 have A_:=Zd S1
 clear hW1 S1
 have R0:=Zd (RG.out W1 G0.out 0 hN)
 rw[Nat.zero_mul]at R0
 have L0:=Zd (IL.out 0 hN)
 have FA:=dL W1 44 4 (ix 0) L0.out
 have BF:=Zd FA.1
 have M0:=Zs (iD w (bT (W1.alloc (.cells (aD (ay 4)) 44)) W1.heap.size (ix 0)) 44 44 (ay 4) (kbL (cS d) (eS d r) ix 0)) (⟨BZ0.out.aH FA.2.2,by have:=FA.2.1;rw[A_.out]at this;rw[A_.out];exact this,aB G0.out FA.2.2⟩)
 clear FA
 go_upto_region 2 with(first|refine wpList_load_mid rfl 44 _ rfl g 0 rfl ((ix 0).map (Value.int .i64)) _ R0.out underlying44 rfl (by rw[List.length_map,L0.out];exact iX) ?_|refine sA (ix 0) BF.out (by rw[L0.out,au]) (by rw[au];exact iX) ?_)
 (try simp only[Act.put])
 generalize bT (W1.alloc _) W1.heap.size (ix 0)=W2 at *
 rw[A_.out]
 go_wp2_with fail
 go_loopw [8,9,20] (fun c e i wr=>∃m:Nat,i=.int .i64 m∧m≤N∧c=.int .i64 (qU (cS d) (eS d r) ix m).2.1∧e=.int .i64 (qU (cS d) (eS d r) ix m).2.2∧Hid (iD w wr 44 44 (ay 4) (kbL (cS d) (eS d r) ix m))) (fun _ _ i _=>N-(intOf i).toNat)
 case atStart=>exact⟨0,rfl,Nat.zero_le _,rfl,rfl,M0.out⟩
 case round=>
  obtain⟨m,rfl,hm,rfl,rfl,hM⟩:=hrel
  clear M0
  by_cases hmN:m<N
  ·have i1:(m:Int)<N:=gA
   have LX:=Zd (IL.out m hmN)
   have RM:=Zd (RG.out wr hM.out.2.2 m hmN)
   have SM:=Zd (fun W (gW:w.grownBy W none)=>SC.out W gW m hmN)
   have sv:=SV.out m hmN
   rw[sv.1,sv.2.1,sv.2.2]at SM
   have YY:=Zd (BY.out m)
   have NN:=Zd (BN.out m)
   have KBm:=Zd (KB.out m)
   have KLm:=Zd (KL.out m hm)
   have KN:=Zs (kbL (cS d) (eS d r) ix (m+1)=(qU (cS d) (eS d r) ix (m+1)).1) (if_neg gA)
   have K0:=Zs (¬m=0→kbL (cS d) (eS d r) ix m=(qU (cS d) (eS d r) ix m).1) (fun h=>if_neg h)
   have hcb:=aeu d (ix m)
   have heb:=aev d r (ix m)
   have FA:=dL wr 44 4 (ix m) LX.out
   have BF:=Zd FA.1
   have BT:=Zd FA.2.1
   have M1:=Zd (iD.aH hM.out FA.2.2)
   have LT:=Zs (w.heap.size+1<wr.heap.size) (hM.out.2.1.lt)
   clear FA sv hM
   generalize hb':qU (cS d) (eS d r) ix (m+1)=ks' at *
   have HB':=Zd hb'
   clear hb'
   generalize jS:kbL (cS d) (eS d r) ix m=kl at *
   generalize hkn:kbL (cS d) (eS d r) ix (m+1)=kn at *
   have HKN:=Zd hkn
   clear jS hkn
   generalize qU (cS d) (eS d r) ix m=ks at *
   generalize cS d (ix m)=C at *
   generalize eS d r (ix m)=E at *
   generalize ix m=x at *
   obtain⟨kx,kc,ke⟩:=ks
   dsimp only at YY NN KBm K0 ⊢
   go_upto_region 5 with(first|refine wpList_load_mid rfl 44 _ rfl g (m*4) rfl (x.map (Value.int .i64)) _ RM.out underlying44 rfl (by rw[List.length_map,LX.out];exact iX) ?_|refine sA x BF.out (by rw[LX.out,au]) (by rw[au];exact iX) ?_)
   (try simp only[Act.put])
   generalize bT (wr.alloc _) wr.heap.size x=W3 at *
   generalize wr.heap.size=bt at *
   have S1:=Zd (SM.out W3 M1.out.2.2)
   go_wp2_with (first|refine lA BT.out (by rw[LX.out];exact iX) ?_)
   refine S1.out.mono ?_
   rintro e w4 ⟨rfl,g4⟩
   have M4:=Zd (iD.aH M1.out g4)
   have BT4:=Zd (BT.out.aH g4)
   clear g4 S1
   by_cases h0:m=0
   ·have b0:((m:Int)==0)=true:=by simp[h0]
    have EN:=Zd (YY.out (.inl h0))
    have BK:=Zd M4.out.2.1
    have PU:=bB (rs':=x) BK.out (by rw[LX.out,KLm.out])
    have M5:=Zs (iD w (bT w4 (w.heap.size+1) x) 44 44 (ay 4) x) (⟨M4.out.1.aJ PU.2 gA,PU.1,aG M4.out.2.2 PU.2 gA⟩)
    clear PU h0
    go_upto_region 8 with(first|refine lA BT4.out (by rw[LX.out];exact iX) ?_|refine sA x BK.out (by rw[LX.out,KLm.out]) (by rw[KLm.out];exact iX) ?_)
    (try simp only[Act.put])
    generalize bT w4 (w.heap.size+1) x=W5 at *
    go_wp2_with fail
    go_roundw
    case rel=>exact⟨m+1,by go_num,gA,by rw[HB'.out,EN.out],by rw[HB'.out,EN.out],by rw[HKN.out,KN.out,EN.out];exact M5.out⟩
    case measure=>simp[intOf];omega
   have b0:((m:Int)==0)=false:=by simp[h0]
   obtain⟨kb1,kb2⟩:=KBm.out gA
   have BE:=Zd (yx C E kc ke hcb heb kb1 kb2 w4)
   rcases hb:yF C E kc ke with _|_
   ·rw[hb]at BE
    have EN:=Zd (NN.out (fun h=>by rcases h with h|h;exact h0 h;rw[hb]at h;cases h))
    have EK:=Zd (K0.out h0)
    clear h0 hb
    go_wp2_with fail
    refine BE.out.mono ?_
    rintro e w5 ⟨rfl,g5⟩
    have M5:=Zd (iD.aH M4.out g5)
    clear g5 BE
    go_wp2_with fail
    go_roundw
    case rel=>exact⟨m+1,by go_num,gA,by rw[HB'.out,EN.out],by rw[HB'.out,EN.out],by rw[HKN.out,KN.out,EN.out,←EK.out];exact M5.out⟩
    case measure=>simp[intOf];omega
   rw[hb]at BE
   have EN:=Zd (YY.out (.inr hb))
   clear h0 hb
   go_wp2_with fail
   refine BE.out.mono ?_
   rintro e w5 ⟨rfl,g5⟩
   have M5:=Zd (iD.aH M4.out g5)
   have BT5:=Zd (BT4.out.aH g5)
   have BK:=Zd M5.out.2.1
   have PU:=bB (rs':=x) BK.out (by rw[LX.out,KLm.out])
   have M6:=Zs (iD w (bT w5 (w.heap.size+1) x) 44 44 (ay 4) x) (⟨M5.out.1.aJ PU.2 gA,PU.1,aG M5.out.2.2 PU.2 gA⟩)
   clear g5 BE PU
   go_upto_region 8 with(first|refine lA BT5.out (by rw[LX.out];exact iX) ?_|refine sA x BK.out (by rw[LX.out,KLm.out]) (by rw[KLm.out];exact iX) ?_)
   (try simp only[Act.put])
   generalize bT w5 (w.heap.size+1) x=W6 at *
   go_wp2_with fail
   go_roundw
   case rel=>exact⟨m+1,by go_num,gA,by rw[HB'.out,EN.out],by rw[HB'.out,EN.out],by rw[HKN.out,KN.out,EN.out];exact M6.out⟩
   case measure=>simp[intOf];omega
  obtain rfl:m=N:=gA
  have BA:=Zd hM.out.2.1
  have BZ:=Zd hM.out.1
  have LX:=Zd (KL.out m hm)
  have PU:=bB (rs':=kbL (cS d) (eS d r) ix m) BZ.out (by rw[LX.out,au])
  have F:=Zd (h_.out _ (aG hM.out.2.2 PU.2 (Nat.le_refl _)))
  have eO:=Zd (lS PU.1 (by rw[LX.out];exact iX))
  clear hM PU
  generalize kbL (cS d) (eS d r) ix m=X at *
  generalize qU (cS d) (eS d r) ix m=ks at *
  go_wp2_with (first|refine lA BA.out (by rw[LX.out];exact iX) ?_|refine sA X BZ.out (by rw[LX.out,au]) (by rw[au];exact iX) ?_)
  refine bodyPost_ret (v:=.agg (aD X)) ?_ rfl F.out
  simp[results,results152,asAddr,Act.put,eO.out]
def CS (ix:Nat→List Int):Nat→List Value
 | 0=>[]
 | n+1=>CS ix n++(ix n).map (Value.int .i64)
theorem Lc (ix:Nat→List Int):∀n,(∀i,i<n→(ix i).length=4)→(CS ix n).length=n*4
 | 0,_=>rfl
 | n+1,h=>by
  show(CS ix n++(ix n).map (Value.int .i64)).length=_
  rw[List.length_append,Lc ix n (fun i hi=>h i gA),List.length_map,h n gA]
  omega
theorem Ld (ix:Nat→List Int):∀n,(∀i,i<n→(ix i).length=4)→∀i j,i<n→j<4→(CS ix n)[i*4+j]?=some (.int .i64 (aC (ix i) j))
 | 0,_,i,j,hi,_=>gA
 | n+1,h,i,j,hi,hj=>by
  show(CS ix n++(ix n).map (Value.int .i64))[i*4+j]?=_
  have hl:=Lc ix n (fun i hi=>h i gA)
  by_cases e:i=n
  ·subst e
   rw[List.getElem?_append_right gA,hl,show i*4+j-i*4=j by omega]
   have:=h i gA
   simp[aC,List.getD,this,hj]
  rw[List.getElem?_append_left gA]
  exact Ld ix n (fun i hi=>h i gA) i j gA hj
def Own4 (base:Nat)(w:World)(v:Value)(n:Nat)(ix:Nat→List Int):Prop:=w.ownsRow base 44 4 v n (CS ix n)
theorem aew (base:Nat)(w:World)(ix:Nat→List Int):Own4 base w (.slice none 0 0) 0 ix:=World.ownsRow_nil _ _ _ _
theorem Own4.aH {base:Nat}{w w':World}{v:Value}{n:Nat}{ix:Nat→List Int}(h:Own4 base w v n ix)(g:w.grownBy w' none):Own4 base w' v n ix:=World.ownsRow.kept h g (by rcases v.ownBlock with _|b<;>simp)
theorem Own4.dK {base:Nat}{w w':World}{v:Value}{n:Nat}{ix:Nat→List Int}{b:Nat}(h:Own4 base w v n ix)(g:w.grownBy w' (some b))(hb:b<base):Own4 base w' v n ix:=by
 refine World.ownsRow.kept h g ?_
 rcases e:v.ownBlock with _|c
 ·exact .inl rfl
 right
 intro e'
 have:=(World.ownsRow.lt h c e).1
 cases e'
 omega
theorem Own4.arr {base:Nat}{w:World}{v:Value}{n:Nat}{ix:Nat→List Int}(h:Own4 base w v n ix)(hn:0<n)(uT:∀i,i<n→(ix i).length=4):ais w v n ix:=by
 obtain⟨k1,k2⟩:=id h
 rcases k2 with⟨_,h0⟩|⟨g,cap,cur,hv,hb,hg,_⟩
 ·omega
 subst hv
 refine⟨g,cap,rfl,fun i hi j u hu=>?_⟩
 have hj:j<4:=by
  by_cases hj:j<4
  ·exact hj
  rw[List.getElem?_eq_none (by rw[List.length_map,uT i hi];omega)]at hu;cases hu
 rw[World.ownsRow.cellAt h (i*4+j) gA,Ld ix n uT i j hi hj,←hu]
 simp[aC,List.getD,uT i hi,hj]
theorem aj_:(prog.info? 44).map (fun i=>(i.zero,i.size,i.bytes))=some (some (.agg (aD (ay 4))),4,32):=by kernel_rfl
theorem ait (x:List Int)(hx:x.length=4):∃a b c d,x=[a,b,c,d]:=by
 match x,hx with
 | [a,b,c,d],_=>exact⟨a,b,c,d,rfl⟩
theorem aiu (x:List Int)(hx:x.length=4)(u:World):Sem.run prog (Instr.buildSlice 168 1 #[(0,.agg (aD x))]) u=.ok (.slice (some ⟨u.heap.size,0,none⟩) 1 1) (u.alloc (.cells (aD x) 44)):=by
 obtain⟨a,b,c,d,rfl⟩:=ait x hx
 kernel_rfl
theorem Ue {ops:Array Oper}{rest:List Oper}{op:Oper}{a:Act}{w:World}{Q:Exit→Act→World→Prop}(hgd:op.guard=none)(y:Operand)(ho:op.op=.buildSlice 168 1 #[(0,y)])(x:List Int)(hx:x.length=4)(hy:a.eval y=.agg (aD x))
 (k:wpList prog ops Q rest (a.put op.dst (.slice (some ⟨w.heap.size,0,none⟩) 1 1)) (w.alloc (.cells (aD x) 44))):wpList prog ops Q (op::rest) a w:=by
 refine wpList_plain hgd fun _ hK=>?_
 unfold Oper.wp execOp
 have e:(#[(0,y)]:Array (Nat×Operand)).map (fun(i,x)=>(i,a.eval x))=#[(0,.agg (aD x))]:=by simp[hy]
 simp only[ho,e,Sem.run_bind,aiu x hx,Result.andThen_ok,Sem.run_pure]
 exact hK _ _ k
theorem Uf {ops:Array Oper}{rest:List Oper}{o:Oper}{a:Act}{w:World}{Q:Exit→Act→World→Prop}(hgd:o.guard=none)(s y:Operand)
 (hop:o.op=Op.call { callee:=Callee.builtin Builtin.append,args:=#[s,y],argTypes:=#[168,168] }) (base n b:Nat) (va:Value) (ix:Nat→List Int) (x:List Int) (hs:a.eval s=va) (hy:a.eval y=.slice (some ⟨b,0,none⟩) 1 1) (ha:Own4 base w va n ix) (hb:bO w b 44 x) (hx:x.length=4) (he:ix n=x)
 (hn:n≤100000) (qP:base≤w.heap.size)
 (h:∀v' w',Own4 base w' v' (n+1) ix→w.grownBy w' va.ownBlock→wpList prog ops Q rest (a.put o.dst v') w'):wpList prog ops Q (o::rest) a w:=by
 obtain⟨i0,hi,hz0,hz1,hz2⟩:=info_parts aj_
 refine wpList_append_own (P:=prog) (w:=w) hgd s y 168 hop base 44 i0 (.agg (aD (ay 4))) 4 32 (by kernel_rfl) hi hz0 hz1 hz2 rfl (by decide) va n (CS ix n) hs ha ⟨b,0,none⟩ 1 1 (x.map (Value.int .i64)) hy (by simp[hx]) (fun j u hu=>?_) (fun u hu=>?_) (by unfold maxLen;omega) gA qP (fun v' w' h2 h3 _=>h v' w' ?_ h3)
 ·have hj:j<x.length:=by
   by_cases hj:j<x.length
   ·exact hj
   rw[List.getElem?_eq_none (by simp;omega)]at hu;cases hu
  rw[Addr.add_mid,Nat.zero_add,hb.cell j hj]
  simpa [aC,List.getD,hj] using hu
 ·obtain⟨z,_,rfl⟩:=List.mem_map.1 hu
  rfl
 unfold Own4
 show w'.ownsRow base 44 4 v' (n+1) (CS ix n++(ix n).map (Value.int .i64))
 rw[he]
 exact h2
def aiv (w:World)(X:List Int)(g en:Int)(e:Ending)(w':World):Prop:=e=.returned (.tuple #[.agg (aD X),.int .i64 g,.int .i64 en])∧w.grownBy w' none
theorem agz (u:World):Sem.run prog (Instr.build 44 #[]) u=.ok (.agg (aD (ay 4))) u:=run_build u 44 #[] (aD (ay 4)) (by kernel_rfl)
theorem aex {d r:List Int}(h:vJ d r=0):d.length=40∧r.length=40∧xU d=true:=by
 unfold vJ at h
 by_cases hl:d.length=40∧r.length=40
 ·rw[if_pos hl]at h
  rcases ho:xU d with _|_
  ·rw[ho]at h;simp at h
  exact⟨hl.1,hl.2,rfl⟩
 rw[if_neg hl]at h;omega
theorem yV (d r:List Int):(kR d r).length=4∧f_ (kR d r)=true:=qE (cS d) (eS d r) 8
theorem XM (vd vr:Value)(d r:List Int)(w:World)(hd:aS w vd d)(hr:aS w vr r)(hl:d.length≤1000000000000000000)(ni:r.length≤1000000000000000000)(iQ:jv d) :
 Calls prog 74 #[vd,vr] w (aiv w (Fe d r (kR d r)) (Jc d r (kR d r)) (vJ d r)):=by
 have hz4:=gM aes
 have hbd:=agz
 have BZ0:=Zd (bO.new w 44 (ay 4))
 have G0:=Zd (ak w (.cells (aD (ay 4)) 44) none)
 have WR:=Zd (fun W (g:w.grownBy W none)=>Oq vd vr d r W (aP hd g) (aP hr g) hl ni)
 by_cases he:vJ d r=0
 ·obtain⟨h1,h2,ho⟩:=aex he
  have e2:Fe d r (kR d r)=kR d r:=by unfold Fe;rw[if_pos he]
  have e3:Jc d r (kR d r)=Fa d (kR d r) 4:=by unfold Jc;rw[if_pos he]
  rw[e2,e3,he]
  rw[he]at WR
  have SG:=Zd (fun W (g:w.grownBy W none)=>Ot vd d (kR d r) W (aP hd g) h1 (yV d r).1 (yV d r).2)
  have BE:=Zd (fun W (g:w.grownBy W none) N ix vl (hN:0<N) (hN2:N≤100000) (uT:∀m,m<N→(ix m).length=4∧f_ (ix m)=true) (ha:ais W vl N ix)=>Ud vd vr vl d r N ix W (aP hd g) (aP hr g) h1 h2 iQ ha hN hN2 uT)
  have HX:=Zd (yV d r).1
  have FI:=Zs (∀w',w.grownBy w' none→aiv w (kR d r) (Fa d (kR d r) 4) 0 (.returned (.tuple #[.agg (aD (kR d r)),.int .i64 (Fa d (kR d r) 4),.int .i64 0])) w') (fun w' g=>⟨rfl,g⟩)
  generalize aiv w (kR d r) (Fa d (kR d r) 4) 0=T at *
  obtain⟨ad,cp,rfl,_,_⟩:=hd
  obtain⟨ar,cr,rfl,_,_⟩:=hr
  clear h1 h2 ho e2 e3 he hl ni iQ
  go_enter func74,ntmps74
  go_upto_region 1 with fail
  generalize hW1:w.alloc (.cells (aD (ay 4)) 44)=W1 at *
  have S1:W1.heap.size=w.heap.size+1:=by rw[←hW1];simp
  have A_:=Zd S1
  clear hW1 S1
  go_wp2_with fail
  refine(WR.out W1 G0.out).mono ?_
  rintro e w1 ⟨rfl,rfl⟩
  clear WR
  have BS:=Zs (iD w (w1.alloc (.cells (aD (ay 4)) 44)) 44 44 (ay 4) (oP (cS d) (eS d r) 0)) (⟨BZ0.out.aH (ak _ _ none),by have:=bO.new w1 44 (ay 4);rw[A_.out]at this;exact this,aB G0.out (ak _ _ none)⟩)
  have STEP:=Zd (fun k=>(show oP (cS d) (eS d r) (k+1)=(qU (cS d) (eS d r) (fun p=>(oP (cS d) (eS d r) k).set (k % 4) (p:Int)) 10).1 from rfl))
  have GD:=Zd (qE (cS d) (eS d r))
  rw[show kR d r=oP (cS d) (eS d r) 8 from rfl]at *
  clear G0
  go_wp2_with fail
  generalize w1.alloc (.cells (aD (ay 4)) 44)=W2 at *
  rw[A_.out]
  go_loopw [9] (fun i wr=>∃k:Nat,i=.int .i64 k∧k≤8∧Hid (iD w wr 44 44 (ay 4) (oP (cS d) (eS d r) k))) (fun i _=>8-(intOf i).toNat)
  case atStart=>exact⟨0,rfl,Nat.zero_le _,BS.out⟩
  case round=>
   obtain⟨k,rfl,hk,hM⟩:=hrel
   clear BS
   by_cases hk8:k<8
   ·have i1:(k:Int)<8:=gA
    have M0:=Zs (Own4 (w.heap.size+2) wr (.slice none 0 0) 0 (fun p=>(oP (cS d) (eS d r) k).set (k % 4) (p:Int))∧iD w wr 44 44 (ay 4) (oP (cS d) (eS d r) k)∧w.heap.size+2≤wr.heap.size) (⟨aew _ _ _,hM.out,by have:=hM.out.2.1.lt;omega⟩)
    have km:(k:Int).tmod 4=((k % 4:Nat):Int):=by rw[Int.tmod_eq_emod_of_nonneg gA];exact(Int.natCast_emod k 4).symm
    have kn:(k:Int) % 4=((k % 4:Nat):Int):=(Int.natCast_emod k 4).symm
    have k4:((k % 4:Nat):Int)<4:=gA
    have kl:k % 4<4:=gA
    obtain⟨n1,n2⟩:=GD.out k
    have LN:=Zd n1
    have GN:=Zd n2
    have EN:=STEP.out k
    have LY:=Zd (GD.out (k+1)).1
    clear hM n1 n2
    generalize hY:oP (cS d) (eS d r) (k+1)=Y at *
    have HY:=Zd hY
    have HEN:=Zd EN
    clear hY EN
    generalize oP (cS d) (eS d r) k=N at *
    generalize k % 4=T4 at *
    go_wp2_with fail
    go_loopw [10,11] (fun vo i wr=>∃p:Nat,i=.int .i64 p∧p≤10∧Hid (Own4 (w.heap.size+2) wr vo p (fun p=>N.set T4 (p:Int))∧iD w wr 44 44 (ay 4) N∧w.heap.size+2≤wr.heap.size)) (fun _ i _=>10-(intOf i).toNat)
    case atStart=>exact⟨0,rfl,Nat.zero_le _,M0.out⟩
    case round=>
     obtain⟨p,rfl,hp,hI⟩:=hrel
     clear M0
     by_cases ai2:p<10
     ·have j1:(p:Int)<10:=gA
      have BB:=Zd hI.out.2.1.2.1
      have FA:=dL wr 44 4 N LN.out
      have BF:=Zd FA.1
      have BX:=Zd FA.2.1
      have OA:=Zd (hI.out.1.aH FA.2.2)
      have MA:=Zd (iD.aH hI.out.2.1 FA.2.2)
      have ZA:=Zd (Nat.le_trans hI.out.2.2 FA.2.2.size)
      have LZ:=Zd hI.out.2.2
      have LB:=Zd (fun g (h:u10.ownBlock=some g)=>(World.ownsRow.lt hI.out.1 g h).2)
      clear FA hI
      go_upto_region 13 with(first|refine lA BB.out (by rw[LN.out];exact iX) ?_|refine sA N BF.out (by rw[LN.out,au]) (by rw[au];exact iX) ?_)
      (try simp only[Act.put])
      generalize bT (wr.alloc _) wr.heap.size N=W3 at *
      generalize wr.heap.size=bt at *
      have ct:=BX.out.cell T4 (by rw[LN.out];exact kl)
      have ft:=BX.out.free T4
      have gs:=aF W3 ⟨bt,T4,none⟩ (.int .i64 (p:Int))
      have BS:=Zd (BX.out.set T4 (p:Int))
      have OS:=Zd (show Own4 (w.heap.size+2) (W3.setCell ⟨bt,T4,none⟩ (.int .i64 (p:Int))) u10 p (fun p=>N.set T4 (p:Int))from by
       refine World.ownsRow.kept OA.out gs ?_
       rcases e:u10.ownBlock with _|g
       ·exact .inl rfl
       right
       intro e'
       have h1:=LB.out g e
       have h2:g=bt:=Option.some.inj e'
       omega)
      have MS:=Zs (iD w (W3.setCell ⟨bt,T4,none⟩ (.int .i64 (p:Int))) 44 44 (ay 4) N) (⟨MA.out.1.aJ gs (by have:=LZ.out;simp;omega),MA.out.2.1.aJ gs (by have:=LZ.out;simp;omega),aG MA.out.2.2 gs (by have:=LZ.out;simp;omega)⟩)
      have ZS:=Zd (Nat.le_trans ZA.out gs.size)
      have LX:=Zs ((N.set T4 (p:Int)).length=4) (by simpa using LN.out)
      clear gs OA
      go_upto_region 14 with fail
      generalize W3.setCell ⟨bt,T4,none⟩ (.int .i64 (p:Int))=W4 at *
      clear ct ft
      have ga:=ak W4 (.cells (aD (N.set T4 (p:Int))) 44) none
      have OA:=Zd (OS.out.aH ga)
      have MA:=Zd (iD.aH MS.out ga)
      have ZA:=Zd (Nat.le_trans ZS.out ga.size)
      have BL:=Zd (bO.new W4 44 (N.set T4 (p:Int)))
      have HXE:=Zs ((fun p:Nat=>N.set T4 (p:Int)) p=N.set T4 (p:Int)) (rfl)
      clear ga
      generalize hX1:N.set T4 (p:Int)=X1 at BS LX BL HXE
      rw[hX1]at OA MA ZA
      clear hX1
      go_wp2_with (first|refine lA BS.out (by rw[LX.out];exact iX) ?_|refine Ue rfl _ rfl X1 LX.out rfl ?_|(at_builtin;refine Uf rfl _ _ rfl (w.heap.size+2) p W4.heap.size _ (fun p=>N.set T4 (p:Int)) X1 rfl rfl OA.out BL.out LX.out HXE.out gA ZA.out ?_))
      intro v5 w5 h5 g5
      have hlt:∀b,u10.ownBlock=some b→w.heap.size+2≤b:=fun b hb=>(World.ownsRow.lt OA.out b hb).1
      have N5:=Zd (show Own4 (w.heap.size+2) w5 v5 (p+1) (fun p=>N.set T4 (p:Int))∧iD w w5 44 44 (ay 4) N∧w.heap.size+2≤w5.heap.size from⟨h5,by
       rcases eb:u10.ownBlock with _|b
       ·rw[eb]at g5;exact iD.aH MA.out g5
       have:=hlt b eb
       rw[eb]at g5
       exact⟨MA.out.1.aJ g5 gA,MA.out.2.1.aJ g5 gA,aG MA.out.2.2 g5 gA⟩,Nat.le_trans ZA.out g5.size⟩)
      clear h5 g5 hlt BL BS HXE
      go_wp2_with fail
      go_roundw
      case rel=>exact⟨p+1,by go_num,gA,N5.out⟩
      case measure=>simp[intOf];omega
     obtain rfl:p=10:=gA
     have A1:=Zd (hI.out.1.arr gA (fun i hi=>by simpa using LN.out))
     have B1:=Zd (BE.out wr hI.out.2.1.2.2 10 _ u10 gA gA (fun m hm=>⟨by simpa using LN.out,Bd GN.out _ _ gA gA⟩) A1.out)
     rw[←HEN.out]at B1
     have MI:=Zd hI.out.2.1
     clear hI
     rw[show((10:Nat):Int)=10 from rfl]
     go_wp2_with fail
     refine B1.out.mono ?_
     rintro e w6 ⟨rfl,g6⟩
     have M6:=Zd (iD.aH MI.out g6)
     have B6:=Zd M6.out.2.1
     have PU:=bB (rs':=Y) B6.out (by rw[LY.out,LN.out])
     have M7:=Zs (iD w (bT w6 (w.heap.size+1) Y) 44 44 (ay 4) Y) (⟨M6.out.1.aJ PU.2 gA,PU.1,aG M6.out.2.2 PU.2 gA⟩)
     clear PU g6 B1
     go_upto_region 7 with(first|refine sA Y B6.out (by rw[LY.out,LN.out]) (by rw[LN.out];exact iX) ?_)
     (try simp only[Act.put])
     generalize bT w6 (w.heap.size+1) Y=W7 at *
     go_wp2_with fail
     go_roundw
     case rel=>exact⟨k+1,by go_num,gA,by rw[HY.out];exact M7.out⟩
     case measure=>simp[intOf];omega
   obtain rfl:k=8:=gA
   have BX:=Zd hM.out.2.1
   have BZ:=Zd hM.out.1
   have GG:=Zd hM.out.2.2
   have NE:=Zs (w.heap.size+1≠w.heap.size) gA
   clear hM hz4 hbd
   generalize oP (cS d) (eS d r) 8=X at *
   generalize Fa d X 4=G at *
   rw[show((8:Nat):Int)=8 from rfl]
   go_wp2_with fail
   refine wp_region_held_drew (S:=fun w'=>bO w' (w.heap.size+1) 44 X) (by kernel_rfl) (BX.out.aH (aZ _)) (fun aj=>?_)
   refine bV (hy:=by intro w' bL;exact yA bL (by rw[HX.out];exact iX)) (v:=.agg (aD X)) 0 aj ?_
   refine bV 1 aj ?_
   refine bV (hy:=by intro w' bL;exact yA bL (by rw[HX.out];exact iX)) (v:=.agg (aD X)) 2 aj ?_
   refine fI 3 fun K hK=>?_
   (try simp only[sZ])
   go_simp
   refine(SG.out _ (aB GG.out (aZ wr))).mono ?_
   rintro e wk ⟨rfl,gk⟩
   have GK:=Zd gk
   clear gk
   go_wp2_with fail
   refine hK.out _ _ (aj.aH GK.out) (fun aj=>?_)
   (try simp only[sZ])
   refine fI 4 fun K hK=>?_
   (try simp only[sZ])
   have BZ6:=Zd ((BZ.out.aH (aZ wr)).aH GK.out)
   refine dW rfl 44 _ _ rfl w.heap.size (ay 4) X rfl rfl BZ6.out (by rw[HX.out,au]) (by rw[au];exact iX) ?_
   have PU:=bB (rs':=X) BZ6.out (by rw[HX.out,au])
   have eO:=Zd (lS PU.1 (by rw[HX.out];exact iX))
   have FF:=Zd (FI.out _ (aG (aB (aB GG.out (aZ wr)) GK.out) PU.2 (Nat.le_refl _)))
   have HH:=Zd (aj.aJ PU.2 NE.out)
   clear PU BZ6
   generalize bT wk w.heap.size X=w7 at *
   refine hK.out _ _ HH.out (fun aj=>?_)
   (try simp only[sZ])
   refine bV 5 aj ?_
   refine bV 6 aj ?_
   refine lM ?_
   clear aj HH
   go_wp2_with fail
   refine bodyPost_ret (v:=.tuple #[.agg (aD X),.int .i64 G,.int .i64 0]) ?_ rfl FF.out
   simp[results,results74,asAddr,Act.put,eO.out]
 have e2:Fe d r (kR d r)=ay 4:=by unfold Fe;rw[if_neg he]
 have e3:Jc d r (kR d r)=0:=by unfold Jc;rw[if_neg he]
 rw[e2,e3]
 have hb:(vJ d r==0)=false:=by simp[he]
 obtain⟨ad,cp,rfl,_,_⟩:=hd
 obtain⟨ar,cr,rfl,_,_⟩:=hr
 clear e2 e3 he hl ni iQ
 generalize vJ d r=en at *
 go_enter func74,ntmps74
 go_upto_region 1 with fail
 generalize w.alloc (.cells (aD (ay 4)) 44)=W1 at *
 go_wp2_with fail
 refine(WR.out W1 G0.out).mono ?_
 rintro e w1 ⟨rfl,rfl⟩
 clear WR
 go_wp2_with (first|refine sA (ay 4) BZ0.out rfl (by rw[au];exact iX) ?_)
 have PU:=bB (rs':=ay 4) BZ0.out rfl
 have eO:=lS PU.1 (by rw[au];exact iX)
 have GF:=Zd (aG G0.out PU.2 (Nat.le_refl _))
 refine bodyPost_ret (v:=.tuple #[.agg (aD (ay 4)),.int .i64 0,.int .i64 en]) ?_ rfl ⟨rfl,GF.out⟩
 simp[results,results74,asAddr,Act.put,eO]
theorem Ui (bx:Nat)(x:Int)(w:World)(hx:jJ w bx x)(h1:-9223372036854775808<x)(h2:x<9223372036854775808) :
 Calls prog 60 #[.pointer (some ⟨bx,0,none⟩)] w (lY w (.bool true)):=by
 obtain⟨vx,lx,x0,x1,xb,xs,xw,xt,xv,xl⟩:=fC hx
 have L:=Zd (yR vx lx w xs xw xt gA)
 have HV:=Zs (0≤val lx∧val lx<9223372036854775808) (by rw[xv];omega)
 have F:=Zs (lY w (.bool true) (.returned (.bool true)) w) (⟨rfl,rfl⟩)
 generalize lY w (.bool true)=T at *
 generalize val lx=z at *
 clear xs xw xt xv hx x0 h1 h2
 go_enter func60,ntmps60
 go_wp2_with fail
 refine L.out.mono ?_
 rintro e w1 ⟨n,n1,n2,rfl,rfl⟩
 have n64:(n:Int)<64:=by
  rcases Nat.lt_or_ge n 64 with h|h
  ·omega
  exfalso
  obtain⟨hz0,hz⟩:=HV.out
  obtain⟨b1,b2,b3⟩:=n2
  rcases Int.lt_or_le 0 z with hp|hp
  ·have b4:=(b3 hp).2
   obtain⟨d,hd⟩:∃d,n-1=63+d:=⟨n-1-63,gA⟩
   have e63:(2:Int)^63=9223372036854775808:=by decide
   rw[hd,Int.pow_add,e63]at b4
   have:=Af d
   generalize (2:Int)^d=t at *
   omega
  have:=b2 gA
  omega
 clear L n2
 go_wp2_with fail
 exact F.out
end Go.Proofs.YtbaccaipcimlhaaGreatDoor
