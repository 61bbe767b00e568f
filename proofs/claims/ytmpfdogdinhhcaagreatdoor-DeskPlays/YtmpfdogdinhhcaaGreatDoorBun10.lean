import Derived.Test.YtmpfdogdinhhcaaGreatDoorBun9
import Derived.Test.YtmpfdogdinhhcaaGreatDoorBun5
namespace Go.Proofs.YtmpfdogdinhhcaaGreatDoor
open Go.RowKit
open Tryz
set_option linter.unusedSimpArgs false
set_option linter.unusedVariables false
set_option maxHeartbeats 2000000
set_option maxRecDepth 100000
set_option linter.defProp false
variable {w w' u:World}{n b k j:Nat}{l p r:List Int}{x v':Value}{T:TypeId}{s:Bool}{y:List Value}{z:Option Nat}{i:Int}{Q:Exit→Act→World→Prop}{a:Act}{o:Oper}{Z:Nat→Prop}{f:Nat→Int}
def kT.own (b:kT w l s w')(a:w'.grownBy u z)(d:∀c,z=some c->w.heap.size+1+1<=c):kT w l s u:=by
 rcases z with _|c
 .exact b.aC a
 have:=d c rfl;exact⟨b.1.aH a gO,b.2.1.aH a gO,aG b.2.2 a gO⟩
def kT.all {m:L}{t:Bool}(a:kT w l s w')(b:l.length=101)(c:m.length=101):kT w m t (dz w' w.heap.size 0 (aP m t))/\w'.grownBy (dz w' w.heap.size 0 (aP m t)) (some w.heap.size):=by have:=a.1.dQ (m:=m) (t:=t) b c;exact⟨⟨this.1,a.2.1.aH this.2 gO,aG a.2.2 this.2 (Q6 _)⟩,this.2⟩
def ak9 (c:bY w n T l)(b:w.grownBy w' z)(d:∀a,z=some a->n≠a):bY w' n T l:=by
 rcases z with _|a
 .exact c.aC b
 exact c.aH b (d a rfl)
def VD (a:List Int)(c:Bool)(f:a.length=101)(af:iI a)(d:bJ a=true)(e:W):Calls prog 17 #[bL a c] e (fu e (qV a) (sG a c) (qI a) (qg a)):=by
 have M0:=Zd<|kT.new e a c;have J:=Zd λwr=>fH a c f af wr;rw[d]at J;have DI:=Zd λwr=>Qe (bM a 0 8) (aT _ _ _) (jM d) wr;have EX:=Zd λwr=>Qd (pG (bM a 0 8)) (pV _) 32440 wr;rw[show wF (pG (bM a 0 8)) 32440=jN a from rfl]at EX;have H:=Zd (show ∀(b:Nat),b<2->∀wr,Calls prog 36 #[bL (j_ (jN a) a b) c,I (b:Int)] wr (fu wr (nD (j_ (jN a) a b) b) c (nN (j_ (jN a) a b) b) 0)from λb l wr=>by
  have C:=uq (jN a) a f (rP d) d b gO;have i:=qd (jN a) a f b;have U:Et (j_ (jN a) a b) (b:Int):=⟨C,gO,gO⟩;have g:=GI (j_ (jN a) a b) c (b:Int) i (og i C) C gO gO wr;rw[(iJ (s:=c) U).2.1,(iJ (s:=c) U).2.2.2]at g;exact g)
 have Z:=Zd (λ(b:Nat) (l:b<2)=>show(nN (j_ (jN a) a b) b).length=40 by
  have C:=uq (jN a) a f (rP d) d b gO;rw[(iJ (s:=true) (l:=j_ (jN a) a b) (half:=(b:Int)) ⟨C,gO,gO⟩).2.2.1,jk])
 have ON:=Zd λ(b:Nat) (l:b<=2)=>(Ae (jN a) a f (rP d) d b l).1;have SN:=Zd (λ(b:Nat) (l:b<2)=>show(qU (jN a) (nD (j_ (jN a) a b) b) (nN (j_ (jN a) a b) b)).length<=40 by
  have:=J8 (jN a) (bM (nD (j_ (jN a) a b) b) 8 8) (nN (j_ (jN a) a b) b);rw[Z.out b l]at this;exact this)
 have o:=Zd λ(b:Nat)=>qd (jN a) a f b;have M:=Zd λ(b:Nat)=>Dk (j_ (jN a) a b) (qd (jN a) a f b) (b:Int);have aa:=Zd (show ∀g i,fO e.heap.size i g (Eu (jN a) a 2)->e.grownBy i none->fu e (qV a) (sG a c) (qI a) (qg a) (.returned (.tuple #[bL (j_ (jN a) a 2) c,g,I 0])) i from λg i U i=>
  ⟨g,by rw[(oh (s:=c) d).1,(oh (s:=c) d).2.1,(oh (s:=c) d).2.2.2],by rw[(oh (s:=c) d).2.2.1];exact U,i⟩)
 have E:=Zs ((jN a).length=9) (CJ _ _);have v:=Zd<|pV (bM a 0 8);have MK:=Zd λ(b:Nat) (l:b<2) g wr (ag:aY wr g (nN (j_ (jN a) a b) b)) (sh:rD g (nN (j_ (jN a) a b) b))=>pF (jN a) (bM (nD (j_ (jN a) a b) b) 8 8) E (aT _ _ _) g (nN (j_ (jN a) a b) b) wr ag sh (by rw[Z.out b l];omega);have S1:=Zd λ(b:Nat)=>show jd (nD (j_ (jN a) a b) b) 8 (GH (jN a) (bM (nD (j_ (jN a) a b) b) 8 8) (nN (j_ (jN a) a b) b))=j_ (jN a) a (b+1)from rfl;have S2:=Zd λ(b:Nat)=>show Eu (jN a) a b++zn (jN a) (bM (nD (j_ (jN a) a b) b) 8 8) (nN (j_ (jN a) a b) b)=Eu (jN a) a (b+1)from rfl;have E0:=Zs (j_ (jN a) a 0=a) (rfl);have E1:=Zs (Eu (jN a) a 0=[]) (rfl);have HL:=Zd f;have CL:=Zd<|aJ f c;have AL:=Zd<|bU.all c f;have P0:=Zd<|bU.part (l:=a) c 0 8 gO;have ZL:=Zd<|aJ (ak 101) false;have hz:=dM;clear d af f;generalize fu e (qV a) (sG a c) (qI a) (qg a)=ah at *
 unfold bL at hz aa J H ⊢;generalize jN a=A at *
 generalize bM a 0 8=k8 at *
 generalize pG k8=G at *
 generalize Bu G 32440=x1 at *
 generalize zh k8=x2 at *
 go_enter func17,ntmps17;go_upto_region 1 with fail;generalize (e.alloc (.cells (aP a c).toArray 53)).alloc (.cells (aP (au 101) false).toArray 53)=W0 at *
 clear hz;go_wp2_with (refine lV 0 M0.1 aK (by rw[CL.out];omega) AL ?_);refine(J W0).mono ?_;rintro i W1 ⟨rfl,g1⟩;have O:=Zd<|M0.aC g1;clear M0 g1 J;go_wp2_with (first|refine lV 0 O.1 dX (by rw[CL.out];omega) P0 ?_);refine(DI W1).mono ?_;rintro i R ⟨rfl,j⟩;have⟨b1,b2,b3⟩:=dG R 69 9 G v;have X:=Zd b1;have m:=Zd b2;have p:=Zd<|(O.aC j).aC b3;have g:=Zs (e.heap.size+1+1<=R.heap.size) ((O.aC j).2.1.lt);rw[oV]at X m p;clear j DI b1 b2 b3 O P0;go_upto_region 4 with(first|refine sA G X (by rw[v.out,ak]) (by rw[ak];exact bZ) ?_);clear X;generalize b_ _ R.heap.size G=W3 at *
 generalize R.heap.size=r at *
 go_wp2_with (first|refine lA m (by rw[v.out];exact bZ) ?_);refine(EX W3).mono ?_;rintro i W4 ⟨rfl,k⟩;have t:=Zd<|m.aC k;have q:=Zd<|p.aC k;have PU:=bF (rs':=A) t (by rw[E.out,v.out]);have u:=Zd PU.1;have w:=Zd<|q.own PU.2 (λd i=>by cases i;exact g);have y:=Zs (r+1<=(b_ W4 r A).heap.size) (u.lt);clear k PU EX m p q;go_upto_region 6 with(first|refine sA A t (by rw[E.out,v.out]) (by rw[v.out];exact bZ) ?_);clear t;generalize b_ W4 r A=W5 at *
 go_wp2_with fail;go_loopw [7,8] (λn f wr=>∃b:Nat,f=I b/\b<=2/\Hid (fO (r+1) wr n (Eu A a b))/\Hid (kT e (j_ A a b) c wr)/\Hid (bY wr r 69 A)/\Hid (r+1<=wr.heap.size)) (λ_ f _=>2-(intOf f).toNat)
 case atStart=>exact⟨0,rfl,QN _,by rw[E1.out];exact bN _ _,by rw[E0.out];exact w,u,y⟩
 case round=>
  obtain⟨b,rfl,l,hO,s,hB,hN⟩:=hrel;clear w u y;by_cases ab:b<2
  .have ai:(b:Int)<2:=gO;have D:=Zd<|bU.all c (o b);have n:=Zd<|aJ (o b) c;have ac:=Zd<|H b ab wr;clear H;go_upto_region 10 with fail;go_wp2_with (first|refine lV 0 s.1 aK (by rw[n.out];omega) D ?_);refine ac.mono ?_;rintro i w2 ⟨v2,rfl,o2,j⟩;have O2:=Zd<|hO.aC j;have M2:=Zd<|s.aC j;have m:=Zd<|hB.aC j;have ae:=Zd<|YM hN j.size;have X2:=Zd<|o2.base hN;clear hO s hB j o2 ac D;have x:=M2.all (m:=nD (j_ A a b) b) (t:=c) (o b) (M b);have p:=Zd x.1;have O3:=Zd<|O2.out.bH x.2 (by have:=g.out;omega);have X3:=Zd<|X2.out.bH x.2 (by have:=g.out;omega);have Y:=Zd<|m.out.aH x.2 (by have:=g.out;omega);have N3:=Zd<|YM ae x.2.size;have K:=Zd<|bO (nD (j_ A a b) b) c;have F:=Zd<|aJ (M b) c;clear x O2 X2 m ae hN;unfold bL;go_upto_region 11 with(first|refine sV 0 (aP (nD (j_ A a b) b) c) M2.1 (by rw[n.out,F.out];omega) (by rw[F.out];exact aK) K ?_);clear M2 K;generalize dz w2 e.heap.size 0 (aP (nD (j_ A a b) b) c)=w3 at *
   have P3:=Zd<|bU.part (l:=nD (j_ A a b) b) c 8 8 (by rw[M.out b];omega);have ad:=Zd<|MK b ab v2 w3 X3.ints X3.xJ;have PL:=Zd<|sS A (bM (nD (j_ A a b) b) 8 8) (nN (j_ A a b) b);have Q1:=Zd<|S1 b;have Q2:=Zd<|S2 b;have LL:=Zd<|M b;have OL:=Zd<|ON b l;have SL:=Zd<|SN b ab;unfold qU at SL;clear MK X3 Z;generalize GH A (bM (nD (j_ A a b) b) 8 8) (nN (j_ A a b) b)=z at *
   generalize zn A (bM (nD (j_ A a b) b) 8 8) (nN (j_ A a b) b)=LX at *
   generalize Nu A (bM (nD (j_ A a b) b) 8 8) (nN (j_ A a b) b)=x3 at *
   generalize nD (j_ A a b) b=EM at *
   go_wp2_with (first|refine lA Y (by rw[E.out];exact bZ) ?_|refine lV 8 p.1 dX (by rw[F.out];omega) P3 ?_);refine ad.mono ?_;rintro i w4 ⟨v4,rfl,o4,k⟩;have O4:=Zd<|O3.aC k;have q:=Zd<|p.aC k;have t:=Zd<|Y.aC k;have N4:=Zd<|YM N3 k.size;have X4:=Zd<|o4.base N3;clear O3 p Y N3 k o4 ad P3;have B:=q.1.put 8 z (by rw[PL.out,LL.out];omega);have w:=Zd<|q.put 8 z (by rw[PL.out,LL.out];omega);have P:=Zd<|O4.out.bH B.2 (by have:=g.out;omega);have X5:=Zd<|X4.out.bH B.2 (by have:=g.out;omega);have u:=Zd<|t.out.aH B.2 (by have:=g.out;omega);have y:=Zd<|YM N4 B.2.size;have IP:=Zd<|dO z;have IL:=Zs ((aQ z).length=8) (by rw[aN];exact PL);rw[Q1.out]at w;clear B O4 X4 t N4 Q1;go_upto_region 12 with(first|refine sV 8 (aQ z) q.1 (by rw[IL.out,F.out];omega) (by rw[IL.out];exact dX) IP ?_);clear q IP IL;generalize dz w4 e.heap.size 8 (aQ z)=w5 at *
   have LB:=Zs (((Eu A a b).length+LX.length)*8<=140737488355328) (by rw[OL.out];have:=SL.out;omega);have XI:=Zd X5.ints;have XS:=Zd X5.xJ;go_wp2_with (at_builtin;refine dH (by rfl) _ _ rfl (r+1) _ v4 (Eu A a b) LX rfl rfl P XI XS LB y ?_);intro v6 w6 h6 T;rw[Q2.out]at h6;have Q:=Zd h6;have M6:=Zd<|w.own T (λd i=>by have:=(P.lt d i).1;have:=g.out;omega);have B6:=Zd<|ak9 u T (λd i=>by have:=(P.lt d i).1;omega);have N6:=Zd<|YM y T.size;clear h6 T P w u y X5 Q2;go_wp2_with fail;go_roundw
   case rel=>exact⟨b+1,by go_num,gO,Q,M6,B6,N6⟩
   case measure=>simp[intOf];omega
  obtain rfl:b=2:=gO;have D:=Zd<|bU.all c (o 2);have n:=Zd<|aJ (o 2) c;have K:=Zd<|bO (j_ A a 2) c;have x:=Zd<|s.fin (j_ A a 2) c (o 2);have Q:=Zd<|hO.out.bH (s.out.2.1.dQ (m:=j_ A a 2) (t:=c) (ak 101) (o.out 2)).2 (by have:=g.out;omega);have B:=Zd<|aa.out _ _ (Q.out.base (b':=e.heap.size) (by have:=g.out;omega)) x.2;clear aa Q H MK;generalize j_ A a 2=z at *
  generalize Eu A a 2=L at *
  go_wp2_with (first|refine lV 0 s.1 aK (by rw[n.out];omega) D ?_|refine sV 0 (aP z c) s.2.1 (by rw[ZL.out,n.out];omega) (by rw[n.out];exact aK) K ?_);have F:=qG x.1 (by rw[n.out];exact aK);refine QB (v:=.tuple #[.agg (aP z c).toArray,_,I 0]) ?_ rfl B;simp[results,results17,asAddr,Act.put,F]
def awn (a:aL p=false):vV l p=false:=by
 rcases q:vV l p with _|_
 .rfl
 unfold vV P_ at q;simp only[VL]at q;rw[q.2]at a;cases a
def awo (a:aL p=false):¬qL l p:=λb=>by rw[abj b]at a;cases a
def aak {W:World}(o:TabA W 5 gro 15)(n:TabA W 4 widq 8)(p:TabA W 3 gains 8):uX 91 W:=λc f a g b k i d e e e j=>by
 by_cases h:b.length=80
 .rcases hr:aL b with _|_
  .exact Pm k c f a.len g b d e j (awo hr) (λl m=>Gn l c f a.len g b (aR d m) e h a.mem (awn hr))
  exact Y2 k c f a.len g b d e j (YK (eY n i)) (eY n i) (eY p i) (Rw (eY o i)) (ag_ a h hr)
 exact Pm k c f a.len g b d e j (λi=>h i.1) (λl m=>Gm l c f a.len g b (aR d m) e h)
def afQ {W:World}(o:TabA W 5 gro 15)(n:TabA W 4 widq 8)(p:TabA W 3 gains 8):uZ 92 W:=λj m d c e a f b g h h i=>by
 have k:=amg (YK (eY n b)) (eY p b) (Rw (eY o b));have l:=λe a o (r:f.grownBy o none) p q (s:List.length a<=140737488351232)=>UQ e a o p q gO (eY (eY n b) r);by_cases b:xV a=0
 .exact OG f k l e a g h i j m d (og d c) c b
 exact OD f k l e a g h i j m d (og d c) c b
def amn (W:World):zq 94 W:=λc d b a e f=>Ve c d b a e
def amw {W:World}{m:Addr}(q:TabS W 2 m n gro 15){o:Addr}(r:TabS W 1 o b wids 8){p:Addr}(s:TabS W 0 p k gains 8):uX 15 W:=λd i a j c l g e f f f h=>by
 by_cases f:c.length=80
 .rcases hr:aL c with _|_
  .exact MH l d i a.len (XW a) j c e gO h f a.mem (awn hr)
  exact aaj o b m n p k l d i a.len (XW a) j c e gO h (iq r g) (iq q g) (iq s g) (ag_ a f hr)
 exact Mx l d i a.len (XW a) j c e gO h f
def arW (W:World):zq 17 W:=λc d b a e f=>VD c d b (og b a) a e
def awm {W:World}{i:Addr}(u:TabS W 2 i n gro 15){h:Addr}(t:TabS W 1 h b wids 8){j:Addr}(w:TabS W 0 j k gains 8):uZ 16 W:=λp s e d f a g c l m m o=>by
 have q:=Ik g h b (iq t c) i n (iq u c) j k (iq w c);have r:=λf a i (v:g.grownBy i none) j u (x:List.length a<=140737488351232)=>Qr f a i j u gO h b (iq (iq t c) v);by_cases c:xV a=0
 .exact Qg g q r f a l m o p s e (og e d) d c
 exact Qf g q r f a l m o p s e (og e d) d c
def VF (a:W):Calls prog 13 #[] a (jB a (gu q9 false)):=by
 have l:=Zd<|h_.new a (au 225) false;have n:=Zd<|aj a (.cells (bV (au 225) false).toArray 55) none;have d:=Zd λb=>qF b;have e:=Zd<|bK zC false;have p:=Zd<|bK (ak 225) false;have o:=Zd<|gG q9 false;have r:=jJ;have f:=Zs (∀b,a.grownBy b none->jB a (gu q9 false) (.returned (gu q9 false)) b) (λb b=>⟨rfl,b⟩);generalize jB a (gu q9 false)=t at *
 have c:=Zd λj rest i g a b=>@xg j rest i g a b;unfold jB at d;unfold bL at c d;unfold gu at r f c;go_enter func13,ntmps13;go_upto_region 1 with fail;generalize a.alloc (.cells (bV (au 225) false).toArray 55)=u at *
 go_wp2_with fail;refine(d _).mono ?_;rintro w v ⟨rfl,k⟩;have b:=Zd<|l.aC k;have j:=b.dQ (m:=q9) (t:=false) (ak 225) zC;have i:=Zd j.1;have m:=Zd<|f _ (aG (ay n k) j.2 (Q6 _));unfold h_ at b i;generalize aP iY false=s at *
 generalize bV q9 false=g at *
 go_wp2_with (first|refine c _ _ _ _ _ _ rfl _ rfl rfl ?_|refine sV 0 g b (by rw[p.out,e.out];omega) (by rw[e.out];exact dN) o ?_);have q:=qG i (by rw[e.out];exact dN);refine QB (v:=.agg g.toArray) ?_ rfl m;simp[results,results13,asAddr,Act.put,q]
def crd_deskPlays (W:World)(a:TabA W 5 gro 15)(c:TabA W 4 widq 8)(e:TabA W 3 gains 8)(i:Addr)(l:Nat)(f:TabS W 2 i l gro 15)(j:Addr)(m:Nat)(g:TabS W 1 j m wids 8)(k:Addr)(n:Nat)(h:TabS W 0 k n gains 8)(b:Value)(d:Nat)(L:Nat->Qj)(o:al9 W b d L):Calls prog 3 #[b] W λi j=>i=.returned (.bool true)/\Below W.heap.size W j:=
 Oo W (aak a c e) (afQ a c e) (amn W) (amx W) (λa c=>yj a) (amw f g h) (awm f g h) (arW W) (λa c=>VF a) (λa c=>qF a) b d L o
end Go.Proofs.YtmpfdogdinhhcaaGreatDoor
