import Derived.Test.YtmpfdogdinhhcaaGreatDoorBun3
import Derived.OwnWalk
namespace Go.Proofs.YtmpfdogdinhhcaaGreatDoor
open Go.RowKit
open Tryz
set_option linter.unusedSimpArgs false
set_option linter.unusedVariables false
set_option maxHeartbeats 4000000
set_option maxRecDepth 100000
set_option linter.defProp false
variable {w w' u:World}{n b k j:Nat}{l p r:List Int}{x v':Value}{T:TypeId}{s:Bool}{y:List Value}{z:Option Nat}{i:Int}{Q:Exit→Act→World→Prop}{a:Act}{o:Oper}{Z:Nat→Prop}{f:Nat→Int}
def Mf {c:Addr}(e:jI w (.slice (some c) n b) l)(a:Nat)(i:a<=l.length):jI w (.slice (some c) a b) (l.take a):=by
 have⟨g,h,f⟩:=wO e;have d:(l.take a).length=a:=by simp;omega
 refine⟨some c,b,by rw[d],by rw[d];omega,λ_=>⟨c,rfl,λc a=>?_⟩⟩;rw[d]at a;rw[f c gO];simp[aB,List.getD,KC,a]
def Ru (c:yP l)(b:Nat):yP (l.take b):=λa=>by
 by_cases d:a<b
 .have:=c a;simpa [aB,List.getD,KC,d] using this
 rw[dI _ a (by simp;omega)];omega
def Rv (a:L):qJ (a.take 14) 14=qJ a 14:=by unfold qJ;rw[oI (a.take 14) a 14 (λa a=>by simp[aB,List.getD,KC,a])]
def YJ (b:Addr)(d c:Nat)(a:W):Calls prog 154 #[.slice (some b) d c] a λf e=>f=.returned (.func (.func 201) #[] #[.pointer (S a.heap.size),.pointer (S (a.heap.size+1))])/\e.cell? (A a.heap.size 0)=some (.slice (some b) d c)/\e.heap[a.heap.size+1]?=some (.cells #[I 0] 3 (0,0))/\a.grownBy e none:=by have j:=aI (dF a (.cells #[.slice (some b) d c] 32)) 0;have i:=Zs (a.grownBy ((a.alloc (.cells #[.slice (some b) d c] 32)).alloc (.cells #[I 0] 3)) none) (ay (aj _ _ none) (aj _ _ none));have k:=aU (aj (a.alloc (.cells #[.slice (some b) d c] 32)) (.cells #[I 0] 3) none) j;have e:=dF (a.alloc (.cells #[.slice (some b) d c] 32)) (.cells #[I 0] 3);rw[show(a.alloc (.cells #[.slice (some b) d c] 32)).heap.size=a.heap.size+1 by simp]at e;have f:=Zd k;have g:=Zd e;go_enter func154,ntmps154;go_wp2_with fail;go_ret;exact⟨rfl,f,g,i⟩
structure Y3 (w:World) (bp cb ca base g cap n:Nat) (v:Value) (Z rs:L) (wr:World):Prop where
 rz:bY wr w.heap.size 79 Z
 pk:bY wr bp 79 rs
 fl:m_ base wr (.slice (some ⟨g,0,none⟩) 25 cap) 25 (Gi bp 25)
 tk:Ba w cb ca n v wr
 o1:w.heap.size<bp
 o2:bp<cb
 o3:cb<ca
 o4:ca<base
def Y3.aC {e d f:Nat}(a:Y3 w n b k j e d f x l p w')(c:w'.grownBy u none):Y3 w n b k j e d f x l p u:=
 ⟨a.rz.aC c,a.pk.aC c,a.fl.aC c,a.tk.aC c,a.o1,a.o2,a.o3,a.o4⟩
def Y3.take {c e g f:Nat}(a:Y3 w n b k j c e g x l p w')(d:zM (λg=>g=k) w' u)(h:Ba w b k f x u):Y3 w n b k j c e f x l p u:=by have i:=a.o1;have m:=a.o2;have o:=a.o3;have q:=a.o4;exact⟨a.rz.trp d gO,a.pk.trp d gO,a.fl.trp d (λc a=>gO),h,i,m,o,q⟩
def Y3.set {e f g:Nat}(a:Y3 w n b k j e f g x l p w')(c:Nat)(d:Int):Y3 w n b k j e f g x l (p.set c d) (w'.setCell (A n c) (I d)):=by have h:=a.o1;have i:=a.o2;have m:=a.o3;have o:=a.o4;have gs:=aD w' (A n c) (I d);refine⟨a.rz.aH gs (by simp;omega),a.pk.set c d,a.fl.trp (zM.of (f:=λd=>d=n) gs (λc c _=>by cases c;rfl)) (λe d=>gO),⟨tZ a.tk.var gs (λc=>by simp at c;omega),(gs.block _ (aO a.tk.at') (λc=>by simp at c;omega)).trans a.tk.at',aG a.tk.Ie gs (by simp;omega),a.tk.le,a.tk.ne⟩,h,i,m,o⟩
def akC (c:Int)(d:Nat)(b:L):Prop:=b.length=25/\∀a,a<d->aB b a=fI c a
def afn (b:akC i n l)(d:n<25):akC i (n+1) (l.set n (fI i n)):=by
 refine⟨by rw[XB];exact b.1,λc a=>?_⟩;rw[Dn _ _ _ (by rw[b.1];exact d)];by_cases a:c=n
 .rw[Q9 a,a]
 rw[X9 a];exact b.2 c gO
def aij (c:akC i 25 l):l=Bj i:=by have d:=dL (p:=fI i) c.1 (λb a=>c.2 b a);have e:=dL (p:=fI i) (tq i) (λb a=>TH i b a);rw[d,<-e]
def amm (b:Int):iI (Bj b):=λa=>by
 by_cases c:a<25
 .rw[TH _ a c];have:=agJ b a c;omega
 rw[dI _ a (by rw[tq];omega)];omega
def OJ (g:V)(a:L)(b:W)(o:jI b g a)(m:a.length≠15)(t:a.length<=1000000000000000000):Calls prog 127 #[g] b (AZ b a):=by
 obtain⟨q,r,rfl,s,_⟩:=o;have v:=fT Un;have u:((a.length:Int)==15)=false:=beq_eq_false_iff_ne.2 gO;have f:=Ku a m;have c:=dG b 79 25 (au 25) (ak 25);have i:=Zd c.1;have j:=Zd c.2.1;have l:=Zd c.2.2;have k:=Zs (∀c,b.grownBy c none->AZ b a (.returned (.tuple #[.agg (aF (au 25)),I 1])) c) (λc c=>⟨by rw[f,vD a (by rw[f];omega)],c⟩);have e:=Zd<|ak 25;generalize AZ b a=p at *
 generalize au 25=d at *
 go_enter func127,ntmps127;go_wp2_with (first|refine sA d i rfl (by rw[e.out];exact dS) ?_);have n:=kU j (by rw[e.out];exact dS);refine QB (v:=.tuple #[.agg (aF d),I 1]) ?_ rfl (k _ l);simp[results,results127,asAddr,Act.put,n]
def UO (E:V)(a:L)(b:W)(T:jI b E a)(p:yP a)(r:a.length=15)(C:qJ a 14≠aB a 14):Calls prog 127 #[E] b (AZ b a):=by
 obtain⟨X,e,rfl,B,y⟩:=T;obtain⟨d,rfl,q⟩:=y gO;have Z:=fT Un;have u:=Zd λc (f:b.grownBy c none)=>(show jI c (.slice (some d) 14 e) (a.take 14)from Mf (n:=a.length) ⟨some d,e,rfl,B,λ_=>⟨d,rfl,λi g=>aU f (q i g)⟩⟩ 14 gO);have k:=Zd λc (f:b.grownBy c none)=>Gj d e (a.take 14) c (u c f) (Ru p 14);rw[Rv]at k;have O:=q 14 gO;have⟨y1,y2⟩:=p 14;rw[r]at B ⊢;have o:=TI a r C;have v:=dG b 79 25 (au 25) (ak 25);have s:=Zd v.1;have G:=Zs (∀c,b.grownBy c none->AZ b a (.returned (.tuple #[.agg (aF (au 25)),I 5])) c) (λc f=>⟨by rw[o,vD a (by rw[o];omega)],f⟩);have x:=Zd<|ak 25;have g:=Zd<|aj b (.cells (aF (au 25)) 79) none;have w:=Zd λc (F:bY c b.heap.size 79 (au 25))=>bF (rs':=au 25) F rfl;have D:(aB a 14==qJ a 14)=false:=beq_eq_false_iff_ne.2 (λz=>C z.symm);clear v o r y q u p;generalize AZ b a=U at *
 generalize au 25=n at *
 generalize qJ a 14=aa at *
 generalize aB a 14=j at *
 have R:=eG j gO gO;go_enter func127,ntmps127;go_upto_region 3 with fail;generalize b.alloc (.cells (aF n) 79)=m at *
 refine wp_region_held_drew (S:=dB b) (by kernel_rfl) (aX g (bB (aM _ none))) λa=>?_;refine aV 0 a ?_;refine aV 1 a ?_;refine aV (hy:=by intro c i;have Y:c.cell? { block:=d.block,off:=d.off+14 }=some (.int .u8 j):=aU i O;go_simp;(try with_reducible rfl)) (v:=.int .u8 j) 2 a ?_;refine aV (hy:=by intro c i;go_simp;(try simp only[R])) (v:=I j) 3 a ?_;refine aV 4 a ?_;refine aV (hy:=by intro c i;have P:(14:Int)<=(e:Int):=gO;go_simp;(try(first|done|(rw[Q9 P])|rfl))) (v:=.slice (some d) 14 e) 5 a ?_;refine eU 6 λb b=>?_;(try simp only[sZ]);go_simp;refine(k _ (aX g (bB (aM _ none)))).mono ?_;rintro z w1 ⟨rfl,rfl⟩;go_wp2_with fail;refine b.out _ _ a λa=>?_;clear b;(try simp only[sZ]);refine aV (hy:=by intro c i;go_simp;(first|done|rfl|exact beq_eq_false_iff_ne.1 D|exact beq_iff_eq.1 D)) (v:=.bool true) 7 a ?_;refine jX ?_;have t:=Zd<|s.aC (bB (aM m none));have H:=Zd<|ay g (bB (aM m none));clear s g k;generalize m.drew=M at *
 have l:=w M t;have J:=Zd l.1;have K:=Zd<|aG H l.2 (Q6 _);clear l w;go_wp2_with (first|refine sA n t rfl (by rw[x.out];exact dS) ?_);have Q:=kU J (by rw[x.out];exact dS);refine QB (v:=.tuple #[.agg (aF n),I 5]) ?_ rfl (G _ K);simp[results,results127,asAddr,Act.put,Q]
def OQ (am:V)(b:L)(d:W)(hv:jI d am b)(hb:yP b)(J:b.length=15)(Q:qJ b 14=aB b 14)(hT:TabA d 4 widq 8):Calls prog 127 #[am] d (AZ d b):=by
 have Z:=Zd hv;obtain⟨ad,n,rfl,hc,ao⟩:=hv;obtain⟨j,rfl,ai⟩:=ao gO;rw[J]at Z;have HT:=Zd hT;have ab:=Zd hb;have hz:=fT Un;have BV:=Zd λwr (o:d.grownBy wr none)=>(show jI wr (.slice (some j) 14 n) (b.take 14)from Mf (n:=b.length) ⟨some j,n,rfl,hc,λ_=>⟨j,rfl,λc m=>aU o (ai c m)⟩⟩ 14 gO);have CK:=Zd λwr (o:d.grownBy wr none)=>Gj j n (b.take 14) wr (BV wr o) (Ru hb 14);rw[Rv]at CK;have ap:=ai 14 gO;have⟨y1,y2⟩:=hb 14;have R:=Zd<|Kv b J Q;have X:=Zd<|FK b J Q;have U:=Zd<|TJ b J Q;have T:=Zd<|agL b J Q;rw[J]at hc ⊢;have B0:=Zd<|bY.new d 79 (au 25);have G0:=Zd<|aj d (.cells (aF (au 25)) 79) none;have Z0:=Zs ((d.alloc (.cells (aF (au 25)) 79)).heap.size=d.heap.size+1) (by simp);have t:=Zd<|ak 25;have C:=Zs (∀a,xV b≠0->xV b=a->∀p,d.grownBy p none->AZ d b (.returned (.tuple #[.agg (aF (au 25)),I a])) p) (λa a i p o=>⟨by rw[i,vD b a],o⟩);have Y:=Zs (xV b=0->∀p,d.grownBy p none->AZ d b (.returned (.tuple #[.agg (aF (Bj (xB b 14))),I 0])) p) (λi p o=>⟨by rw[i,show oJ b=Bj (xB b 14)from Q9 i],o⟩);have al:(aB b 14==qJ b 14)=true:=beq_iff_eq.2 Q.symm;clear J ao ai BV hb hT Q;generalize AZ d b=aC at *
 generalize au 25=f at *
 generalize qJ b 14=aE at *
 generalize aB b 14=ag at *
 have hu:=eG ag gO gO;go_enter func127,ntmps127;go_upto_region 3 with fail;generalize d.alloc (.cells (aF f) 79)=W0 at *
 refine wp_region_held_drew (S:=dB d) (by kernel_rfl) (aX G0 (bB (aM _ none))) λe=>?_;refine aV 0 e ?_;refine aV 1 e ?_;refine aV (hy:=by intro p y;have cc:p.cell? { block:=j.block,off:=j.off+14 }=some (.int .u8 ag):=aU y ap;go_simp;(try with_reducible rfl)) (v:=.int .u8 ag) 2 e ?_;refine aV (hy:=by intro p y;go_simp;(try simp only[hu])) (v:=I ag) 3 e ?_;refine aV 4 e ?_;refine aV (hy:=by intro p y;have aw:(14:Int)<=(n:Int):=gO;go_simp;(try(first|done|(rw[Q9 aw])|rfl))) (v:=.slice (some j) 14 n) 5 e ?_;refine eU 6 λg l=>?_;(try simp only[sZ]);go_simp;refine(CK _ (aX G0 (bB (aM _ none)))).mono ?_;rintro k w1 ⟨rfl,rfl⟩;go_wp2_with fail;refine l.out _ _ e λe=>?_;clear l;(try simp only[sZ]);refine aV (hy:=by intro p y;go_simp;(first|done|rfl|exact beq_eq_false_iff_ne.1 al|exact beq_iff_eq.1 al)) (v:=.bool false) 7 e ?_;refine jX ?_;have B1:=Zd<|B0.aC (bB (aM W0 none));have G1:=Zd<|ay G0 (bB (aM W0 none));have Z1:=Zs (W0.drew.heap.size=d.heap.size+1) (Z0);clear B0 G0 CK Z0 ap al e;generalize W0.drew=v at *
 have P2:=Zd<|bY.new v 79 f;have M:=Zd<|aj v (.cells (aF f) 79) none;have Z2:=Zs ((v.alloc (.cells (aF f) 79)).heap.size=v.heap.size+1) (by simp);go_upto_region 6 with fail;generalize v.alloc (.cells (aF f) 79)=O at *
 have B2:=Zd<|B1.aC M;have G2:=Zd<|ay G1 M;clear B1 G1 M;go_wp2_with fail;refine(YJ j 15 n O).mono ?_;rintro k W3 ⟨rfl,c1,c2,g3⟩;have TK:=Zs (Ba d O.heap.size (O.heap.size+1) 0 (.slice (some j) 15 n) W3) (⟨c1,c2,ay G2.out g3,by have:=Z2.out;have:=Z1.out;omega,gO⟩);have B3:=Zd<|B2.aC g3;have P3:=Zd<|P2.aC g3;have Z3:=Zd<|aO c2;clear c1 c2 g3 B2 P2 G2;go_wp2_with fail;refine(yB v.heap.size W3 (eY HT TK.Ie)).mono ?_;rintro k W4 ⟨am,rfl,o4,g4⟩;obtain⟨o,ae,rfl,_,_⟩:=o4.form gO;have M0:=Zs (Y3 d v.heap.size O.heap.size (O.heap.size+1) W3.heap.size o ae (sW 0) (.slice (some j) 15 n) f f W4) (⟨B3.out.aC g4,P3.out.aC g4,o4,TK.out.aC g4,by have:=Z1.out;omega,by have:=Z2.out;omega,gO,Z3⟩);clear P3 B3 TK Z1 Z2 Z3 o4 g4;generalize W3.heap.size=ah at *
 generalize O.heap.size=H at *
 generalize v.heap.size=r at *
 go_wp2_with fail;generalize ax:H+1=w at *
 clear ax;go_loopw [26] (λc wr=>∃(a:Nat) (q:L),c=I (a:Int)/\a<=25/\Hid (akC (xB b 14) a q)/\Hid (Y3 d r H w ah o ae (sW a) (.slice (some j) 15 n) f q wr)) (λc _=>25-(intOf c).toNat)
 case atStart=>exact⟨0,f,rfl,QN _,⟨t,λc m=>gO⟩,M0⟩
 case round=>
  obtain⟨a,q,rfl,hm,hP,s⟩:=hrel;clear M0;by_cases ac:a<25
  .have i1:(a:Int)<25:=gO;have⟨c0,c1,c2⟩:=s.fl.fld a ac;have x:=Zd<|dF wr (.cells #[.pointer (some ⟨r,a,none⟩),I (lX a:Int),I (wo a)] 203);have M:=Zd<|aj wr (.cells #[.pointer (some ⟨r,a,none⟩),I (lX a:Int),I (wo a)] 203) none;have m:=Zs (w<wr.heap.size/\r<wr.heap.size/\r<w) (⟨aO s.tk.at',s.pk.lt,Nat.lt_trans s.o2 s.o3⟩);have D:=Zd<|s.aC (bB M);have NP:=Zd<|afn hP ac;have G:=Zd hP.1;have B:=Zd λc (av:Y3 d r H w ah o ae (sW a) (.slice (some j) 15 n) f q c)=>Cn d H w (sW a) (lX a) j n b c Z ab (by have:=Tx a ac;omega) (by have:=Kt (a+1) gO;rw[UM]at this;omega) av.tk;rw[afl]at B;clear s hP;go_upto_region 10 with fail;generalize wr.alloc (.cells #[.pointer (some ⟨r,a,none⟩),I (lX a:Int),I (wo a)] 203)=E at *
   have K:E.cell? ⟨wr.heap.size,0,none⟩=some (.pointer (some ⟨r,a,none⟩)):=aI x 0;have P:E.cell? ⟨wr.heap.size,1,none⟩=some (I (lX a:Int)):=aI x 1;clear c0 c1 c2 x M;generalize wr.heap.size=fb at *
   generalize fI (xB b 14) a=F at *
   refine wp_region_held_drew (S:=λc=>c.cell? ⟨fb,0,none⟩=some (.pointer (some ⟨r,a,none⟩))/\c.cell? ⟨fb,1,none⟩=some (I (lX a:Int))) (by kernel_rfl) ⟨K,P⟩ λe=>?_;clear K P;generalize E.drew=aq at *
   refine aV 0 e ?_;refine aV (hy:=by intro p y;have⟨q0,q1⟩:=y;go_simp;(try with_reducible rfl)) (v:=.pointer (some ⟨r,a,none⟩)) 1 e ?_;refine aV 2 e ?_;refine aV 3 e ?_;refine aV (hy:=by intro p y;have⟨q0,q1⟩:=y;go_simp;(try with_reducible rfl)) (v:=I (lX a:Int)) 4 e ?_;refine eU 5 λg l=>?_;(try simp only[sZ]);go_simp;refine(B aq D).mono ?_;rintro k W6 ⟨rfl,p',u⟩;have c:=Zs (Y3 d r H w ah o ae (sW (a+1)) (.slice (some j) 15 n) f q W6) (D.take u p');clear D p';go_wp2_with fail;refine l.out _ _ ⟨zN u e.1 (by have:=m.out;omega),zN u e.2 (by have:=m.out;omega)⟩ λe=>?_;clear l;(try simp only[sZ]);clear u;refine aV 6 e ?_;refine eU 7 λg l=>?_;(try simp only[sZ]);have cp:=c.pk.cell a (by rw[G.out];exact ac);have fp:=c.pk.free a;have g:=Zd<|c.set a F;have z:=Zd<|aD W6 ⟨r,a,none⟩ (I F);go_simp;go_wp2_with fail;refine l.out _ _ ⟨tZ e.1 z (λk=>by have:=m.out;simp at k;omega),tZ e.2 z (λk=>by have:=m.out;simp at k;omega)⟩ λe=>?_;clear l;(try simp only[sZ]);clear z cp fp;refine jX ?_;clear c B e m G;go_wp2_with fail;go_roundw
   case rel=>exact⟨a+1,q.set a F,by go_num,gO,NP,g⟩
   case measure=>first|(simp[intOf];done)|(simp[intOf];omega)
  obtain rfl:a=25:=gO;rw[show((25:Nat):Int)=25 from rfl];rw[agD]at s;have ar:=aij hP;subst ar;clear hP;have an:=Zd<|amm (xB b 14);have m:=Zd<|tq (xB b 14);generalize hX:xB b 14=e at *
  have HX:=Zd hX;clear hX;go_wp2_with fail;refine(Cn d H w 106 1 j n b wr Z ab gO gO s.tk).mono ?_;rintro k W6 ⟨rfl,p6,t6⟩;rw[HX.out,akA];have D:=Zd<|s.take t6 p6;clear s p6 t6;go_wp2_with fail;refine(Cn d H w 107 5 j n b W6 Z ab gO gO D.tk).mono ?_;rintro k W7 ⟨rfl,p7,t7⟩;rw[HX.out,afm];have c:=Zd<|D.take t7 p7;clear D p7 t7 Z ab;by_cases P:e % 32=0
  .have u:=Zd λwr (o:d.grownBy wr none)=>Co (Bj e) m an wr (eY HT o);have PP:=Zd λwr=>Ec (Bj e) m an wr;have az:(e % 32==0)=true:=beq_iff_eq.2 P;rcases hgd:jC (Bj e)with _|_
   .rw[hgd]at u;have i:=X P hgd;have B:=Zd<|C 2 (by rw[i];omega) i;clear i R X U T C Y PP;generalize e % 32=X5 at *
    generalize pB e=p2 at *
    go_wp2_with (first|refine lA c.pk (by rw[m.out];exact dS) ?_);refine(u _ c.tk.Ie).mono ?_;rintro k w9 ⟨rfl,x⟩;have g:=Zd<|c.aC x;clear c x u;have l:=bF (rs':=f) g.rz rfl;have z:=Zd g.rz;have G:=Zd g.pk;have E:=Zd l.1;have F:=Zd<|aG g.tk.Ie l.2 (Q6 _);clear l g;go_wp2_with (first|refine lA G (by rw[m.out];exact dS) ?_|refine sA f z rfl (by rw[t.out];exact dS) ?_);have K:=kU E (by rw[t.out];exact dS);refine QB (v:=.tuple #[.agg (aF f),I 2]) ?_ rfl (B _ F);simp[results,results127,asAddr,Act.put,K]
   rw[hgd]at u;by_cases af:nE (Bj e)=pB e
   .have hq:(pB e==nE (Bj e))=true:=beq_iff_eq.2 af.symm;have i:=T P hgd af;have B:=Zd<|Y i;clear i R X U T C Y;generalize e % 32=X5 at *
    generalize pB e=p2 at *
    generalize Bj e=q at *
    go_wp2_with (first|refine lA c.pk (by rw[m.out];exact dS) ?_);refine(u _ c.tk.Ie).mono ?_;rintro k w9 ⟨rfl,x⟩;replace c:=Zd<|c.aC x;clear x u;go_wp2_with (first|refine lA c.pk (by rw[m.out];exact dS) ?_);refine(PP _).mono ?_;rintro k aA ⟨rfl,aa⟩;have g:=Zd<|c.aC aa;clear c aa PP;generalize nE q=p1 at *
    have l:=bF (rs':=q) g.rz (by rw[m.out,t.out]);have z:=Zd g.rz;have G:=Zd g.pk;have E:=Zd l.1;have F:=Zd<|aG g.tk.Ie l.2 (Q6 _);clear l g;go_wp2_with (first|refine lA G (by rw[m.out];exact dS) ?_|refine sA q z (by rw[m.out,t.out]) (by rw[t.out];exact dS) ?_);have K:=kU E (by rw[m.out];exact dS);refine QB (v:=.tuple #[.agg (aF q),I 0]) ?_ rfl (B _ F);simp[results,results127,asAddr,Act.put,K]
   have hq:(pB e==nE (Bj e))=false:=beq_eq_false_iff_ne.2 (λk=>af k.symm);have i:=U P hgd af;have B:=Zd<|C 3 (by rw[i];omega) i;clear i R X U T C Y;generalize e % 32=X5 at *
   generalize pB e=p2 at *
   generalize Bj e=q at *
   go_wp2_with (first|refine lA c.pk (by rw[m.out];exact dS) ?_);refine(u _ c.tk.Ie).mono ?_;rintro k w9 ⟨rfl,x⟩;replace c:=Zd<|c.aC x;clear x u;go_wp2_with (first|refine lA c.pk (by rw[m.out];exact dS) ?_);refine(PP _).mono ?_;rintro k aA ⟨rfl,aa⟩;have g:=Zd<|c.aC aa;clear c aa PP;generalize nE q=p1 at *
   have l:=bF (rs':=f) g.rz rfl;have z:=Zd g.rz;have G:=Zd g.pk;have E:=Zd l.1;have F:=Zd<|aG g.tk.Ie l.2 (Q6 _);clear l g;go_wp2_with (first|refine lA G (by rw[m.out];exact dS) ?_|refine sA f z rfl (by rw[t.out];exact dS) ?_);have K:=kU E (by rw[t.out];exact dS);refine QB (v:=.tuple #[.agg (aF f),I 3]) ?_ rfl (B _ F);simp[results,results127,asAddr,Act.put,K]
  have az:(e % 32==0)=false:=beq_eq_false_iff_ne.2 P;have i:=R P;have B:=Zd<|C 3 (by rw[i];omega) i;clear i R X U T C Y;generalize e % 32=X5 at *
  generalize pB e=p2 at *
  have l:=bF (rs':=f) c.rz rfl;have z:=Zd c.rz;have G:=Zd c.pk;have E:=Zd l.1;have F:=Zd<|aG c.tk.Ie l.2 (Q6 _);clear l c;go_wp2_with (first|refine lA G (by rw[m.out];exact dS) ?_|refine sA f z rfl (by rw[t.out];exact dS) ?_);have K:=kU E (by rw[t.out];exact dS);refine QB (v:=.tuple #[.agg (aF f),I 3]) ?_ rfl (B _ F);simp[results,results127,asAddr,Act.put,K]
def UQ (c:V)(a:L)(b:W)(e:jI b c a)(f:yP a)(i:a.length<=1000000000000000000)(h:TabA b 4 widq 8):Calls prog 127 #[c] b (AZ b a):=by
 by_cases d:a.length=15
 .by_cases g:qJ a 14=aB a 14
  .exact OQ c a b e f d g h
  exact UO c a b e f d g
 exact OJ c a b e d i
def Ef (a:Nat):(0:Int)<2^a:=Int.pow_pos (by decide)
def aiz (b:Int)(a:Nat):b / 2^a / 2=b / 2^(a+1):=by rw[Int.pow_succ,WR (VR (Ef a))]
def aiA (c:L)(h:WF c)(a:Nat)(g:c.length=a+1)(b:Nat)(n:aB c a<2^b)(o:1<=b)(p:2^(b-1)<=aB c a):Bits (val c) (a*32+b):=by
 have r:val c=dJ c a+aB c a*P a:=by unfold val;rw[g];rfl
 have⟨i,j⟩:=rG c h a;have hp:=oP a;have q:=Ef (b-1);have d:P a=2^(a*32):=by rw[Ra,Nat.mul_comm]
 have e:0<=(2^b-1-aB c a)*P a:=ZA gO gO;have f:0<=(aB c a-2^(b-1))*P a:=ZA gO gO;have k:(2:Int)^(a*32+b)=2^b*P a:=by rw[Int.pow_add,d,V7]
 have l:(2:Int)^(a*32+b-1)=2^(b-1)*P a:=by rw[show a*32+b-1=a*32+(b-1) by omega,Int.pow_add,d,V7]
 have m:0<aB c a*P a:=Int.mul_pos gO hp;simp only[Int.sub_mul,Int.one_mul]at e f;refine⟨gO,λa=>gO,λ_=>⟨gO,gO⟩⟩
def afy (a:Int)(b:Nat)(d:0<=a):(a / 2^b=0->a<2^b)/\(a / 2^b≠0->2^b<=a)/\0<=a / 2^b/\a / 2^b<=a:=by
 have hp:=Ef b;refine⟨λe=>?_,λe=>?_,F7 d gO,Int.ediv_le_self _ d⟩
 .rcases Int.lt_or_le a (2^b)with c|c
  .exact c
  have:=(Int.le_ediv_iff_mul_le (a:=1) (b:=a) hp).2 gO;omega
 rcases Int.lt_or_le a (2^b)with c|c
 .exact absurd (Int.ediv_eq_zero_of_lt d c) e
 exact c
def aiB (a:Nat)(c:Int)(e:2^a<=c)(g:c<4294967296):a<32:=by
 rcases WZ a 32 with b|b
 .exact b
 have f:(2:Nat)^32<=2^a:=WM gO b;have d:((2^a:Nat):Int)=(2:Int)^a:=by simp
 omega
def Cr (n:V)(a:L)(k:W)(w:Sl k n a)(l:WF a)(e:Top a)(O:a.length<=40):Calls prog 99 #[n] k λb c=>∃d:Nat,d<=1280/\Bits (val a) d/\b=.returned (I d)/\c=k:=by
 obtain⟨E,G,rfl,x⟩:=jm w;by_cases j:a.length=0
 .have v:((a.length:Int)==0)=true:=by simp[j]
  have i:=Zs (Bits (val a) 0) (by rw[List.length_eq_zero_iff.1 j,nA];exact⟨by decide,λ_=>rfl,λc=>gO⟩);go_enter func99,ntmps99;go_wp2_with fail;go_ret;exact⟨0,gO,i,rfl,rfl⟩
 obtain⟨F,rfl,H,s⟩:=x gO;have v:((a.length:Int)==0)=false:=beq_eq_false_iff_ne.2 gO;have K:=s (a.length-1) gO;have⟨B,C⟩:=l (a.length-1);have P:aB a (a.length-1)≠0:=by rcases e with rfl|c;simp at j;exact c
 have o:=Zd<|aiA a l (a.length-1) gO;generalize aB a (a.length-1)=f at *
 go_enter func99,ntmps99;go_wp2_with fail;go_loop [3,4] (λd g=>∃b:Nat,d=I b/\g=.int .u32 (f / 2^b)/\b<=32/\Hid (b=0\/2^(b-1)<=f)) (λd _=>33-(intOf d).toNat)
 case atStart=>exact⟨0,rfl,by simp,gO,.inl rfl⟩
 case round=>
  obtain⟨b,rfl,rfl,M,t⟩:=hrel;have⟨y,z,Q,R⟩:=afy f b B;have q:=Zd y;have r:=Zd z;have p:=Zd<|aiz f b;generalize u:f / 2^b=g at *
  have D:=Zd u;by_cases e:g=0
  .have d:=q e;have m:1<=b:=by
    rcases Nat.eq_zero_or_pos b with rfl|c
    .simp at d;omega
    exact c
   have i:=Zd<|o b d m (by rcases t with c|c;omega;exact c);subst e;go_wp2_with fail;go_ret;exact⟨(a.length-1)*32+b,gO,i,by first|rfl|(simp;omega),rfl⟩
  have m:=Zd<|r e;have J:(g==0)=false:=beq_eq_false_iff_ne.2 e;have d:=aiB b f m C;go_wp2_with fail;go_round
  case rel=>exact⟨b+1,by go_num,by rw[<-p.out],gO,.inr (by simpa using m.out)⟩
  case measure=>simp[intOf];omega
def RZ (d a:L)(c:Nat)(b:L):Prop:=
 b.length=d.length+a.length/\WF b/\dJ b (c+a.length)=dJ d c*val a/\∀d,c+a.length<=d->aB b d=0
def Zj (f g:L)(a b:Nat)(d:Int)(e c:L):Prop:=
 c.length=f.length+g.length/\WF c/\0<=d/\d<4294967296/\dJ c (a+b)+d*P (a+b)=dJ e (a+b)+aB f a*P a*dJ g b/\∀d,a+b<=d->aB c d=aB e d
def afB (a b:L):RZ a b 0 (List.replicate (a.length+b.length) 0):=
 ⟨by simp,wC _,by rw[za];simp[dJ],λa _=>mQ _ _⟩
def Zk (b c:L)(e:Nat)(a:L)(d:RZ b c e a):Zj b c e 0 0 a a:=
 ⟨d.1,d.2.1,gO,gO,by simp[dJ],λa _=>rfl⟩
def aiF (a b:Int)(d:0<=a)(e:a<4294967296)(c:0<=b)(f:b<4294967296):0<=a*b/\a*b<=18446744065119617025:=
 ⟨ZA d c,Int.mul_le_mul (a:=a) (b:=b) (c:=4294967295) (d:=4294967295) gO gO c gO⟩
def Zl (d e:L)(a b:Nat)(i c:Int)(h f:L)(g:WF d)(m:WF e)(y:a<d.length)(z:b<e.length)(q:Zj d e a b i h f)(r:c=i+(aB d a*aB e b+aB f (a+b))):Zj d e a (b+1) (c / 4294967296) h (f.set (a+b) (c % 4294967296)):=by
 have⟨u,k,v,w,x,l⟩:=q;have⟨B,C⟩:=aiF (aB d a) (aB e b) (g a).1 (g a).2 (m b).1 (m b).2;have D:=k (a+b);have j:∀g,aB (f.set (a+b) (c % 4294967296)) g=if g=a+b then c % 4294967296 else aB f g:=λg=>mP _ _ _ _ gO;refine⟨by simp;omega,xM _ _ _ k gO gO gO,gO,gO,?_,λg k=>by rw[j,nO];exact l g gO⟩;rw[show a+(b+1)=a+b+1 by omega,dJ,j,Q9 rfl,jT _ f (a+b) (λg k=>by rw[j,nO]),xK];have n:dJ h (a+b+1)=dJ h (a+b)+aB f (a+b)*P (a+b):=by rw[dJ,l (a+b) gO]
 have o:aB d a*P a*dJ e (b+1)=aB d a*P a*dJ e b+aB d a*aB e b*P (a+b):=by
  rw[dJ,Int.mul_add,V4];congr 1;rw[FP,FP,Int.mul_left_comm (P a)]
 rw[n,o];have p:c=c % 4294967296+4294967296*(c / 4294967296):=(Int.emod_add_mul_ediv c 4294967296).symm;have s:c*P (a+b)=c % 4294967296*P (a+b)+c / 4294967296*(P (a+b)*4294967296):=by
  conv=>lhs;rw[p]
  rw[GL,V7 4294967296,FP,V7 4294967296]
 have t:c*P (a+b)=i*P (a+b)+(aB d a*aB e b*P (a+b)+aB f (a+b)*P (a+b)):=by rw[r,GL,GL]
 omega
def afC (c a:L)(b:Nat)(e:Int)(g d:L)(u:WF c)(v:WF a)(r:b<c.length)(n:RZ c a b g)(h:Zj c a b a.length e g d):RZ c a (b+1) (d.set (b+a.length) e):=by have⟨q,i,j,k,l,m⟩:=h;have⟨s,t,o,p⟩:=n;have f:∀c,aB (d.set (b+a.length) e) c=if c=b+a.length then e else aB d c:=λc=>mP _ _ _ _ gO;refine⟨by simp;omega,xM _ _ _ i gO j k,?_,λc e=>by rw[f,nO,m c gO];exact p c gO⟩;rw[show b+1+a.length=b+a.length+1 by omega,dJ,f,Q9 rfl,jT _ d (b+a.length) (λc e=>by rw[f,nO]),l,o,dJ,GL];rfl
def akP (a c:L)(b:L)(d:RZ a c a.length b):WF b/\val b=val a*val c/\b.length=a.length+c.length:=by have⟨e,f,g,h⟩:=d;refine⟨f,?_,e⟩;rw[<-nu b (a.length+c.length) gO,g];rfl
def adV (a:W)(d:L)(c b:Nat)(e:Int):((a.alloc (.cells (arr d) 160)).drewN c).setCell (A a.heap.size b) (.int .u32 e)=(a.alloc (.cells (arr (d.set b e)) 160)).drewN c:=by show((a.alloc (.cells (arr d) 160)).setCell (A a.heap.size b) (.int .u32 e)).drewN c=_;rw[World.setCell_alloc_at _ _ _ _ _ rfl,mG]
def aiG (w x:V)(b a:L)(d:W)(F:Sl d w b)(G:Sl d x a)(o:WF b)(p:WF a)(la:b.length<=40)(lb:a.length<=40):Calls prog 110 #[w,x] d (iU d (val b*val a) (b.length+a.length)):=by
 obtain⟨X,ca,rfl,P⟩:=jm F;obtain⟨Y,cb,rfl,Q⟩:=jm G;by_cases r:b.length=0
 .have g:=Zs (iU d (val b*val a) (b.length+a.length) (.returned N) d) (⟨_,[],rfl,sI _,vM,rA,by rw[List.length_eq_zero_iff.1 r];simp[nA],by simp,aM _ _⟩);have B:((b.length:Int)==0)=true:=by simp[r]
  generalize iU d _ _=q at *
  go_enter func110,ntmps110;go_wp2_with fail;exact g
 have B:((b.length:Int)==0)=false:=beq_eq_false_iff_ne.2 gO;by_cases s:a.length=0
 .have g:=Zs (iU d (val b*val a) (b.length+a.length) (.returned N) d) (⟨_,[],rfl,sI _,vM,rA,by rw[List.length_eq_zero_iff.1 s];simp[nA],by simp,aM _ _⟩);have C:((a.length:Int)==0)=true:=by simp[s]
  generalize iU d _ _=q at *
  go_enter func110,ntmps110;go_wp2_with fail;exact g
 have C:((a.length:Int)==0)=false:=beq_eq_false_iff_ne.2 gO;obtain⟨Z,rfl,aa,H⟩:=P gO;obtain⟨bb,rfl,ab,J⟩:=Q gO;have M:=λc=>uF ((b.length:Int)+a.length) gO gO c;have O:((b.length:Int)+a.length).toNat=b.length+a.length:=gO;rw[O]at M;have y:=Zd H;have z:=Zd J;go_enter func110,ntmps110;go_wp2_with fail;go_loopw [6,7,8] (λe r k wr=>∃(c l:Nat) (f:L),e=I c/\c<=b.length/\Hid (RZ b a c f)/\wr=(d.alloc (.cells (arr f) 160)).drewN l) (λe _ _ _=>b.length-(intOf e).toNat)
 case atStart=>exact⟨0,0,_,rfl,QN _,afB b a,rfl⟩
 case round=>
  obtain⟨c,l,j,rfl,hk,m,rfl⟩:=hrel;by_cases n:c<b.length
  .have c1:=y c n;have⟨R,T⟩:=o c;go_wp2_with fail;go_loopw [7,8] (λr k wr=>∃(e v:Nat) (i:Int) (f:L),r=.int .u64 i/\k=I e/\e<=a.length/\Hid (Zj b a c e i j f)/\wr=(d.alloc (.cells (arr f) 160)).drewN v) (λ_ k _=>a.length-(intOf k).toNat)
   case atStart=>exact⟨0,l,0,_,rfl,rfl,QN _,Zk b a c j m,rfl⟩
   case round=>
    obtain⟨e,v,i,f,rfl,rfl,hj,k,rfl⟩:=hrel;have u:Hid (f.length=b.length+a.length):=k.1;obtain⟨z0,z1⟩:0<=i/\i<4294967296:=⟨k.2.2.1,k.2.2.2.1⟩;by_cases t:e<a.length
    .have c2:=z e t;have⟨K,U⟩:=p e;have⟨t0,t1⟩:=k.2.1 (c+e);have D:=oz f (c+e) (by rw[u.out];omega);have⟨m1,m2⟩:=aiF (aB b c) (aB a e) R T K U;have E:=Zd<|Zl b a c e i _ j f o p n t k rfl;go_wp2_with fail;go_quiet (fail);go_wp2;go_roundw
     case rel=>exact⟨e+1,_,_,_,rfl,by go_num,gO,E,by rw[adV]⟩
     case measure=>simp[intOf];omega
    have K:e=a.length:=gO;subst K;have E:=Zd<|afC b a c i j f o p n m k;have D:=oz f (c+a.length) (by rw[u.out];omega);have U:i % 4294967296=i:=gO;go_wp2;go_roundw
    case rel=>exact⟨c+1,_,_,by go_num,gO,E,by rw[adV]⟩
    case measure=>simp[intOf];omega
  have t:c=b.length:=gO;subst t;have g:=Zd<|akP b a j m;have u:=Zd<|jQ (vR d j (b.length+a.length) g.2.2) (dK _ l none);go_wp2_with fail;refine(qw _ j _ u g.1 (by rw[g.out.2.2];omega)).mono ?_;rintro T U ⟨i,v,rfl,D,E,K,R,e,rfl⟩;have k:=Zs (iU d (val b*val a) (b.length+a.length) (.returned i) _) (⟨i,v,rfl,D,E,K,R.trans g.2.1,by rw[g.out.2.2]at e;exact e,ay (aj _ _ _) (dK _ l none)⟩);generalize iU d (val b*val a) (b.length+a.length)=q at *
  go_wp2_with fail;exact k
def akQ (a b:Bool)(c d:Int):mO (a != b) (c*d)=mO a c*mO b d:=by cases a<;>cases b<;>simp[mO,Int.neg_mul,Int.mul_neg]
def jh (j g i:Nat)(d e:Int)(a:W)(Z:Struct a j)(X:kD a g d)(Y:kD a i e)(T:-P 8<d*e)(U:d*e<P 8):Calls prog 59 #[.pointer (S j),.pointer (S g),.pointer (S i)] a (gH a j (d*e)):=by
 have⟨x,t,B,C,D,xs,xw,xt,xv,xl⟩:=fG X;have⟨y,u,E,F,G,ys,yw,yt,yv,yl⟩:=fG Y;have Q:mO (decide (d<0)) (val t)=d:=by rw[xv];exact tu d
 have R:mO (decide (e<0)) (val u)=e:=by rw[yv];exact tu e
 clear X Y xv yv;generalize decide (d<0)=l at *
 generalize decide (e<0)=m at *
 have O:=Zd<|aiG x y t u a.drew xs ys xw yw gO gO;have J:Hid (mO (l != m) (val t*val u)=d*e):=by unfold Hid;rw[akQ,Q,R]
 have H:=Zd (show ∀n f c,Sl c n f->WF f->Top f->val f=val t*val u->a.drew.grownBy c none->
  (c.cell? (A g 0)=some (.bool l)/\c.cell? (A g 1)=some x/\c.cell? (A i 0)=some (.bool m)/\c.cell? (A i 1)=some y)/\Calls prog 96 #[.pointer (S j),.bool (l != m),n] c (λo z=>o=.returned (.pointer (S j))/\gH a j (d*e) o z)from by
  intro n f c v q r w k;have b:a.grownBy c none:=⟨k.os,k.tape,k.output,k.size,k.block⟩;have s:mO (l != m) (val f)=d*e:=by rw[w];exact J
  refine⟨⟨by rw[fC b D];exact B,by rw[fC b D];exact C,by rw[fC b G];exact E,by rw[fC b G];exact F⟩,?_⟩;refine(ku j (l != m) n f c (bQ Z b (by simp)) v q r (len8 q r s T U)).mono ?_;intro o z p;exact⟨p.1,mW p b s⟩)
 have b:a.drew.cell? (A g 0)=some (.bool l)/\a.drew.cell? (A g 1)=some x/\a.drew.cell? (A i 0)=some (.bool m)/\a.drew.cell? (A i 1)=some y:=⟨B,C,E,F⟩;clear Q R xs ys xw yw xt yt xl yl J Z T U D G B C E F;generalize gH a j (d*e)=ab at *
 go_enter func59,ntmps59;go_wp2_with fail;refine bW 19 (λs=>s.cell? (A g 0)=some (.bool l)/\s.cell? (A g 1)=some x/\s.cell? (A i 0)=some (.bool m)/\s.cell? (A i 1)=some y) 21 (by rfl) _ rfl (by kernel_rfl) λa=>?_;refine aZ 0 b a λa=>?_;refine aZ 1 b a λa=>?_;refine aZ 2 b a λa=>?_;refine aZ 3 b a λa=>?_;refine aZ 4 b a λa=>?_;refine aZ 5 b a λa=>?_;refine aZ 6 b a λa=>?_;refine aZ 7 b a λa=>?_;refine aZ 8 b a λa=>?_;refine aZ 9 b a λa=>?_;refine aZ 10 b a λa=>?_;refine aZ 11 b a λa=>?_;refine aZ 12 b a λa=>?_;refine aZ 13 b a λa=>?_;refine aZ 14 b a λa=>?_;refine aZ 15 b a λa=>?_;refine aZ 16 b a λa=>?_;refine aZ 17 b a λa=>?_;refine jY 18 a λe d=>?_;(try simp only[sZ]);go_simp;refine O.mono ?_;rintro o c ⟨n,f,rfl,v,q,r,w,s5,k⟩;have⟨k1,k2⟩:=H n f c v q r w k;have K:=Zd k1;have M:=Zd k2;clear v q r w s5 k k1 k2 H O b;go_wp2_with fail;refine d.out _ _ (λ_=>K) λa=>?_;clear d;(try simp only[sZ]);refine jY 19 a λe d=>?_;(try simp only[sZ]);go_simp;refine M.mono ?_;rintro o z ⟨rfl,p⟩;have HM:=Zd p;clear p K M;go_wp2_with fail;refine d.out _ _ (λb=>by cases b) λa=>?_;clear d;(try simp only[sZ]);refine bI _ _ _ _ (by rfl) ?_;refine wpAny_take (i:=20) (v:=?ad) rfl (by kernel_rfl) (by kernel_rfl) (by kernel_rfl) (λ_ _ _ b=>b) (Or.inl ⟨by rfl,?aa⟩) ?ac
 case aa=>(intro s;go_simp;try with_reducible rfl)
 (try simp only[sZ]);refine wm ?_;go_wp2_with fail;exact HM
def R7 (l:V)(a:L)(b:W)(q:Sl b l a)(i:WF a)(u:a.length<=2):Calls prog 160 #[l] b (lQ b (.int .u64 (val a))):=by
 obtain⟨r,s,rfl,k⟩:=jm q;have p:a.length=0\/a.length=1\/a.length=2:=gO;rcases p with c|c|c
 .have d:val a=0:=by rw[List.length_eq_zero_iff.1 c];rfl
  rw[d,c];have e:=Zs (lQ b (.int .u64 0) (.returned (.int .u64 0)) b) (⟨rfl,rfl⟩);generalize lQ b (.int .u64 0)=j at *
  go_enter func160,ntmps160;go_wp2_with fail;exact e
 .obtain⟨m,rfl,o,f⟩:=k gO;have n:=f 0 gO;have d:=i 0;rw[DR a c,c];have e:=Zs (lQ b (.int .u64 (aB a 0)) (.returned (.int .u64 (aB a 0))) b) (⟨rfl,rfl⟩);generalize lQ b (.int .u64 (aB a 0))=j at *
  have⟨d,g⟩:=d;go_enter func160,ntmps160;go_wp2_with fail;exact e
 obtain⟨m,rfl,o,f⟩:=k gO;have n:=f 0 gO;have t:=f 1 gO;have d:=i 0;have g:=i 1;rw[Xx a c,c];have v:=K_ (aB a 0) (aB a 1) d.1 d.2 g.1 g.2;have e:=Zs (lQ b (.int .u64 (aB a 0+aB a 1*4294967296)) (.returned (.int .u64 (aB a 0+aB a 1*4294967296))) b) (⟨rfl,rfl⟩);generalize lQ b (.int .u64 (aB a 0+aB a 1*4294967296))=j at *
 have⟨w,x⟩:=d;have⟨y,z⟩:=g;go_enter func160,ntmps160;go_wp2_with fail;exact e
def aiH (i:W)(f g:Int)(h:Ending)(c:W):Prop:=
 ∃d a e b,h=.returned (.tuple #[d,e])/\Sl c d a/\WF a/\Top a/\val a=f / g/\a.length<=2/\Sl c e b/\WF b/\Top b/\val b=f % g/\b.length<=2/\i.grownBy c none
def Zm (E P:V)(b a:L)(d:W)(r:Sl d E b)(w:Sl d P a)(s:WF b)(t:WF a)(M:Top b)(O:Top a)(la:b.length<=2)(lb:a.length<=40)(R:val a≠0):Calls prog 133 #[E,P] d (aiH d (val b) (val a)):=by
 have ac:=(su a t).1;have ab:=su b s;have ao:a.length≠0:=λB=>R (by rw[List.length_eq_zero_iff.1 B];rfl);have an:((a.length:Int)==0)=false:=beq_eq_false_iff_ne.2 gO;have u:=Zd<|wX E P b a d r w s t M O gO gO;by_cases x:val b<val a
 .have C:gI (val b) (val a)=-1:=by unfold gI;rw[Q9 x]
  have i:=Zd λc=>K8 E b (d.drewN c) (jQ r (dK d c none)) s M gO;have z:=Zd (show ∀c g f e,Sl e g f->WF f->Top f->val f=val b->f.length<=b.length->(d.drewN c).grownBy e none->aiH d (val b) (val a) (.returned (.tuple #[N,g])) e from
   λc g f e j k l m o n=>⟨_,[],g,f,rfl,sI _,vM,rA,by rw[Int.ediv_eq_zero_of_lt gO x];rfl,by simp,j,k,l,by rw[m,Int.emod_eq_of_lt gO x],gO,ay (dK d c none) n⟩)
  rw[C]at u;obtain⟨ah,ca,rfl,-⟩:=jm r;obtain⟨ai,cb,rfl,-⟩:=jm w;clear r w C x s t M O ac ab R;generalize aiH d (val b) (val a)=ag at *
  go_enter func133,ntmps133;go_wp2_with fail;refine u.mono ?_;rintro v e ⟨rfl,c,rfl⟩;go_wp2_with fail;refine(i c).mono ?_;rintro v e ⟨g,f,rfl,j,k,l,m,o,n⟩;have Q:=Zd<|z c g f e j k l m o n;clear j k l m o n z i u;go_wp2_with fail;exact Q
 have C:0<=gI (val b) (val a):=by unfold gI;rw[X9 x];split<;>omega
 have ar:=zD b a s t O gO;have T:=Zd λc=>R7 E b (d.drewN c) (jQ r (dK d c none)) s la;have U:=Zd λc=>R7 P a (d.drewN c) (jQ w (dK d c none)) t gO;have ax:val b<18446744073709551616:=by
  have:=xL b.length 2 la;rw[P2]at this;omega
 have az:val a<18446744073709551616:=by
  have:=xL a.length 2 gO;rw[P2]at this;have:=(su a t).2;omega
 have ad:0<=val b / val a:=F7 gO gO;have ap:val b / val a<=val b:=Int.ediv_le_self _ gO;have ae:0<=val b % val a:=FT _ gO;have aq:val b % val a<val a:=H7 _ gO;have X:=Zd λf=>wW (val b / val a) f ad gO;have Y:=Zd λf=>wW (val b % val a) f ae gO;have z:=Zd (show ∀c y i e p f q,Sl e y i->WF i->Top i->val i=val b / val a->i.length<=2->(d.drewN c).grownBy e none->Sl q p f->WF f->Top f->val f=val b % val a->f.length<=2->e.grownBy q none->aiH d (val b) (val a) (.returned (.tuple #[y,p])) q from
  λc y i e p f q j k l m o n F G H J K D=>⟨y,i,p,f,rfl,jQ j D,k,l,m,o,F,G,H,J,K,ay (ay (dK d c none) n) D⟩)
 obtain⟨af,hz⟩:∃af:Int,Hid (af=gI (val b) (val a)):=⟨_,rfl⟩;rw[<-hz.out]at u C;obtain⟨ah,ca,rfl,-⟩:=jm r;obtain⟨ai,cb,rfl,-⟩:=jm w;have al:0<val a:=gO;have Z:0<=val b:=gO;clear r w hz x s t M O ab ac R;generalize aiH d (val b) (val a)=ag at *
 generalize val b=A at *
 generalize val a=g at *
 go_enter func133,ntmps133;go_wp2_with fail;refine u.mono ?_;rintro v e ⟨rfl,c,rfl⟩;go_wp2_with fail;refine(T c).mono ?_;rintro v e ⟨rfl,rfl⟩;go_wp2_with fail;refine(U c).mono ?_;rintro v e ⟨rfl,rfl⟩;clear T U u C;go_wp2_with fail;have am:¬g=0:=gO;have av:A.tdiv g=A / g:=YS Z;have aw:A.tmod g=A % g:=V3 Z;have aA:IntKind.u64.wrap (A / g)=A / g:=by rw[IntKind.wrap_u64];exact Int.emod_eq_of_lt ad gO
 have aC:IntKind.u64.wrap (A % g)=A % g:=by rw[IntKind.wrap_u64];exact Int.emod_eq_of_lt ae gO
 refine bW 7 (λ_=>True) 10 (by rfl) _ rfl (by kernel_rfl) λa=>?_;refine aZ 0 trivial a λa=>?_;refine aZ 1 trivial a λa=>?_;refine aZ 2 trivial a λa=>?_;refine aZ 4 trivial a λa=>?_;refine aZ 5 trivial a λa=>?_;refine aZ 6 trivial a λa=>?_;refine jY 3 a λd b=>?_;(try simp only[sZ]);go_simp;refine(X _).mono ?_;rintro v e ⟨y,i,rfl,j,k,l,m,o,n⟩;have aa:=Zd λp f q=>z (c+1) y i e p f q j k l m o n;clear j k l m o n z X;go_wp2_with fail;refine b.out _ _ (λ_=>trivial) λa=>?_;clear b;(try simp only[sZ]);refine jY 7 a λd b=>?_;(try simp only[sZ]);go_simp;refine(Y _).mono ?_;rintro v q ⟨p,f,rfl,F,G,H,J,K,D⟩;have Q:=Zd<|aa p f q F G H J K D;clear F G H J K D aa Y;go_wp2_with fail;refine b.out _ _ (λ_=>trivial) λa=>?_;clear b;(try simp only[sZ]);refine bI _ _ _ _ (by rfl) ?_;refine wpAny_take (i:=8) (v:=?v8) rfl (by kernel_rfl) (by kernel_rfl) (by kernel_rfl) (λ_ _ _ B=>B) (Or.inl ⟨by rfl,?y8⟩) ?r8
 case y8=>(intro w';go_simp;try with_reducible rfl)
 (try simp only[sZ]);refine wpAny_take (i:=9) (v:=?v9) rfl (by kernel_rfl) (by kernel_rfl) (by kernel_rfl) (λ_ _ _ B=>B) (Or.inl ⟨by rfl,?B⟩) ?r9
 case B=>(intro w';go_simp;try with_reducible rfl)
 (try simp only[sZ]);refine wm ?_;go_wp2_with fail;exact Q
def Vh (a b:Int):mO (decide (a<0) != decide (b<0)) ((a.natAbs:Int) / (b.natAbs:Int))=a.tdiv b:=by
 by_cases e:a<0<;>by_cases f:b<0
 .have c:(a.natAbs:Int)=-a:=gO;have d:(b.natAbs:Int)=-b:=gO;rw[c,d];simp[e,f,mO];rw[<-YS gO,Int.neg_tdiv,Int.neg_neg]
 .have c:(a.natAbs:Int)=-a:=gO;have d:(b.natAbs:Int)=b:=gO;rw[c,d];simp[e,f,mO];rw[<-YS gO,Int.neg_tdiv,Int.neg_neg]
 .have c:(a.natAbs:Int)=a:=gO;have d:(b.natAbs:Int)=-b:=gO;rw[c,d];simp[e,f,mO];rw[YS gO]
 have c:(a.natAbs:Int)=a:=gO;have d:(b.natAbs:Int)=b:=gO;rw[c,d];simp[e,f,mO];rw[YS gO]
def adW (b a:Int):mO (decide (b<0)) ((b.natAbs:Int) % (a.natAbs:Int))=b.tmod a:=by
 have d:∀c:Int,c % (a.natAbs:Int)=c % a:=λc=>by
  by_cases c:a<0
  .rw[show(a.natAbs:Int)=-a by omega,Int.emod_neg]
  rw[show(a.natAbs:Int)=a by omega]
 rw[d];by_cases c:b<0
 .rw[show(b.natAbs:Int)=-b by omega,<-V3 gO,Int.neg_tmod];simp[c,mO]
 rw[show(b.natAbs:Int)=b by omega,<-V3 gO];simp[c,mO]
def R_ (g:W)(b a:Nat)(e f:Int)(d:Ending)(c:W):Prop:=
 d=.returned (.tuple #[.pointer (S b),.pointer (S a)])/\kD c b e/\kD c a f/\∃d,g.grownBy d (some b)/\d.grownBy c (some a)/\Struct d a
def acr (e p q d:Nat)(c g:Int)(b:W)(P:Struct b e)(hr:Struct b d)(Q:e≠d)(hx:kD b p c)(hy:kD b q g)(ad:g≠0)(h1:-18446744073709551616<c)(h2:c<18446744073709551616):Calls prog 105 #[.pointer (S e),.pointer (S p),.pointer (S q),.pointer (S d)] b (R_ b e d (c.tdiv g) (c.tmod g)):=by
 have⟨G,r,x0,x1,xb,xs,U,T,K,xl⟩:=fG hx;have⟨H,s,y0,y1,yb,ys,yw,yt,M,yl⟩:=fG hy;have aa:=Ey r U T 2 (by rw[P2,K];omega);have ab:val s≠0:=by rw[M];omega
 have X:=Zd λk=>Zm G H r s (b.drewN k) (jQ xs (dK b k none)) (jQ ys (dK b k none)) U yw T yt aa gO ab;have Y:=Zd (show ∀k m i n j f,Sl f m i->WF i->Top i->val i=val r / val s->i.length<=2->Sl f n j->WF j->Top j->val j=val r % val s->j.length<=2->(b.drewN k).grownBy f none->
  (f.cell? (A p 1)=some G/\f.cell? (A q 1)=some H)/\
  Calls prog 96 #[.pointer (S e),.bool (decide (c<0) != decide (g<0)),m] f (λa o=>a=.returned (.pointer (S e))/\
   Calls prog 96 #[.pointer (S d),.bool (decide (c<0)),n] o (λa J=>a=.returned (.pointer (S d))/\R_ b e d (c.tdiv g) (c.tmod g) (.returned (.tuple #[.pointer (S e),.pointer (S d)])) J))from by
  intro k m i n j f x y z B F t u v w E R;have l:b.grownBy f none:=ay (dK b k none) R;refine⟨⟨by rw[fC l xb];exact x1,by rw[fC l yb];exact y1⟩,?_⟩;refine(ku e _ m i f (bQ P l (by simp)) x y z gO).mono ?_;rintro a o ⟨rfl,Z,C⟩;refine⟨rfl,?_⟩;have D:Struct o d:=bQ (bQ hr l (by simp)) C (λa=>Q (by cases a;rfl));refine(ku d _ n j o D (Du t C (λk a=>by cases a;exact bQ P l (by simp))) u v gO).mono ?_;rintro a J ⟨rfl,i3,O⟩;refine⟨rfl,rfl,?_,?_,o,bT l C (some e) (λk a _=>by cases a) (λk a _=>a),O,D⟩
  .have:=dR Z O D Q;rw[B,K,M,<-mO,Vh]at this;exact this
  have:=i3;rw[w,K,M,<-mO,adW]at this;exact this)
 generalize decide (c<0)=O at *
 generalize decide (g<0)=R at *
 generalize R_ b e d (c.tdiv g) (c.tmod g)=ac at *
 go_enter func105,ntmps105;go_wp2_with fail;go_quiet (fail);go_wp2_with fail;go_region_held3 (λb=>b.cell? (A p 1)=some G/\b.cell? (A q 1)=some H) (first|exact Z|simp[*])
  (first
   | (go_at_call 133;refine(X _).mono ?_;rintro a f ⟨m,i,n,j,rfl,x,y,z,B,F,t,u,v,w,E,l⟩;have⟨C,D⟩:=Y _ m i n j f x y z B F t u v w E l;have Z:=Zd C;have K2:=Zd D;clear x y z B F t u v w E l C D))
 go_wp2_with fail;rw[show(!(O==R))=(O != R)from rfl];refine K2.mono ?_;rintro a o ⟨rfl,D⟩;have l:=Zd D;go_wp2_with fail;refine l.mono ?_;rintro a J ⟨rfl,k4⟩;have C:=Zd k4;go_wp2_with fail;exact C
structure kH (f:Nat->Prop) (w w':World):Prop where
 os:w'.os=w.os
 tape:w'.tape=w.tape
 output:w'.output=w.output
 size:w.heap.size<=w'.heap.size
 block:∀k,k<w.heap.size->¬f k->w'.heap[k]?=w.heap[k]?
def kH.of {f:Nat->Prop}(b:w.grownBy w' z)(d:∀a,z=some a->a<w.heap.size->f a):kH f w w':=
 ⟨b.os,b.tape,b.output,b.size,λa c e=>b.block a c (λb=>e (d a b.symm c))⟩
def kH.then {d:Nat->Prop}(b:kH Z w w')(c:kH d w' u)(f:∀a,a<w.heap.size->d a->Z a):kH Z w u:=
 ⟨c.os.trans b.os,c.tape.trans b.tape,c.output.trans b.output,YM b.size c.size,λa d e=>by
  rw[c.block a (WK d b.size) (λc=>e (f a d c)),b.block a d e]⟩
def kH.grown {f:Nat->Prop}(b:kH f w w')(c:Nat)(d:∀a,a<w.heap.size->f a->a=c):w.grownBy w' (some c):=
 ⟨b.os,b.tape,b.output,b.size,λa c e=>b.block a c (λb=>e (by rw[d a c b]))⟩
def Zn (b a:Int)(d:0<a):b / a=(if b.tmod a<0 then b.tdiv a-1 else b.tdiv a)/\b % a=(if b.tmod a<0 then b.tmod a+a else b.tmod a):=by
 have f:a*b.tdiv a+b.tmod a=b:=Int.mul_tdiv_add_tmod b a;have g:=Int.tmod_lt_of_pos b d;have h:-a<b.tmod a:=by
  have:=Int.tmod_lt_of_pos (-b) d;rw[Int.neg_tmod]at this;omega
 by_cases c:b.tmod a<0
 .rw[Q9 c,Q9 c];have e:a*(b.tdiv a-1)+(b.tmod a+a)=b:=by rw[Int.mul_sub];omega
  have:=Int.ediv_emod_unique d (a:=b) (r:=b.tmod a+a) (q:=b.tdiv a-1);have:=this.2 ⟨gO,gO,gO⟩;exact⟨this.1,this.2⟩
 rw[X9 c,X9 c];have:=Int.ediv_emod_unique d (a:=b) (r:=b.tmod a) (q:=b.tdiv a);have:=this.2 ⟨gO,gO,gO⟩;exact⟨this.1,this.2⟩
def JD (g:W)(b a:Nat)(e f:Int)(d:Ending)(c:W):Prop:=
 d=.returned (.tuple #[.pointer (S b),.pointer (S a)])/\kD c b e/\kD c a f/\kH (λd=>d=b\/d=a) g c
def afD (b a:Int)(d:0<=b)(g:b<4294967296)(f:0<=a)(h:a<4294967296):bits .or .u64 (a*4294967296) b=a*4294967296+b:=by rw[u64_or (a*4294967296) b gO gO d gO];obtain⟨b,rfl⟩:=Int.eq_ofNat_of_zero_le d;obtain⟨a,rfl⟩:=Int.eq_ofNat_of_zero_le f;have e:((a:Int)*4294967296).toNat=a*4294967296:=gO;rw[e,Int.toNat_natCast];have c:=Nat.shiftLeft_add_eq_or_of_lt (show b<2^32 by omega) a;rw[Nat.shiftLeft_eq]at c;rw[show a*4294967296=a*2^32 by rfl,<-c];omega
def afE (b:L)(a:Nat)(e:Int)(h:a<b.length)(d:Nat)(i:a<d):dJ (b.set a e) d=dJ b d+(e-aB b a)*P a:=by
 have g:∀c,aB (b.set a e) c=if c=a then e else aB b c:=λc=>mP _ _ _ _ h;obtain⟨f,rfl⟩:∃f,d=a+1+f:=⟨d-(a+1),gO⟩;clear i
 induction f with
 | zero=>
  show dJ (b.set a e) a+_=dJ b a+_+_;rw[g,Q9 rfl,jT _ b a (λc a=>by rw[g,X9 gO]),Int.sub_mul];omega
 | succ f c=>
  rw[<-Nat.add_assoc,dJ,dJ,c,g,X9 gO];omega
def akR (a:L)(b:Nat)(c:Int)(d:b<a.length):val (a.set b c)=val a+(c-aB a b)*P b:=by unfold val;rw[XB];exact afE a b c d a.length d
def El (c:L)(d:Int)(a:Nat)(e:Int)(b:L):Prop:=
 b.length=c.length/\WF b/\val b=P a*(upper c a / d)/\e=upper c a % d/\∀c,c<a->aB b c=0
def Zo (a:L)(c:Int)(d:WF a):El a c a.length 0 (List.replicate a.length 0):=by have b:=La a a.length d (Q6 _);refine⟨by simp,wC _,?_,by rw[b];simp,λa _=>mQ _ _⟩;rw[b];unfold val;rw[za];simp
def Zp (c:L)(a:Int)(b:Nat)(d:Int)(m:L)(l:WF c)(k:0<a)(x:a<4294967296)(z:b<c.length)(r:El c a (b+1) d m):0<=d/\d<a/\0<=(d*4294967296+aB c b) / a/\(d*4294967296+aB c b) / a<4294967296/\El c a b ((d*4294967296+aB c b) % a) (m.set b ((d*4294967296+aB c b) / a)):=by
 have⟨w,p,q,f,h⟩:=r;have u:0<=d:=by rw[f];exact FT _ gO
 have v:d<a:=by rw[f];exact H7 _ k
 have C:=l b;have n:0<=(d*4294967296+aB c b) / a:=F7 gO gO;have o:(d*4294967296+aB c b) / a<4294967296:=by
  apply Int.ediv_lt_of_lt_mul k;have:(d+1)*4294967296<=a*4294967296:=WA gO gO;omega
 refine⟨u,v,n,o,?_⟩;have dig:=vC c l b;have i:=Int.emod_add_mul_ediv (upper c (b+1)) a;rw[<-f]at i;generalize y:upper c (b+1) / a=g at *
 generalize B:d*4294967296+aB c b=e at *
 have j:upper c b=e+a*(4294967296*g):=by
  rw[dig,<-i,Int.mul_add,Int.mul_left_comm 4294967296 a];omega
 have s:upper c b / a=e / a+4294967296*g:=by rw[j,Int.add_mul_ediv_left _ _ gO]
 have t:upper c b % a=e % a:=by rw[j,Int.add_mul_emod_self_left]
 refine⟨by simp;omega,xM _ _ _ p gO n o,?_,t.symm,λc d=>by rw[mP _ _ _ _ gO,nO];exact h c gO⟩;rw[akR _ _ _ gO,q,h b gO,s,xK,Int.mul_add,FP,Int.sub_zero,V7 (e / a)];omega
def afF (a:L)(d:Int)(f:Int)(b:L)(j:El a d 0 f b):WF b/\val b=val a / d/\f=val a % d/\b.length=a.length:=by
 have⟨g,h,c,e,k⟩:=j;have i:upper a 0=val a:=by unfold upper;rw[yZ];exact Int.ediv_one _
 rw[i]at c e;rw[yZ,Int.one_mul]at c;exact⟨h,c,e,g⟩
def acs (h:W)(e b:Int)(g:Nat)(f:Ending)(d:W):Prop:=
 ∃c a,f=.returned (.tuple #[c,.int .u32 (e % b)])/\Sl d c a/\WF a/\Top a/\val a=e / b/\a.length<=g/\h.grownBy d none
def afG (p:V)(a:L)(b:Int)(f:W)(k:Sl f p a)(l:WF a)(Q:a.length<=40)(m:0<b)(u:b<4294967296):Calls prog 161 #[p,.int .u32 b] f (acs f (val a) b a.length):=by
 obtain⟨E,H,rfl,y⟩:=jm k;have x:=λc=>uF (a.length:Int) gO gO c;rw[Int.toNat_natCast]at x;have s:=Zd y;go_enter func161,ntmps161;go_wp2_with fail;go_loopw [7,8] (λi d wr=>∃(g:Nat) (c:Int) (e:L),i=.int .u64 c/\d=I ((g:Int)-1)/\g<=a.length/\Hid (El a b g c e)/\wr=f.alloc (.cells (arr e) 160)) (λ_ d _=>(intOf d+1).toNat)
 case atStart=>exact⟨a.length,0,_,rfl,rfl,Q6 _,Zo a b l,rfl⟩
 case round=>
  obtain⟨g,c,e,rfl,rfl,P,j,rfl⟩:=hrel;have i:Hid (e.length=a.length):=j.1;cases g with
  | zero=>
   have d:=Zd<|afF a b c e j;have q:0<=c:=by rw[d.out.2.2.1];exact FT _ gO
   have D:c<b:=by rw[d.out.2.2.1];exact H7 _ m
   have G:c % 4294967296=c:=gO;have k:=Zd<|vR f e a.length i;go_wp2_with fail;refine(qw _ e _ k d.1 (by rw[i.out];omega)).mono ?_;rintro F J ⟨o,t,rfl,v,w,z,B,n,rfl⟩;have r:=Zs (acs f (val a) b a.length (.returned (.tuple #[o,.int .u32 c])) _) (⟨o,t,by rw[<-d.out.2.2.1],v,w,z,B.trans d.2.1,by rw[i.out]at n;exact n,aj _ _ _⟩);generalize acs f (val a) b a.length=C at *
   go_wp2_with fail;exact r
  | succ d=>
   obtain⟨G,rfl,M,w⟩:=s gO;have J:=w d gO;have⟨B,C⟩:=l d;have⟨q,D,n,z,v⟩:=Zp a b d c e l m u gO j;have r:=Zd v;have K:=oz e d (by rw[i.out];omega);have R:=afD (aB a d) c B C q gO;have t:(((d+1:Nat)):Int)-1=(d:Int):=gO;have o:0<=c*4294967296+aB a d:=gO;have O:¬b=0:=gO;have T:(c*4294967296+aB a d).tdiv b=(c*4294967296+aB a d) / b:=YS o;have U:(c*4294967296+aB a d).tmod b=(c*4294967296+aB a d) % b:=V3 o;have X:IntKind.u64.wrap ((c*4294967296+aB a d) / b)=(c*4294967296+aB a d) / b:=by rw[IntKind.wrap_u64];exact Int.emod_eq_of_lt n gO
   have F:(c*4294967296+aB a d) / b % 4294967296=(c*4294967296+aB a d) / b:=Int.emod_eq_of_lt n z;rw[t];go_wp2;go_roundw
   case rel=>exact⟨d,_,_,rfl,rfl,gO,r,by rw[mG]⟩
   case measure=>simp[intOf]
def adX (i:W)(f g:Int)(h:Ending)(c:W):Prop:=
 ∃d a e b,h=.returned (.tuple #[d,e])/\Sl c d a/\WF a/\Top a/\val a=f / g/\a.length<=8/\Sl c e b/\WF b/\Top b/\val b=f % g/\b.length<=8/\i.grownBy c none
def afH (y G:V)(b a:L)(e:W)(n:Sl e y b)(B:Sl e G a)(z:WF b)(k:WF a)(F:Top b)(tb:Top a)(la:3<=b.length)(av:b.length<=8)(o:a.length=1)(af:val a≠0):Calls prog 133 #[y,G] e (adX e (val b) (val a)):=by
 have ag:=(su a k).1;have U:=(su a k).2;have C:=DR a o;have⟨d0,d1⟩:=k 0;have ah:val a<=val b:=by
  have c:=JI b z F (λm=>by rw[m]at la;simp at la);have d:=xL 1 (b.length-1) gO;rw[o]at U;omega
 have hc:0<=gI (val b) (val a):=by unfold gI;rw[X9 gO];split<;>omega
 have l:=Zd<|wX y G b a e n B z k F tb gO gO;have M:=Zd λg=>afG y b (aB a 0) (e.drewN g) (jQ n (dK e g none)) z gO gO d1;have ab:0<=val b % aB a 0:=FT _ gO;have al:val b % aB a 0<aB a 0:=H7 _ gO;have R:WF [val b % aB a 0]:=λaa=>by
  match aa with
  | 0=>exact⟨ab,by show val b % aB a 0<4294967296;omega⟩
  | aa+1=>exact⟨by simp[aB],by simp[aB]⟩
 have Q:val [val b % aB a 0]=val b % val a:=by rw[DR _ rfl,C];rfl
 have P:=Zd λc=>qw (.slice (S c.heap.size) 1 1) [val b % aB a 0] (c.alloc (.cells #[.int .u32 (val b % aB a 0)] 160)) (vR c [val b % aB a 0] 1 rfl) R (by simp);have J:=Zd (show ∀g j f c i d,Sl c j f->WF f->Top f->val f=val b / aB a 0->f.length<=b.length->(e.drewN g).grownBy c none->Sl (c.alloc (.cells #[.int .u32 (val b % aB a 0)] 160)) i d->WF d->Top d->val d=val [val b % aB a 0]->d.length<=1->adX e (val b) (val a) (.returned (.tuple #[j,i])) (c.alloc (.cells #[.int .u32 (val b % aB a 0)] 160))from
  λg j f c i d t u v w E x p q r s D=>⟨j,f,i,d,rfl,jQ t (aj _ _ none),u,v,by rw[w,C],gO,p,q,r,by rw[s,Q],gO,ay (ay (dK e g none) x) (aj _ _ none)⟩)
 obtain⟨ac,Z⟩:∃ac:Int,Hid (ac=gI (val b) (val a)):=⟨_,rfl⟩;rw[<-Z.out]at l hc;obtain⟨ao,ca,rfl,-⟩:=jm n;obtain⟨ap,cb,rfl,Y⟩:=jm B;obtain⟨bb,rfl,aq,X⟩:=Y gO;have c0:=X 0 gO;have ar:(3:Int)<=b.length:=gO;have ai:(a.length:Int)=1:=gO;rw[o]at l ⊢;clear n B Z z k F tb ag U af C ah X Y R Q ab al ai;generalize adX e (val b) (val a)=an at *
 generalize aB a 0=ad at *
 generalize T:val b % ad=am at *
 have K:=Zd T;clear o T;go_enter func133,ntmps133;go_wp2_with fail;refine l.mono ?_;rintro m c ⟨rfl,g,rfl⟩;clear l;go_wp2_with fail;refine(M g).mono ?_;rintro m c ⟨j,f,rfl,t,u,v,w,E,x⟩;have H:=Zd λi d=>J g j f c i d t u v w E x;have O:=Zd<|P c;clear M P J t u v w E x;rw[K.out];clear K;go_wp2_with fail;refine O.mono ?_;rintro m w2 ⟨i,d,rfl,p,q,r,s,D,rfl⟩;have ae:=Zd<|H i d p q r s D;clear H O p q r s D;go_wp2_with fail;exact ae
def afI (d e:V)(a b:L)(c:W)(f:Sl c d a)(g:Sl c e b)(k:WF a)(l:WF b)(i:Top a)(j:Top b)(r:a.length<=8)(s:b.length=1)(h:val b≠0):Calls prog 133 #[d,e] c (adX c (val a) (val b)):=by
 by_cases o:a.length<=2
 .refine(Zm d e a b c f g k l i j o gO h).mono ?_;rintro E H ⟨C,p,D,q,m,x,y,z,B,G,t,u,v,w,F,n⟩;exact⟨C,p,D,q,m,x,y,z,B,gO,t,u,v,w,gO,n⟩
 exact afH d e a b c f g k l i j gO r s h
def P1w:P 1=4294967296:=by decide
def Zq (d r s c:Nat)(g f:Int)(b:W)(O:Struct b d)(hr:Struct b c)(P:d≠c)(hx:kD b r g)(hy:kD b s f)(ae:0<f)(af:f<4294967296):Calls prog 105 #[.pointer (S d),.pointer (S r),.pointer (S s),.pointer (S c)] b (R_ b d c (g.tdiv f) (g.tmod f)):=by
 have⟨H,E,x0,x1,xb,xs,xw,xt,R,xl⟩:=fG hx;have⟨J,m,y0,y1,yb,ys,U,T,q,yl⟩:=fG hy;have ad:=Ey m U T 1 (by rw[P1w,q];omega);have ac:m.length≠0:=λa=>by rw[List.length_eq_zero_iff.1 a,nA]at q;omega
 have aa:val m≠0:=by rw[q];omega
 have X:=Zd λk=>afI H J E m (b.drewN k) (jQ xs (dK b k none)) (jQ ys (dK b k none)) xw U xt T xl gO aa;have Y:=Zd (show ∀k n i o j e,Sl e n i->WF i->Top i->val i=val E / val m->i.length<=8->Sl e o j->WF j->Top j->val j=val E % val m->j.length<=8->(b.drewN k).grownBy e none->
  (e.cell? (A r 1)=some H/\e.cell? (A s 1)=some J)/\
  Calls prog 96 #[.pointer (S d),.bool (decide (g<0) != decide (f<0)),n] e (λa p=>a=.returned (.pointer (S d))/\
   Calls prog 96 #[.pointer (S c),.bool (decide (g<0)),o] p (λa K=>a=.returned (.pointer (S c))/\R_ b d c (g.tdiv f) (g.tmod f) (.returned (.tuple #[.pointer (S d),.pointer (S c)])) K))from by
  intro k n i o j e x y z B G t u v w F Q;have l:b.grownBy e none:=ay (dK b k none) Q;refine⟨⟨by rw[fC l xb];exact x1,by rw[fC l yb];exact y1⟩,?_⟩;refine(ku d _ n i e (bQ O l (by simp)) x y z gO).mono ?_;rintro a p ⟨rfl,Z,C⟩;refine⟨rfl,?_⟩;have D:Struct p c:=bQ (bQ hr l (by simp)) C (λa=>P (by cases a;rfl));refine(ku c _ o j p D (Du t C (λk a=>by cases a;exact bQ O l (by simp))) u v gO).mono ?_;rintro a K ⟨rfl,i3,M⟩;refine⟨rfl,rfl,?_,?_,p,bT l C (some d) (λk a _=>by cases a) (λk a _=>a),M,D⟩
  .have:=dR Z M D P;rw[B,R,q,<-mO,Vh]at this;exact this
  have:=i3;rw[w,R,q,<-mO,adW]at this;exact this)
 generalize decide (g<0)=M at *
 generalize decide (f<0)=Q at *
 generalize R_ b d c (g.tdiv f) (g.tmod f)=ab at *
 go_enter func105,ntmps105;go_wp2_with fail;go_quiet (fail);go_wp2_with fail;go_region_held3 (λb=>b.cell? (A r 1)=some H/\b.cell? (A s 1)=some J) (first|exact Z|simp[*])
  (first
   | (go_at_call 133;refine(X _).mono ?_;rintro a e ⟨n,i,o,j,rfl,x,y,z,B,G,t,u,v,w,F,l⟩;have⟨C,D⟩:=Y _ n i o j e x y z B G t u v w F l;have Z:=Zd C;have K2:=Zd D;clear x y z B G t u v w F l C D))
 go_wp2_with fail;rw[show(!(M==Q))=(M != Q)from rfl];refine K2.mono ?_;rintro a p ⟨rfl,D⟩;have l:=Zd D;go_wp2_with fail;refine l.mono ?_;rintro a K ⟨rfl,k4⟩;have C:=Zd k4;go_wp2_with fail;exact C
def aiI (a b:Int)(g:0<b)(e:-6277101735386680763835789423207666416102355444464034512896<a)(f:a<6277101735386680763835789423207666416102355444464034512896):-6277101735386680763835789423207666416102355444464034512896<a.tdiv b/\a.tdiv b<6277101735386680763835789423207666416102355444464034512896:=by
 rw[<-Vh];have c:0<=(a.natAbs:Int) / (b.natAbs:Int):=F7 gO gO;have d:(a.natAbs:Int) / (b.natAbs:Int)<=a.natAbs:=Int.ediv_le_self _ gO;generalize (a.natAbs:Int) / (b.natAbs:Int)=h at *
 cases (decide (a<0) != decide (b<0))<;>simp[mO]<;>omega
def akS:6277101735386680763835789423207666416102355444464034512896*2<P 8:=by decide +kernel
def Zr (f C u e:Nat)(g d:Int)(c:W)(J:Struct c f)(G:Struct c e)(K:f≠e)(H:kD c C g)(x:kD c u d)(o:0<d)(ab:d<4294967296)(h1:-6277101735386680763835789423207666416102355444464034512896<g)(h2:g<6277101735386680763835789423207666416102355444464034512896):Calls prog 163 #[.pointer (S f),.pointer (S C),.pointer (S u),.pointer (S e)] c (JD c f e (g / d) (g % d)):=by
 obtain⟨p,dr⟩:=Zn g d o;obtain⟨al,am⟩:=aiI g d o h1 h2;have ai:=Int.tmod_lt_of_pos g o;have ah:-d<g.tmod d:=by
  have:=Int.tmod_lt_of_pos (-g) o;rw[Int.neg_tmod]at this;omega
 have h8:=akS;obtain⟨_,_,zz⟩:=id J;obtain⟨_,_,a⟩:=id G;have ap:=aO zz;have ag:=aO a;have an:=lS H;have ao:=lS x;clear zz a;have i:=aj c iW none;have T:=Zd<|abe c.heap.size u d (c.alloc iW) (dW c) (bP x i) gO gO;have s:=Zs (∀j b k,kD j f b->kD j e k->b=g / d->k=g % d->kH (λa=>a=f\/a=e) c j->JD c f e (g / d) (g % d) (.returned (.tuple #[.pointer (S f),.pointer (S e)])) j) (λj b k l m b k n=>⟨rfl,by rw[<-b];exact l,by rw[<-k];exact m,n⟩);have k:=Zd<|And.intro p dr;clear p dr;generalize JD c f e (g / d) (g % d)=ae at *
 go_enter func163,ntmps163;go_wp2_with fail;refine T.mono ?_;rintro b w1 ⟨rfl,Z,l⟩;have x1:=dR (bP H i) l (dW c) gO;have y1:=dR (bP x i) l (dW c) gO;have O:=bQ (bQ J i (by simp)) l (λb=>by cases b;omega);have m1:=bQ (bQ G i (by simp)) l (λb=>by cases b;omega);have U:=Zs (kH (λa=>a=f\/a=e) c w1) (kH.then (kH.of i (λa b=>by cases b)) (kH.of (f:=λa=>a=c.heap.size) l (λa b _=>by cases b;rfl)) (λp m b=>gO));have Q:=Zd<|Zq f C u e g d w1 O m1 K x1 y1 o ab;clear T H x J G i l x1 y1;go_wp2_with fail;refine Q.mono ?_;rintro b w2 ⟨rfl,y,r,ad,i,F,sb⟩;have v:=dR (dR Z i O gO) F sb gO;have t:=Zs (kH (λa=>a=f\/a=e) c w2) (kH.then (kH.then U (kH.of (f:=λa=>a=f\/a=e) i (λa b _=>by cases b;exact Or.inl rfl)) (λp _ b=>b)) (kH.of (f:=λa=>a=f\/a=e) F (λa b _=>by cases b;exact Or.inr rfl)) (λp _ b=>b));obtain⟨vr,lr,M,ac,-⟩:=fG r;obtain⟨vd,ld,D,aa,-⟩:=fG v;clear Q Z O m1 U i F sb ad ac aa;by_cases m:g.tmod d<0
 .rw[KN m]at M;rw[KF gO]at D;rw[Q9 m,Q9 m]at k;go_wp2_with fail;refine(kN 1 _ gO gO).mono ?_;rintro b w3 ⟨b3,rfl,af,i3,n⟩;have q:=bP y n;have r3:=bP r n;have d3:=bP v n;have X:=Zs (kH (λa=>a=f\/a=e) c w3) (kH.then t (kH.of (f:=λa=>False) n (λa b=>by cases b)) (λp _ b=>b.elim));have R:=Zd<|Ch f f b3 (g.tdiv d) 1 w3 (dA q) q i3 gO gO;clear y r v t n i3 M D;go_wp2_with fail;refine R.mono ?_;rintro b w4 ⟨rfl,q4,w⟩;have z:=dR r3 w (dA q) (λb=>K b.symm);have d4:=dR d3 w (dA q) gO;have Y:=Zs (kH (λa=>a=f\/a=e) c w4) (kH.then X (kH.of (f:=λa=>a=f\/a=e) w (λa b _=>by cases b;exact Or.inl rfl)) (λp _ b=>b));have P:=Zd<|kP e e c.heap.size (g.tmod d) d w4 (dA z) z d4 gO gO;clear R q r3 d3 X w;go_wp2_with fail;refine P.mono ?_;rintro b j ⟨rfl,r5,E⟩;have q5:=dR q4 E (dA z) K;have B:=Zd<|s j _ _ q5 r5 k.1.symm k.2.symm (kH.then Y (kH.of (f:=λa=>a=f\/a=e) E (λa b _=>by cases b;exact Or.inr rfl)) (λp _ b=>b));clear P q4 z d4 Y E q5 r5 s;go_wp2_with fail;exact B
 rw[KF m]at M;rw[X9 m,X9 m]at k;have B:=Zd<|s w2 _ _ y r k.1.symm k.2.symm t;clear s t y r v D;go_wp2_with fail;exact B
def acu (c i j:Nat)(d e:Int)(b:W)(l:Struct b c)(r:kD b i d)(s:kD b j e)(t:0<e)(u:e<4294967296)(p:-6277101735386680763835789423207666416102355444464034512896<d)(q:d<6277101735386680763835789423207666416102355444464034512896):Calls prog 136 #[.pointer (S c),.pointer (S i),.pointer (S j)] b (gH b c (d % e)):=by
 have g:=aj b iW none;have⟨_,_,v⟩:=id l;have x:=aO v;have m:=Zd<|Zr b.heap.size i j c d e (b.alloc iW) (dW b) (bQ l g (by simp)) gO (bP r g) (bP s g) t u p q;have o:=Zd (show ∀a f,JD (b.alloc iW) b.heap.size c (d / e) (d % e) a f->gH b c (d % e) (.returned (.pointer (S c))) f from by
  rintro a f ⟨-,-,k,n⟩;refine⟨rfl,k,kH.grown (f:=λi=>i=c) (kH.then (kH.of g (λi a=>by cases a)) n (λg g a=>?_)) c (λi _ a=>a)⟩;rcases a with a|a
  .omega
  exact a)
 generalize gH b c (d % e)=w at *
 go_enter func136,ntmps136;go_wp2_with fail;refine m.mono ?_;intro a f k;have n:=Zd<|o a f k;obtain⟨rfl,-⟩:=k;go_wp2_with fail;exact n
def adY (b g j:Nat)(d e:Int)(a:W)(k:Struct a b)(s:kD a g d)(t:kD a j e)(u:e≠0)(q:-18446744073709551616<d)(r:d<18446744073709551616):Calls prog 54 #[.pointer (S b),.pointer (S g),.pointer (S j)] a (gH a b (d.tdiv e)):=by
 have i:=aj a iW none;have x:b<a.heap.size:=by have⟨z,B,p⟩:=k;exact aO p
 have n:=Zd<|acr b g j a.heap.size d e (a.alloc iW) (bQ k i (by simp)) (dW a) gO (bP s i) (bP t i) u q r;have m:=Zd (show ∀c,(∃f,(a.alloc iW).grownBy f (some b)/\f.grownBy c (some a.heap.size)/\Struct f a.heap.size)->kD c b (d.tdiv e)->gH a b (d.tdiv e) (.returned (.pointer (S b))) c from λc ⟨f,c,j,_⟩ g=>⟨rfl,g,by
  refine bT (bT i c (some b) (λg c _=>by cases c) (λg c _=>c)) j (some b) (λg c _=>c) (λg c g=>by cases c;omega)⟩)
 generalize gH a b (d.tdiv e)=w at *
 go_enter func54,ntmps54;go_wp2_with fail;refine n.mono ?_;rintro c f ⟨rfl,v,y,o⟩;have l:=Zd<|m f o v;go_wp2_with fail;exact l
def Steps (c:W)(b:Addr)(a:Nat):Prop:=c.cell? (A 2 0)=some (.slice (some b) 15 a)/\15<=a/\∀a,a<15->c.cell? (b.add a)=some (I (nJ a))
def kS {b:Addr}(a:Steps w b n)(c:w.grownBy w' none):Steps w' b n:=⟨aU c a.1,a.2.1,λd b=>aU c (a.2.2 d b)⟩
def afO (b:Int)(a:Nat)(d:0<=b)(e:b<=32767):wrap64 ((2:Int)^(14-a))=2^(14-a)/\((2:Int)^(14-a)==0)=false/\(0:Int)<2^(14-a)/\∃c:Int,b.tdiv (2^(14-a))=c/\0<=c/\c<=32767/\sD b a=c % 2:=by have hp:(0:Int)<2^(14-a):=Int.pow_pos (by decide);have f:(2:Int)^(14-a)<=16384:=(alE (14-a) 14 gO).2;refine⟨Je _ (by generalize (2:Int)^(14-a)=c at *;omega) (by generalize (2:Int)^(14-a)=c at *;omega),beq_eq_false_iff_ne.2 (Int.ne_of_gt hp),hp,b / 2^(14-a),YS d,F7 d (VR hp),Int.le_trans (Int.ediv_le_self _ d) e,rfl⟩
def acI (e:Nat)(b:Int)(hn:e<=30)(h1:0<=b)(h2:b<=32767)(ac:Addr)(ad:Nat)(g:W)(Z:Steps g ac ad):Calls prog 117 #[.int .i64 e,.int .i64 b] g λf a=>f=.returned (.tuple #[.int .i64 (Iu e b),.int .i64 0])/\g.grownBy a none:=by
 have HS:=Zd Z;have n:=Zd<|SX b;have w:=Zd<|acZ e b hn;have Q:=Zs (Iu e b=pw b 15 / 2^(30-e)) (rfl);clear Z;go_enter func117,ntmps117;go_wp2_with fail;refine(kN 1073741824 _ gO gO).mono ?_;rintro f w1 ⟨c,rfl,aa,i1,X⟩;have U:=Zs (kD w1 c 1073741824/\g.grownBy w1 none) (⟨i1,X⟩);clear i1 X;go_wp2_with fail;go_loopw [7] (λd wr=>∃a:Nat,d=.int .i64 a/\a<=15/\Hid (kD wr c (pw b a)/\g.grownBy wr none)) (λd _=>15-(intOf d).toNat)
 case atStart=>exact⟨0,rfl,gO,U⟩
 case round=>
  obtain⟨a,rfl,hk,d⟩:=hrel;clear U;by_cases af:a=15
  .subst af;obtain⟨E,F⟩:=n 15 gO;obtain⟨-,-,J⟩:=w;have H:0<=Iu e b:=by rw[Q.out];exact F7 gO (VR (Int.pow_pos (by decide)))
   have j:=Zd<|Lb c c (pw b 15) (30-e) gO wr (dA d.1) d.1 gO;rw[show(((30-e:Nat)):Int)=30-(e:Int) by omega,<-Q.out]at j;generalize i:Iu e b=q at *
   have p:=Zd i;clear i;go_wp2_with fail;refine j.mono ?_;rintro f m ⟨rfl,o,k⟩;have l:=Zd<|aG d.2 k aa;have I:=Zd<|oC c q m o gO gO;clear j k o d;go_wp2_with fail;refine I.mono ?_;rintro f u ⟨rfl,rfl⟩;clear I;go_wp2_with fail;go_ret2;exact⟨by rw[p.out];rfl,l⟩
  obtain⟨E,F⟩:=n a hk;obtain⟨r1,r2⟩:=YC a gO;obtain⟨m1,m2⟩:=alm _ _ E F r1 r2;obtain⟨H,J⟩:=n (a+1) gO;obtain⟨am,z0,hp,P,q1,f1,f2,q⟩:=afO b a h1 h2;have ag:=kS (kS HS d.2) (aj wr (.cells #[.bool false,N] 113) none);obtain⟨s1,s2,C⟩:=ag;have s4:=C a gO;have ai:=lS d.1;by_cases l:sD b a=1
  .have f:=Zs (pw b (a+1)=Bg (pw b a) (nJ a)) (by show(if sD b a=1 then _ else _)=_;rw[Q9 l]);have ae:(P % 2==1)=true:=by rw[<-q,l];decide
   have O:=Zs (Bg (pw b a) (nJ a)=pw b a+pw b a*nJ a / 1073741824) (rfl);rw[f.out,O.out]at H J;clear C q l n w;generalize hr:nJ a=p at *
   generalize hx:pw b a=i at *
   have HR:=Zd hr;have ah:=Zd hx;clear hr hx;go_wp2_with fail;refine(eP p _ gO gO).mono ?_;rintro y m ⟨bw,rfl,al,o,k⟩;have K:=bQ (dW wr) k (by simp);have v:=Zd<|ay (aj wr iW none) k;have G:=bP d.1 v;have R:=Zd<|jh wr.heap.size c bw i p m K G o (by have:=uH;omega) (by have:=uH;omega);have r:=Zs (kD m c i/\g.grownBy m none/\Struct m wr.heap.size) (⟨G,ay d.2 v,K⟩);have ab:=d.2.size;clear k K G o v d s1 s4;go_wp2_with fail;refine R.mono ?_;rintro y u ⟨rfl,t,z⟩;have x:=Zs (kD u c i/\g.grownBy u none) (⟨dR r.1 z r.2.2 gO,aG r.2.1 z ab⟩);have j:=Zd<|Lb wr.heap.size wr.heap.size (i*p) 30 gO u (dA t) t m1;rw[show((30:Nat):Int)=30 from rfl,show(2:Int)^30=1073741824 by decide]at j;have T:=Zd<|dA t;clear R z t r;go_wp2_with fail;refine j.mono ?_;rintro y D ⟨rfl,i4,B⟩;have s:=Zs (kD D c i/\g.grownBy D none) (⟨dR x.1 B T gO,aG x.2 B ab⟩);have M:=Zd<|kP c c wr.heap.size i (i*p / 1073741824) D (dA s.1) s.1 i4 (by have:=uH;omega) (by have:=uH;omega);clear j B i4 x T;go_wp2_with fail;refine M.mono ?_;rintro y w5 ⟨rfl,i5,Y⟩;have W5:=Zs (kD w5 c (i+i*p / 1073741824)/\g.grownBy w5 none) (⟨i5,aG s.2 Y aa⟩);clear M Y i5 s;go_wp2_with fail;go_roundw
   case rel=>exact⟨a+1,by go_num,gO,by rw[f.out,O.out];exact W5⟩
   case measure=>simp[intOf];omega
  have f:=Zs (pw b (a+1)=pw b a) (by show(if sD b a=1 then _ else _)=_;rw[X9 l]);have ae:(P % 2==1)=false:=by rw[<-q];exact beq_eq_false_iff_ne.2 l
  clear C q l n w s1 s4 E F r1 r2 m1 m2 H J;go_wp2_with fail;go_roundw
  case rel=>exact⟨a+1,by go_num,gO,by rw[f.out];exact d⟩
  case measure=>simp[intOf];omega
def ad7 (a:Int)(b:a<=9223372036854775807):0<=nM a/\nM a<=9223372036854775807:=by unfold nM;split<;>omega
def amD:784637716923335095224261902710254454442933591094742482943<P 8:=by rw[P8];decide
def ad8 (a b:Int)(c:0<=a)(g:a<=9223372036854775807)(f:0<=b)(j:b<=9223372036854775807):0<=a*a/\a*a<=85070591730234615847396907784232501249/\0<=a*a*b/\a*a*b<=784637716923335095224261902710254454442933591094742482943:=by have d:0<=a*a:=ZA c c;have e:a*a<=9223372036854775807*9223372036854775807:=Int.mul_le_mul g g c gO;have h:0<=a*a*b:=ZA d f;have i:a*a*b<=9223372036854775807*9223372036854775807*9223372036854775807:=Int.mul_le_mul e j f gO;exact⟨d,e,h,i⟩
def Br (a c b d:Int)(c1:a<=9223372036854775807)(e1:c<=9223372036854775807)(d1:b<=9223372036854775807)(f1:d<=9223372036854775807)(e:W):Calls prog 111 #[I a,I c,I b,I d] e (fP e (.bool (Bz a c b d))):=by
 by_cases v:c<=0
 .have j:Bz a c b d=false:=by unfold Bz;rw[Q9 v]
  rw[j];clear j;have s:=Zs (fP e (.bool false) (.returned (.bool false)) e) (⟨rfl,aM _ _⟩);generalize fP e (.bool false)=B at *
  go_enter func111,ntmps111;go_wp2_with fail;exact s
 by_cases H:d<=0
 .have j:Bz a c b d=true:=by unfold Bz;rw[X9 v,Q9 H]
  rw[j];clear j;have s:=Zs (fP e (.bool true) (.returned (.bool true)) e) (⟨rfl,aM _ _⟩);generalize fP e (.bool true)=B at *
  go_enter func111,ntmps111;go_wp2_with fail;exact s
 have j:Bz a c b d=decide (0<gI (nM a*nM a*d) (nM b*nM b*c)):=by
  unfold Bz;rw[X9 v,X9 H];rw[decide_eq_decide];unfold gI;split<;>(try split)<;>omega
 rw[j];clear j;have⟨aa,ab⟩:=ad7 a c1;have⟨ac,ad⟩:=ad7 b d1;have o:=Zd<|ad8 (nM a) d aa ab gO f1;have p:=Zd<|ad8 (nM b) c ac ad gO e1;have i:=Zd amD;have hc:(if 0<a then a else 0)=nM a/\(if a<0 then 0 else a)=nM a:=⟨by unfold nM;split<;>split<;>omega,rfl⟩;have hd:(if 0<b then b else 0)=nM b/\(if b<0 then 0 else b)=nM b:=⟨by unfold nM;split<;>split<;>omega,rfl⟩;go_enter func111,ntmps111;go_wp2_with fail;refine(eP (nM a) e gO gO).mono ?_;rintro k w1 ⟨l,rfl,ah,J,g1⟩;have ae:=lS J;go_wp2_with fail;refine(eP (nM b) w1 gO gO).mono ?_;rintro k w2 ⟨m,rfl,ai,y2,C⟩;have q:=bP J C;have O:=Zd<|ay g1 C;generalize nM a=f at *
 generalize nM b=g at *
 have X:=Zd<|jh l l l f f w2 (dA q) q q (by have:=o.out;have:=i.out;omega) (by have:=o.out;have:=i.out;omega);go_wp2_with fail;refine X.mono ?_;rintro k w3 ⟨rfl,x3,D⟩;have y3:=dR y2 D (dA q) gO;have P:=Zd<|aG O D gO;go_wp2_with fail;refine(eP d w3 gO gO).mono ?_;rintro k w4 ⟨bf,rfl,ag,f4,t⟩;have x:=bP x3 t;have y4:=bP y3 t;have Q:=Zd<|ay P t;have Y:=Zd<|jh l l bf (f*f) d w4 (dA x) x f4 (by have:=o.out;have:=i.out;omega) (by have:=o.out;have:=i.out;omega);go_wp2_with fail;refine Y.mono ?_;rintro k w5 ⟨rfl,x5,E⟩;have r:=dR y4 E (dA x) gO;have z:=Zd<|aG Q E gO;have Z:=Zd<|jh m m m g g w5 (dA r) r r (by have:=p.out;have:=i.out;omega) (by have:=p.out;have:=i.out;omega);go_wp2_with fail;refine Z.mono ?_;rintro k w6 ⟨rfl,y6,F⟩;have x6:=dR x5 F (dA r) gO;have R:=Zd<|aG z F (by have:=z.size;omega);go_wp2_with fail;refine(eP c w6 gO gO).mono ?_;rintro k w7 ⟨be,rfl,af,e7,u⟩;have x7:=bP x6 u;have y:=bP y6 u;have T:=Zd<|ay R u;have M4:=Zd<|jh m m be (g*g) c w7 (dA y) y e7 (by have:=p.out;have:=i.out;omega) (by have:=p.out;have:=i.out;omega);go_wp2_with fail;refine M4.mono ?_;rintro k w ⟨rfl,y8,G⟩;have x8:=dR x7 G (dA y) gO;have U:=Zd<|aG T G gO;have K:=Zd<|yc l m (f*f*d) (g*g*c) w x8 y8;have M:=Zs (∀n,fP e (.bool (decide (0<gI (f*f*d) (g*g*c)))) (.returned (.bool (decide (0<gI (f*f*d) (g*g*c))))) (w.drewN n)) (λn=>⟨rfl,ay U (dK w n none)⟩);generalize fP e _=B at *
 go_wp2_with fail;refine K.mono ?_;rintro k w9 ⟨rfl,n,rfl⟩;go_wp2_with fail;exact M n
def Ng (a:Int)(f:W):Calls prog 162 #[I a] f (nQ f (I (fA a))):=by
 by_cases c:a < -32768
 .have b:fA a=-32768:=by unfold fA;rw[Q9 c]
  have e:min a 32767=a:=gO;have g:max a (-32768)=-32768:=gO;rw[b];clear b;go_enter func162,ntmps162;go_wp2_with fail;go_ret;exact⟨rfl,rfl⟩
 by_cases d:32767<a
 .have b:fA a=32767:=by unfold fA;rw[X9 c,Q9 d]
  have e:min a 32767=32767:=gO;rw[b];clear b;go_enter func162,ntmps162;go_wp2_with fail;go_ret;exact⟨rfl,rfl⟩
 have b:fA a=a:=by unfold fA;rw[X9 c,X9 d]
 have e:min a 32767=a:=gO;have g:max a (-32768)=a:=gO;rw[b];clear b;go_enter func162,ntmps162;go_wp2_with fail;go_ret;exact⟨rfl,rfl⟩
def jS:(prog.info? 74).map (·.size)=some 4:=by kernel_rfl
def HrF (b d f:L)(c g:Nat)(e:L):Prop:=e.length=40/\∀a,a<40->aB e a=if a<g then uQ b d f (c+1) a else uQ b d f c a
def HrA (c e f:L)(d:Nat)(b:L):Prop:=b.length=40/\∀a,a<40->aB b a=uQ c e f d a
def Nh (c e b:L)(a d:Nat):uQ c e b (a+1) d=uQ c e b a d+MJ c b a*fM e (jO b a) d:=rfl
def afS {a:L}(c:HrA l p r n a):HrF l p r n (jO r n) a:=⟨c.1,λa b=>by
 rw[c.2 a b];by_cases b:a<jO r n
 .rw[Q9 b,Nh,show fM p (jO r n) a=0 from nO];simp
 rw[X9 b]⟩
def ZU {c:L}(a:HrF l p r n b c)(g:b<40)(f:Int)(h:f=uQ l p r (n+1) b):HrF l p r n (b+1) (c.set b f):=⟨by simpa using a.1,λc e=>by
 by_cases d:b=c
 .subst d;rw[oD _ _ _ (by rw[a.1];exact g),pO,h]
 rw[lF _ _ _ _ d,a.2 c e];by_cases e:c<b
 .rw[Q9 e,pO]
 rw[X9 e,nO]⟩
def ad9 {b:L}(a:HrF l p r n 40 b):HrA l p r (n+1) b:=⟨a.1,λc b=>by rw[a.2 c b,Q9 b]⟩
def afT (d:W)(a b c:Int)(f:Ending)(e:W):Prop:=f=.returned (.tuple #[I a,I b,I c])/\d.grownBy e none
def Ql (f g:V)(b c i:L)(a:W)(k:aY a f b)(l:aY a g c)(s:¬(b.length=40/\c.length=40))(t:b.length<=1000000000000000000)(u:c.length<=1000000000000000000):Calls prog 135 #[f,g,.agg (aF i)] a (afT a 0 0 1):=by
 have d:=Zd<|aj a (.cells (aF i) 74) none;obtain⟨n,q,rfl,_,_⟩:=k;obtain⟨o,r,rfl,_,_⟩:=l;generalize b.length=e at *
 generalize c.length=m at *
 by_cases j:e=40
 .have p:((m:Int) != 40)=true:=by simp;omega
  subst j;go_enter func135,ntmps135;go_wp2;refine QB (v:=.tuple #[I 0,I 0,I 1]) ?_ rfl ⟨rfl,d⟩;simp[results,results135,asAddr,Act.put]
 have p:((e:Int) != 40)=true:=by simp;omega
 go_enter func135,ntmps135;go_wp2;refine QB (v:=.tuple #[I 0,I 0,I 1]) ?_ rfl ⟨rfl,d⟩;simp[results,results135,asAddr,Act.put]
def afU (a:Nat)(c:a<l.length)(b:¬(0<=aB l a/\aB l a<=9)):gY l=false:=by
 rcases hb:gY l with _|_
 .rfl
 exact absurd ((jf l).1 hb a c) b
def akV (b:l.length=40/\p.length=40)(c:gY r=false):Po l p r=2/\vK l p r=0/\yu l p r=0:=by
 have a:Po l p r=2:=by unfold Po;rw[Q9 b,c];rfl
 refine⟨a,?_,?_⟩
 .unfold vK;rw[a];rfl
 unfold yu;rw[a];rfl
def ZW (b:l.length=40/\p.length=40)(c:gY r=true):Po l p r=0/\vK l p r=cS l r/\yu l p r=eS l p r:=by
 have a:Po l p r=0:=by unfold Po;rw[Q9 b,c];rfl
 refine⟨a,?_,?_⟩
 .unfold vK;rw[a];rfl
 unfold yu;rw[a];rfl
def amE (a:Int)(c:-131072<=a)(d:a<=131072):0<=a*a/\a*a<=17179869184:=by have b:0<=(131072-a)*(131072+a):=ZA gO gO;refine⟨J_ a,?_⟩;rw[Int.sub_mul,Int.mul_add,Int.mul_add,V7 a 131072]at b;omega
def Ni (f vr:V)(d c a:L)(j:W)(hd:aY j f d)(hr:aY j vr c)(hx:a.length=4)(O:d.length=40)(Q:c.length=40)(ah:iI d):Calls prog 135 #[f,vr,.agg (aF a)] j (afT j (vK d c a) (yu d c a) (Po d c a)):=by
 have X:=Zd<|bY.new j 74 a;have C:=Zd<|aj j (.cells (aF a) 74) none;have IX:=Zd λ(i:Nat) (hk:i<4)=>gF a underlying74 i gO hx;have DV:=Zd λwr (e:j.grownBy wr none)=>aR hd e;have RV:=Zd λwr (e:j.grownBy wr none)=>aR hr e;have aa:=Zd (λ(t:gY a=false) q (e:j.grownBy q none)=>(show afT j (vK d c a) (yu d c a) (Po d c a) (.returned (.tuple #[I 0,I 0,I 2])) q from by
  obtain⟨e1,v,e3⟩:=akV ⟨O,Q⟩ t;rw[e1,v,e3];exact⟨rfl,e⟩))
 have ac:=Zd (λ(t:gY a=true) q (e:j.grownBy q none)=>(show afT j (vK d c a) (yu d c a) (Po d c a) (.returned (.tuple #[I (Km d a 4),I (fE (λf=>uQ d c a 4 f*uQ d c a 4 f) 40),I 0])) q from by
  obtain⟨e1,v,e3⟩:=ZW ⟨O,Q⟩ t;rw[e1,v,e3,<-aey];exact⟨rfl,e⟩))
 obtain⟨ad,cp,rfl,_,_⟩:=hd;obtain⟨ar,cr,rfl,_,_⟩:=hr;have HD:=Zd O;have Z:=Zd Q;have HX:=Zd hx;have ag:=Zd ah;have al:=gU 40 gO;rw[show((40:Nat):Int)=40 from rfl]at al;rw[O,Q];clear O Q ah;generalize afT j (vK d c a) (yu d c a) (Po d c a)=av at *
 go_enter func135,ntmps135;go_upto_region 1 with fail;generalize j.alloc (.cells (aF a) 74)=p at *
 go_wp2_with (first|refine lA X (by rw[hx];exact jS) ?_);go_loop [30] (λf=>∃i:Nat,f=I i/\i<=4/\Hid (∀f,f<i->0<=aB a f/\aB a f<=9)) (λf=>4-(intOf f).toNat)
 case atStart=>exact⟨0,rfl,QN _,λf m=>gO⟩
 case round=>
  obtain⟨i,rfl,hk,hG⟩:=hrel;by_cases ap:i<4
  .have ao:=IX i ap;have i1:(i:Int)<4:=gO;have g:=Zd λ(l:¬(0<=aB a i/\aB a i<=9))=>aa (afU i (by rw[HX.out];omega) l) p C;have k:=Zd (λ(l:0<=aB a i/\aB a i<=9)=>(show ∀f,f<i+1->0<=aB a f/\aB a f<=9 from λf m=>by
    rcases WZ f i with e|e
    .exact hG f e
    obtain rfl:f=i:=gO;exact l))
   clear aa ac hG DV RV X C;generalize aB a i=w at *
   by_cases z1:w<0
   .have b:=Zd<|g gO;clear g k;go_wp2_with fail;(try simp only[Exit.inBlock,Exit.then]);refine QB (v:=.tuple #[I 0,I 0,I 2]) ?_ rfl b;simp[results,results135,asAddr,Act.put]
   by_cases z2:9<w
   .have b:=Zd<|g gO;clear g k;go_wp2_with fail;(try simp only[Exit.inBlock,Exit.then]);refine QB (v:=.tuple #[I 0,I 0,I 2]) ?_ rfl b;simp[results,results135,asAddr,Act.put]
   have b:=Zd<|k ⟨gO,gO⟩;clear g k;go_wp2_with fail;go_round
   case rel=>exact⟨i+1,by go_num,gO,b⟩
   case measure=>simp[intOf];omega
  obtain rfl:i=4:=gO;have t:gY a=true:=(jf a).2 (λf m=>hG.out f (by have:=HX.out;omega));have FY:=Zd<|ac t;have PL:=Zd<|FE t HX;have GX:=Zd<|(jf a).1 t;have ga:=aj p (.cells (aF (au 40)) 3) none;have M0:=Zs (bY (p.alloc (.cells (aF (au 40)) 3)) p.heap.size 3 (au 40)/\j.heap.size<=p.heap.size/\j.grownBy (p.alloc (.cells (aF (au 40)) 3)) none) (⟨bY.new p _ _,C.size,ay C ga⟩);have BX:=Zd<|X.aC ga;have A0:=Zs (HrA d c a 0 (au 40)) (⟨ak 40,λb b=>by rw[jU];rfl⟩);clear aa ac hG t ga X C;rw[show((4:Nat):Int)=4 from rfl];go_upto_region 11 with fail;clear al;generalize p.alloc (.cells (aF (au 40)) 3)=B at *
  generalize p.heap.size=l at *
  go_wp2_with (first|refine lA BX (by rw[hx];exact jS) ?_);clear BX;go_loopw [11,42] (λb f wr=>∃(g:Nat) (o:L),f=I g/\g<=4/\b=I (Km d a g)/\Hid (HrA d c a g o)/\Hid (bY wr l 3 o/\j.heap.size<=l/\j.grownBy wr none)) (λ_ f _=>4-(intOf f).toNat)
  case atStart=>exact⟨0,au 40,rfl,QN _,rfl,A0,M0⟩
  case round=>
   obtain⟨g,o,rfl,hm,rfl,R,k⟩:=hrel;clear M0 A0;by_cases ai:g<4
   .have ao:=IX g ai;have az:=PL g ai;obtain⟨g1,g2⟩:=GX g (by rw[HX.out];omega);have i1:(g:Int)<4:=gO;have e1:(g:Int)+4*aB a g=((jO a g:Nat):Int):=by unfold jO;omega
    obtain⟨ax,c',y,q1,q2⟩:=DV wr k.2.2;simp only[Value.slice.injEq]at y;obtain⟨rfl,v,rfl⟩:=y;obtain⟨aw,rfl,q3⟩:=q2 (by rw[HD.out];omega);have cz:=q3 (jO a g) (by rw[HD.out];omega);obtain⟨z1,z2⟩:=ag (jO a g);have x:=Zs (Km d a (g+1)=wrap64 (Km d a g+wrap64 (sg (aB d (jO a g))*aB d (jO a g)))) (rfl);have Y:=Zd<|afS R;have SN:=Zs (MJ d a g=sg (aB d (jO a g))) (rfl);have i2:((jO a g:Nat):Int)<40:=gO;have C0:=Zd (rfl:Km d a g=Km d a g);clear v q1 q2 q3 R C0;generalize aB d (jO a g)=w at *
    generalize hP:jO a g=P at *
    have HP:=Zd hP;clear hP;generalize aB a g=pl at *
    generalize Km d a g=af at *
    rcases rQ w with⟨hz,M⟩|⟨hz,M⟩
    .rw[M]at x SN;rw[show -1*w=-w by omega]at x;clear M;go_wp2_with fail;rw[<-x.out];clear x;go_loopw [17] (λf wr=>∃(b:Nat) (o:L),f=I b/\P<=b/\b<=40/\Hid (HrF d c a g b o)/\Hid (bY wr l 3 o/\j.heap.size<=l/\j.grownBy wr none)) (λf _=>40-(intOf f).toNat)
     case atStart=>exact⟨P,o,rfl,Q6 _,gO,Y,k⟩
     case round=>
      obtain⟨b,o,rfl,ae,aq,s,k⟩:=hrel;clear Y;by_cases G:b<40
      .have j1:(b:Int)<40:=gO;have lr:=s.1;obtain⟨am,c2,y,k1,T⟩:=RV wr k.2.2;simp only[Value.slice.injEq]at y;obtain⟨rfl,v,rfl⟩:=y;obtain⟨ra,rfl,U⟩:=T (by rw[Z.out];omega);have cy:=U (b-P) (by rw[Z.out];omega);have K:=k.1.cell b gO;have fh:=k.1.free b;have z:=s.2 b G;rw[X9 gO]at z;rw[z]at K;have D:=Zd (show uQ d c a (g+1) b=uQ d c a g b+-fA (aB c (b-P)) by
        rw[Nh,SN.out,HP.out,show fM c P b=fA (aB c (b-P))from Q9 ae];omega)
       obtain⟨H,J⟩:=aaE d c a g b gO;obtain⟨b3,b4⟩:=mq (aB c (b-P));have NF:=Zd<|ZU s G _ D.symm;have r:=Zs (bY (wr.setCell (A l b) (I (uQ d c a g b+-fA (aB c (b-P))))) l 3 (o.set b (uQ d c a g b+-fA (aB c (b-P))))/\j.heap.size<=l/\j.grownBy (wr.setCell (A l b) (I (uQ d c a g b+-fA (aB c (b-P))))) none) (⟨k.1.set b _,k.2.1,aG k.2.2 (aD wr (A l b) _) k.2.1⟩);have J1:(b:Int)-(P:Int)=((b-P:Nat):Int):=gO;have j2:((b-P:Nat):Int)<40:=gO;clear v k1 T U s k D z lr;generalize uQ d c a g b=n at *
       generalize aB c (b-P)=m at *
       generalize b-P=E at *
       have F:=eG (E:Int) gO gO;have p:=eG (-fA m) gO gO;have B:=eG (n+-fA m) gO gO;go_upto_region 22 with fail;refine bW 15 (λq=>q=wr.drew) 16 (by rfl) _ rfl (by kernel_rfl) λe=>?_;refine eT 0 rfl e λe=>?_;refine eT 1 rfl e λe=>?_;refine eT 2 rfl e λe=>?_;refine eT (v:=I n) 3 rfl e λe=>?_;refine eT 4 rfl e λe=>?_;refine eT 5 rfl e λe=>?_;refine eT 6 rfl e λe=>?_;refine eT 7 rfl e λe=>?_;refine iN (hy:=by intro q u;subst u;go_simp;try simp only[F]) (v:=I (E:Int)) 8 rfl e λe=>?_;refine eT 9 rfl e λe=>?_;refine eT (v:=I m) 10 rfl e λe=>?_;refine jY 11 e λC t=>?_;(try simp only[sZ]);go_simp;refine(Ng m _).mono ?_;rintro an wc ⟨rfl,rfl⟩;go_wp2_with fail;refine t.out _ _ (λ_=>rfl) λe=>?_;clear t;(try simp only[sZ]);refine iN (hy:=by intro q u;subst u;go_simp;try simp only[p]) (v:=I (-fA m)) 12 rfl e λe=>?_;refine iN (hy:=by intro q u;subst u;go_simp;try simp only[B]) (v:=I (n+-fA m)) 13 rfl e λe=>?_;refine eT 14 rfl e λe=>?_;refine jY 15 e λC t=>?_;(try simp only[sZ]);go_simp;go_wp2_with fail;refine t.out _ _ (λn=>by cases n) λe=>?_;clear t;(try simp only[sZ]);refine bI _ _ _ _ (by rfl) ?_;refine wm ?_;have ab:=Zs (bY (wr.setCell (A l b) (I (n+-fA m))).drew l 3 (o.set b (n+-fA m))/\j.heap.size<=l/\j.grownBy (wr.setCell (A l b) (I (n+-fA m))).drew none) (⟨r.1.aC (aS _),r.2.1,ay r.2.2 (aS _)⟩);generalize (wr.setCell (A l b) (I (n+-fA m))).drew=wz at *
       clear r cy K fh F p B J1 j2 H J b3 b4;go_wp2_with fail;go_roundw
       case rel=>exact⟨b+1,_,by go_num,gO,gO,NF,ab⟩
       case measure=>simp[intOf];omega
      obtain rfl:b=40:=gO;have NA:=Zd<|ad9 s;have r:=k;clear s k;rw[show((40:Nat):Int)=40 from rfl];go_wp2_with fail;go_roundw
      case rel=>exact⟨g+1,_,by go_num,gO,rfl,NA,r⟩
      case measure=>simp[intOf];omega
    rw[M]at x SN;rw[show 1*w=w by omega,Je w z1 z2]at x;clear M;go_wp2_with fail;rw[<-x.out];clear x;go_loopw [17] (λf wr=>∃(b:Nat) (o:L),f=I b/\P<=b/\b<=40/\Hid (HrF d c a g b o)/\Hid (bY wr l 3 o/\j.heap.size<=l/\j.grownBy wr none)) (λf _=>40-(intOf f).toNat)
    case atStart=>exact⟨P,o,rfl,Q6 _,gO,Y,k⟩
    case round=>
     obtain⟨b,o,rfl,ae,aq,s,k⟩:=hrel;clear Y;by_cases G:b<40
     .have j1:(b:Int)<40:=gO;have lr:=s.1;obtain⟨am,c2,y,k1,T⟩:=RV wr k.2.2;simp only[Value.slice.injEq]at y;obtain⟨rfl,v,rfl⟩:=y;obtain⟨ra,rfl,U⟩:=T (by rw[Z.out];omega);have cy:=U (b-P) (by rw[Z.out];omega);have K:=k.1.cell b gO;have fh:=k.1.free b;have z:=s.2 b G;rw[X9 gO]at z;rw[z]at K;have D:=Zd (show uQ d c a (g+1) b=uQ d c a g b+fA (aB c (b-P)) by
       rw[Nh,SN.out,HP.out,show fM c P b=fA (aB c (b-P))from Q9 ae];omega)
      obtain⟨H,J⟩:=aaE d c a g b gO;obtain⟨b3,b4⟩:=mq (aB c (b-P));have NF:=Zd<|ZU s G _ D.symm;have r:=Zs (bY (wr.setCell (A l b) (I (uQ d c a g b+fA (aB c (b-P))))) l 3 (o.set b (uQ d c a g b+fA (aB c (b-P))))/\j.heap.size<=l/\j.grownBy (wr.setCell (A l b) (I (uQ d c a g b+fA (aB c (b-P))))) none) (⟨k.1.set b _,k.2.1,aG k.2.2 (aD wr (A l b) _) k.2.1⟩);have J1:(b:Int)-(P:Int)=((b-P:Nat):Int):=gO;have j2:((b-P:Nat):Int)<40:=gO;clear v k1 T U s k D z lr;generalize uQ d c a g b=n at *
      generalize aB c (b-P)=m at *
      generalize b-P=E at *
      have F:=eG (E:Int) gO gO;have p:=eG (fA m) gO gO;have B:=eG (n+fA m) gO gO;go_upto_region 22 with fail;refine bW 15 (λq=>q=wr.drew) 16 (by rfl) _ rfl (by kernel_rfl) λe=>?_;refine eT 0 rfl e λe=>?_;refine eT 1 rfl e λe=>?_;refine eT 2 rfl e λe=>?_;refine eT (v:=I n) 3 rfl e λe=>?_;refine eT 4 rfl e λe=>?_;refine eT 5 rfl e λe=>?_;refine eT 6 rfl e λe=>?_;refine eT 7 rfl e λe=>?_;refine iN (hy:=by intro q u;subst u;go_simp;try simp only[F]) (v:=I (E:Int)) 8 rfl e λe=>?_;refine eT 9 rfl e λe=>?_;refine eT (v:=I m) 10 rfl e λe=>?_;refine jY 11 e λC t=>?_;(try simp only[sZ]);go_simp;refine(Ng m _).mono ?_;rintro an wc ⟨rfl,rfl⟩;go_wp2_with fail;refine t.out _ _ (λ_=>rfl) λe=>?_;clear t;(try simp only[sZ]);refine iN (hy:=by intro q u;subst u;go_simp;try simp only[p]) (v:=I (fA m)) 12 rfl e λe=>?_;refine iN (hy:=by intro q u;subst u;go_simp;try simp only[B]) (v:=I (n+fA m)) 13 rfl e λe=>?_;refine eT 14 rfl e λe=>?_;refine jY 15 e λC t=>?_;(try simp only[sZ]);go_simp;go_wp2_with fail;refine t.out _ _ (λn=>by cases n) λe=>?_;clear t;(try simp only[sZ]);refine bI _ _ _ _ (by rfl) ?_;refine wm ?_;have ab:=Zs (bY (wr.setCell (A l b) (I (n+fA m))).drew l 3 (o.set b (n+fA m))/\j.heap.size<=l/\j.grownBy (wr.setCell (A l b) (I (n+fA m))).drew none) (⟨r.1.aC (aS _),r.2.1,ay r.2.2 (aS _)⟩);generalize (wr.setCell (A l b) (I (n+fA m))).drew=wz at *
      clear r cy K fh F p B J1 j2 H J b3 b4;go_wp2_with fail;go_roundw
      case rel=>exact⟨b+1,_,by go_num,gO,gO,NF,ab⟩
      case measure=>simp[intOf];omega
     obtain rfl:b=40:=gO;have NA:=Zd<|ad9 s;have r:=k;clear s k;rw[show((40:Nat):Int)=40 from rfl];go_wp2_with fail;go_roundw
     case rel=>exact⟨g+1,_,by go_num,gO,rfl,NA,r⟩
     case measure=>simp[intOf];omega
   obtain rfl:g=4:=gO;have lr:=R.1;have s:=Zd R.2;have m:=Zd k.1;have y:=Zd<|FY wr k.2.2;have r:=Zd<|aaE d c a 4;clear FY R k IX DV RV GX PL ag;generalize Km d a 4=af at *
   rw[show((4:Nat):Int)=4 from rfl];go_wp2_with fail;go_loop [18,86] (λb f=>∃i:Nat,f=I i/\i<=40/\b=I (fE (λf=>uQ d c a 4 f*uQ d c a 4 f) i)/\Hid (0<=fE (λf=>uQ d c a 4 f*uQ d c a 4 f) i/\fE (λf=>uQ d c a 4 f*uQ d c a 4 f) i<=17179869184*(i:Int))) (λ_ f=>40-(intOf f).toNat)
   case atStart=>exact⟨0,rfl,QN _,rfl,⟨DC _,DC _⟩⟩
   case round=>
    obtain⟨i,rfl,hk,rfl,u⟩:=hrel;by_cases E:i<40
    .have i1:(i:Int)<40:=gO;have F:=m.cell i gO;rw[s.out i E]at F;obtain⟨H,J⟩:=r i gO;obtain⟨K,M⟩:=amE _ H J;obtain⟨T,U⟩:=u;have x:=Zs (fE (λf=>uQ d c a 4 f*uQ d c a 4 f) (i+1)=fE (λf=>uQ d c a 4 f*uQ d c a 4 f) i+uQ d c a 4 i*uQ d c a 4 i) (rfl);clear y s m r u;generalize D:fE (λf=>uQ d c a 4 f*uQ d c a 4 f) (i+1)=G at *
     have z:=Zd D;clear D;generalize fE (λf=>uQ d c a 4 f*uQ d c a 4 f) i=b at *
     generalize uQ d c a 4 i=n at *
     go_wp2_with fail;go_round
     case rel=>exact⟨i+1,by go_num,gO,by rw[z.out,x.out],by rw[z.out,x.out];exact⟨gO,gO⟩⟩
     case measure=>simp[intOf];omega
    obtain rfl:i=40:=gO;clear s m r u;generalize fE (λf=>uQ d c a 4 f*uQ d c a 4 f) 40=b at *
    rw[show((40:Nat):Int)=40 from rfl];go_wp2_with fail;refine QB (v:=.tuple #[I af,I b,I 0]) ?_ rfl y;simp[results,results135,asAddr,Act.put]
def Vr (f g:V)(a b c:L)(d:W)(i:aY d f a)(j:aY d g b)(n:c.length=4)(l:a.length<=1000000000000000000)(m:b.length<=1000000000000000000)(k:iI a):Calls prog 135 #[f,g,.agg (aF c)] d (afT d (vK a b c) (yu a b c) (Po a b c)):=by
 by_cases e:a.length=40/\b.length=40
 .exact Ni f g a b c d i j n e.1 e.2 k
 have h:Po a b c=1:=X9 e;rw[show vK a b c=0 by unfold vK;rw[h];rfl,show yu a b c=0 by unfold yu;rw[h];rfl,h];exact Ql f g a b c d i j e l m
def Vs (w x:V)(a d:L)(f:W)(u:aY f w a)(v:aY f x d)(G:a.length<=1000000000000000000)(H:d.length<=1000000000000000000):Calls prog 114 #[w,x] f (nQ f (I (yU a d))):=by
 by_cases e:a.length=40/\d.length=40
 .have l:=Zd (λb (o:b<40) (E:¬(-1099511627776<=aB a b/\aB a b<=1099511627776))=>(show nQ f (I (yU a d)) (.returned (I 2)) f from⟨by
   have i:AY a=false:=by
    rcases i:AY a with _|_
    .rfl
    exact absurd ((wQ a).1 i b gO) E
   rw[show yU a d=2 by unfold yU;rw[Q9 e,i];rfl],rfl⟩))
  have m:=Zd (λ(n:∀b,b<40->-1099511627776<=aB a b/\aB a b<=1099511627776)=>(show nQ f (I (yU a d)) (.returned (I 0)) f from⟨by
   have i:AY a=true:=(wQ a).2 (λb o=>n b gO);rw[show yU a d=0 by unfold yU;rw[Q9 e,i];rfl],rfl⟩))
  generalize nQ f (I (yU a d))=J at *
  obtain⟨y,C,rfl,F,r⟩:=u;obtain⟨B,D,rfl,_,_⟩:=v;have p:=Zd r;have q:=Zd e.1;rw[e.1,e.2];clear e r F G H;go_enter func114,ntmps114;go_wp2_with fail;go_loop [17] (λb=>∃c:Nat,b=I c/\c<=40/\Hid (∀b,b<c->-1099511627776<=aB a b/\aB a b<=1099511627776)) (λb=>40-(intOf b).toNat)
  case atStart=>exact⟨0,rfl,QN _,λb o=>gO⟩
  case round=>
   obtain⟨c,rfl,O,k⟩:=hrel;by_cases z:c<40
   .obtain⟨K,rfl,t⟩:=p (by rw[q.out];omega);have M:=t c (by rw[q.out];omega);have P:(c:Int)<40:=gO;have g:=Zd<|l c z;have j:=Zd (λ(n:-1099511627776<=aB a c/\aB a c<=1099511627776)=>(show ∀b,b<c+1->-1099511627776<=aB a b/\aB a b<=1099511627776 from λb o=>by
     rcases WZ b c with s|s
     .exact k b s
     obtain rfl:b=c:=gO;exact n))
    clear l m k t;generalize aB a c=s at *
    by_cases Q:s < -1099511627776
    .have b:=Zd<|g gO;clear g j;go_wp2_with fail;exact b
    by_cases R:1099511627776<s
    .have b:=Zd<|g gO;clear g j;go_wp2_with fail;exact b
    have b:=Zd<|j ⟨gO,gO⟩;clear g j;go_wp2_with fail;go_round
    case rel=>exact⟨c+1,by go_num,gO,b⟩
    case measure=>simp[intOf];omega
   obtain rfl:c=40:=gO;have b:=Zd<|m k;clear l m k p;rw[show((40:Nat):Int)=40 from rfl];go_wp2_with fail;exact b
 rw[show yU a d=1 from X9 e];obtain⟨y,C,rfl,_,_⟩:=u;obtain⟨B,D,rfl,_,_⟩:=v;generalize a.length=c at *
 generalize d.length=g at *
 by_cases b:c=40
 .have i:((g:Int) != 40)=true:=by simp;omega
  subst b;clear e;go_enter func114,ntmps114;go_wp2_with fail;go_ret;exact⟨rfl,rfl⟩
 have i:((c:Int) != 40)=true:=by simp;omega
 clear e b;go_enter func114,ntmps114;go_wp2_with fail;go_ret;exact⟨rfl,rfl⟩
def Cv (a c:L)(b:Nat):Int:=if aB a (jO c b)<0 then 0 else 1
def ZQ (a c:L):Nat->Int
 | 0=>0
 | b+1=>2*ZQ a c b+Cv a c (3-b)
def akW (a b:L):ZQ a b 4=Ko a b 4:=by
 have c:∀d,Tv a b d=Cv a b d*2^d:=λd=>by
  unfold Tv Cv;split
  .simp
  simp
 show 2*(2*(2*(2*0+Cv a b 3)+Cv a b 2)+Cv a b 1)+Cv a b 0=0+Tv a b 0+Tv a b 1+Tv a b 2+Tv a b 3;rw[c,c,c,c];have c:(2:Int)^0=1/\(2:Int)^1=2/\(2:Int)^2=4/\(2:Int)^3=8:=by decide
 rw[c.1,c.2.1,c.2.2.1,c.2.2.2];omega
def amF (a b:L):∀c,c<=4->0<=ZQ a b c/\ZQ a b c<=100:=by
 have d:∀e,0<=Cv a b e/\Cv a b e<=1:=λe=>by unfold Cv;split<;>omega
 have f:=d 0;have g:=d 1;have h:=d 2;have i:=d 3;intro c e
 match c,e with
 | 0,_=>exact⟨DC _,by show(0:Int)<=100;omega⟩
 | 1,_=>show 0<=2*0+Cv a b 3/\2*0+Cv a b 3<=100;omega
 | 2,_=>show 0<=2*(2*0+Cv a b 3)+Cv a b 2/\2*(2*0+Cv a b 3)+Cv a b 2<=100;omega
 | 3,_=>show 0<=2*(2*(2*0+Cv a b 3)+Cv a b 2)+Cv a b 1/\2*(2*(2*0+Cv a b 3)+Cv a b 2)+Cv a b 1<=100;omega
 | 4,_=>show 0<=2*(2*(2*(2*0+Cv a b 3)+Cv a b 2)+Cv a b 1)+Cv a b 0/\2*(2*(2*(2*0+Cv a b 3)+Cv a b 2)+Cv a b 1)+Cv a b 0<=100;omega
def Vt (G:V)(c b:L)(e:W)(B:aY e G c)(p:c.length=40)(E:b.length=4)(q:gY b=true):Calls prog 116 #[G,.agg (aF b)] e (uJ e (I (Ko c b 4))):=by
 have i:=Zd<|bY.new e 74 b;have o:=aj e (.cells (aF b) 74) none;have t:=Zd o;have m:=Zd<|FE q E;have l:=Zd<|(jf b).1 q;have w:=Zd E;have u:=Zd p;have s:=Zd<|aR B o;rw[<-akW];have n:=Zd<|amF c b;obtain⟨R,X,rfl,_,_⟩:=B;rw[p];clear o q p;go_enter func116,ntmps116;go_upto_region 1 with fail;generalize e.alloc (.cells (aF b) 74)=O at *
 have⟨T,U,x,K,y⟩:=s;simp only[Value.slice.injEq]at x;obtain⟨rfl,J,rfl⟩:=x;obtain⟨Q,rfl,z⟩:=y (by rw[u.out];omega);have j:=Zd z;clear s J K y z;go_wp2_with fail;go_loop [5,6] (λf a=>∃d:Nat,a=I ((d:Int)-1)/\d<=4/\f=I (ZQ c b (4-d))) (λ_ a=>(intOf a+1).toNat)
 case atStart=>exact⟨4,rfl,Q6 _,rfl⟩
 case round=>
  obtain⟨d,rfl,hn,rfl⟩:=hrel;by_cases M:0<d
  .obtain⟨a,rfl⟩:∃a,d=a+1:=⟨d-1,gO⟩;rw[show(((a+1:Nat):Int)-1)=(a:Int) by omega];have D:a<4:=gO;have aa:=m a D;have⟨g1,g2⟩:=l a (by rw[w.out];omega);have Y:=i.cell a (by rw[w.out];exact D);have Z:=j (jO b a) (by rw[u.out];omega);have e1:(a:Int)+4*aB b a=((jO b a:Nat):Int):=by unfold jO;omega
   have⟨s1,s2⟩:=n (4-(a+1)) gO;have g:=Zd (show ZQ c b (4-a)=2*ZQ c b (4-(a+1))+(if aB c (jO b a)<0 then 0 else 1) by
    rw[show 4-a=(4-(a+1))+1 by omega];show 2*ZQ c b (4-(a+1))+Cv c b (3-(4-(a+1)))=_;rw[show 3-(4-(a+1))=a by omega];rfl)
   have i1:(a:Int)<4:=gO;have i2:((jO b a:Nat):Int)<40:=gO;clear i t j n l m M;generalize C:ZQ c b (4-a)=F at *
   have v:=Zd C;clear C;generalize ZQ c b (4-(a+1))=f at *
   generalize aB c (jO b a)=H at *
   generalize jO b a=P at *
   generalize aB b a=pl at *
   by_cases r:H<0
   .have k:=Zs (F=f*2) (by rw[g.out,Q9 r];omega);clear g;go_wp2_with fail;go_round
    case rel=>exact⟨a,rfl,gO,by rw[v.out,k.out]⟩
    case measure=>simp[intOf]
   have k:=Zs (F=f*2+1) (by rw[g.out,X9 r];omega);have ab:0<=H:=gO;clear g r;go_wp2_with fail;go_round
   case rel=>exact⟨a,rfl,gO,by rw[v.out,k.out]⟩
   case measure=>simp[intOf]
  obtain rfl:d=0:=gO;rw[show 4-0=4 from rfl,show(((0:Nat):Int)-1)=-1 from rfl];clear n j l m i;generalize ZQ c b 4=f at *
  go_wp2_with fail;go_ret;exact⟨rfl,t⟩
def amG (e:W)(d:V)(N:Nat)(c:Nat->L):Prop:=∃b a,d=.slice (S b) N a/\∀a,a<N->e.rangeAt b (a*4) ((c a).map (Value.int .i64))
def acM (c:w.rangeAt n b y)(a:w.grownBy w' none):w'.rangeAt n b y:=λe f d=>aU a (c e f d)
def aiR:(prog.info? 74).bind (·.zero)=some (.agg (aF (au 4))):=by kernel_rfl
def aiS (a b:L):cS a b<=9223372036854775807:=by show wrap64 _<=_;unfold wrap64;omega
def aiT (a b c:L):eS a b c<=9223372036854775807:=by have:=aaD a b c 4 0 gO gO;unfold eS;omega
def Vj (c d:L->Int)(a:Nat->L)(b:Nat):L:=if b=0 then a 0 else(uy c d a b).1
def akX (c d:L->Int)(b:Nat->L)(N:Nat)(e:∀a,a<N->(b a).length=4)(g:0<N)(a:Nat)(j:a<=N):(Vj c d b a).length=4:=by
 unfold Vj;split
 .exact e 0 g
 have⟨h,i,f⟩:=Ag c d b a gO;rw[f];exact e h gO
def Z5 (vd vr vl:Value)(b d:L)(N:Nat)(c:Nat->L)(e:World)(hd:aY e vd b)(hr:aY e vr d)(h1:b.length=40)(h2:d.length=40)(al:iI b)(hl:amG e vl N c)(hN:0<N)(aE:N<=100000)(H:∀a,a<N->(c a).length=4/\gY (c a)=true):Calls prog 115 #[vd,vr,vl] e (uJ e (.agg (aF (uy (cS b) (eS b d) c N).1))):=by
 obtain⟨ai,aA,rfl,ah⟩:=hl;have SC:=Zd λW (z:e.grownBy W none) a (m:a<N)=>Vr vd vr b d (c a) W (aR hd z) (aR hr z) (H a m).1 gO gO al;have SV:=Zd λa (m:a<N)=>(ZW ⟨h1,h2⟩ (H a m).2:Po b d (c a)=0/\vK b d (c a)=cS b (c a)/\yu b d (c a)=eS b d (c a));have P:=Zd λW (z:e.grownBy W none) f (hi:f<N)=>acM (ah f hi) z;have K:=Zd λa (m:a<N)=>(H a m).1;have M:=Zd<|akX (cS b) (eS b d) c N (λa m=>(H a m).1) hN;have KB:=Zd (show ∀a,0<a->(uy (cS b) (eS b d) c a).2.1<=9223372036854775807/\(uy (cS b) (eS b d) c a).2.2<=9223372036854775807 from λa l=>by
  have⟨g,_,x⟩:=Ag (cS b) (eS b d) c a l;rw[x];exact⟨aiS _ _,aiT _ _ _⟩)
 have X:=Zd<|Tt (cS b) (eS b d) c;have T:=Zd<|aaF (cS b) (eS b d) c;have aH:=fT aiR;have ga:=aj e (.cells (aF (au 4)) 74) none;have ae:=Zd<|bY.new e 74 (au 4);have Z:=Zd ga;obtain⟨ad,cp,rfl,_,_⟩:=hd;obtain⟨ar,cr,rfl,_,_⟩:=hr;have Y:=Zs (∀g,e.grownBy g none->uJ e (.agg (aF (uy (cS b) (eS b d) c N).1)) (.returned (.agg (aF (Vj (cS b) (eS b d) c N)))) g) (λg g=>⟨by unfold Vj;rw[X9 gO],g⟩);clear h1 h2 al ah H ga;generalize uJ e (.agg (aF (uy (cS b) (eS b d) c N).1))=az at *
 have aC:(0:Int)<(N:Int):=gO;go_enter func115,ntmps115;go_upto_region 1 with fail;generalize am:e.alloc (.cells (aF (au 4)) 74)=s at *
 have G:s.heap.size=e.heap.size+1:=by rw[<-am];simp
 have J:=Zd G;clear am G;have R0:=Zd<|P s Z 0 hN;rw[Nat.zero_mul]at R0;have O:=Zd<|K 0 hN;have k:=dG s 74 4 (c 0) O;have B:=Zd k.1;have M0:=Zs (jc e (b_ (s.alloc (.cells (aF (au 4)) 74)) s.heap.size (c 0)) 74 74 (au 4) (Vj (cS b) (eS b d) c 0)) (⟨ae.aC k.2.2,by have:=k.2.1;rw[J.out]at this;rw[J.out];exact this,ay Z k.2.2⟩);clear k;go_upto_region 2 with(first|refine wpList_load_mid rfl 74 _ rfl ai 0 rfl ((c 0).map (Value.int .i64)) _ R0 underlying74 rfl (by rw[GK,O.out];exact jS) ?_|refine sA (c 0) B (by rw[O.out,ak]) (by rw[ak];exact jS) ?_);(try simp only[Act.put]);clear B R0 O ae Z;generalize b_ (s.alloc _) s.heap.size (c 0)=W2 at *
 rw[J.out];clear J;go_wp2_with fail;go_loopw [8,9,20] (λg x f wr=>∃a:Nat,f=I a/\a<=N/\g=I (uy (cS b) (eS b d) c a).2.1/\x=I (uy (cS b) (eS b d) c a).2.2/\Hid (jc e wr 74 74 (au 4) (Vj (cS b) (eS b d) c a))) (λ_ _ f _=>N-(intOf f).toNat)
 case atStart=>exact⟨0,rfl,QN _,rfl,rfl,M0⟩
 case round=>
  obtain⟨a,rfl,m,rfl,rfl,q⟩:=hrel;clear M0;by_cases Q:a<N
  .have i1:(a:Int)<N:=gO;have f:=Zd<|K a Q;have RM:=Zd<|P wr q.2.2 a Q;have SM:=Zd λW (z:e.grownBy W none)=>SC W z a Q;have R:=SV a Q;rw[R.1,R.2.1,R.2.2]at SM;have w:=Zd<|X a;have F:=Zd<|T a;have E:=Zd<|KB a;have v:=Zd<|M a m;have ab:=Zs (Vj (cS b) (eS b d) c (a+1)=(uy (cS b) (eS b d) c (a+1)).1) (X9 gO);have D:=Zs (¬a=0->Vj (cS b) (eS b d) c a=(uy (cS b) (eS b d) c a).1) (λl=>X9 l);have ap:=aiS b (c a);have aq:=aiT b d (c a);have k:=dG wr 74 4 (c a) f;have B:=Zd k.1;have U:=Zd k.2.1;have M1:=Zd<|jc.aC q k.2.2;have LT:=Zs (e.heap.size+1<wr.heap.size) (q.2.1.lt);clear k R Y SC SV P K M KB X T q;generalize an:uy (cS b) (eS b d) c (a+1)=a0 at *
   have u:=Zd an;clear an;generalize av:Vj (cS b) (eS b d) c a=kl at *
   generalize ao:Vj (cS b) (eS b d) c (a+1)=kn at *
   have aa:=Zd ao;clear av ao;generalize uy (cS b) (eS b d) c a=ks at *
   generalize cS b (c a)=af at *
   generalize eS b d (c a)=ag at *
   generalize c a=i at *
   have⟨kx,kc,ke⟩:=ks;dsimp only at w F E D ⊢;go_upto_region 5 with(first|refine wpList_load_mid rfl 74 _ rfl ai (a*4) rfl (i.map (Value.int .i64)) _ RM underlying74 rfl (by rw[GK,f.out];exact jS) ?_|refine sA i B (by rw[f.out,ak]) (by rw[ak];exact jS) ?_);(try simp only[Act.put]);clear B RM;generalize b_ (wr.alloc _) wr.heap.size i=W3 at *
   generalize wr.heap.size=bt at *
   have G:=Zd<|SM W3 M1.2.2;clear SM;go_wp2_with (first|refine lA U (by rw[f.out];exact jS) ?_);refine G.mono ?_;rintro x w4 ⟨rfl,g4⟩;have n:=Zd<|jc.aC M1 g4;have C:=Zd<|U.aC g4;clear g4 G M1 U;by_cases p:a=0
   .have b0:((a:Int)==0)=true:=by simp[p]
    have j:=Zd<|w (.inl p);have r:=Zd n.2.1;have g:=bF (rs':=i) r (by rw[f.out,v.out]);have o:=Zs (jc e (b_ w4 (e.heap.size+1) i) 74 74 (au 4) i) (⟨n.1.aH g.2 gO,g.1,aG n.2.2 g.2 gO⟩);clear g w F D p E;go_upto_region 8 with(first|refine lA C (by rw[f.out];exact jS) ?_|refine sA i r (by rw[f.out,v.out]) (by rw[v.out];exact jS) ?_);(try simp only[Act.put]);clear r C n;generalize b_ w4 (e.heap.size+1) i=t at *
    go_wp2_with fail;go_roundw
    case rel=>exact⟨a+1,by go_num,gO,by rw[u.out,j.out],by rw[u.out,j.out],by rw[aa.out,ab.out,j.out];exact o⟩
    case measure=>simp[intOf];omega
   have b0:((a:Int)==0)=false:=by simp[p]
   have⟨aw,ax⟩:=E gO;have t:=Zd<|Br af ag kc ke ap aq aw ax w4;rcases hb:Bz af ag kc ke with _|_
   .rw[hb]at t;have j:=Zd<|F (λl=>by rcases l with l|l;exact p l;rw[hb]at l;cases l);have EK:=Zd<|D p;clear w F D p hb E;go_wp2_with fail;refine t.mono ?_;rintro x w5 ⟨rfl,y⟩;have o:=Zd<|jc.aC n y;clear y t n C;go_wp2_with fail;go_roundw
    case rel=>exact⟨a+1,by go_num,gO,by rw[u.out,j.out],by rw[u.out,j.out],by rw[aa.out,ab.out,j.out,<-EK.out];exact o⟩
    case measure=>simp[intOf];omega
   rw[hb]at t;have j:=Zd<|w (.inr hb);clear w F D p hb E;go_wp2_with fail;refine t.mono ?_;rintro x w5 ⟨rfl,y⟩;have o:=Zd<|jc.aC n y;have ac:=Zd<|C.aC y;have r:=Zd o.2.1;have g:=bF (rs':=i) r (by rw[f.out,v.out]);have M6:=Zs (jc e (b_ w5 (e.heap.size+1) i) 74 74 (au 4) i) (⟨o.1.aH g.2 gO,g.1,aG o.2.2 g.2 gO⟩);clear y t n C g;go_upto_region 8 with(first|refine lA ac (by rw[f.out];exact jS) ?_|refine sA i r (by rw[f.out,v.out]) (by rw[v.out];exact jS) ?_);(try simp only[Act.put]);clear r ac o;generalize b_ w5 (e.heap.size+1) i=W6 at *
   go_wp2_with fail;go_roundw
   case rel=>exact⟨a+1,by go_num,gO,by rw[u.out,j.out],by rw[u.out,j.out],by rw[aa.out,ab.out,j.out];exact M6⟩
   case measure=>simp[intOf];omega
  obtain rfl:a=N:=gO;have n:=Zd q.2.1;have i:=Zd q.1;have f:=Zd<|M a m;have g:=bF (rs':=Vj (cS b) (eS b d) c a) i (by rw[f.out,ak]);have o:=Zd<|Y _ (aG q.2.2 g.2 (Q6 _));have p:=Zd<|kU g.1 (by rw[f.out];exact jS);clear q Y SC SV P K M KB X T g;generalize Vj (cS b) (eS b d) c a=j at *
  generalize uy (cS b) (eS b d) c a=ks at *
  go_wp2_with (first|refine lA n (by rw[f.out];exact jS) ?_|refine sA j i (by rw[f.out,ak]) (by rw[ak];exact jS) ?_);refine QB (v:=.agg (aF j)) ?_ rfl o;simp[results,results115,asAddr,Act.put,p.out]
def Il (a:Nat->L):Nat->List V
 | 0=>[]
 | b+1=>Il a b++(a b).map (Value.int .i64)
def Si (b:Nat->L):∀a,(∀c,c<a->(b c).length=4)->(Il b a).length=a*4
 | 0,_=>rfl
 | a+1,d=>by
  show(Il b a++(b a).map (Value.int .i64)).length=_;rw[ZB,Si b a (λc b=>d c gO),GK,d a gO];omega
def Sj (d:Nat->L):∀c,(∀a,a<c->(d a).length=4)->∀a b,a<c->b<4->(Il d c)[a*4+b]?=some (I (aB (d a) b))
 | 0,_,a,b,f,_=>gO
 | c+1,e,a,b,f,g=>by
  show(Il d c++(d c).map (Value.int .i64))[a*4+b]?=_;have i:=Si d c (λa f=>e a gO);by_cases h:a=c
  .subst h;rw[BK gO,i,show a*4+b-a*4=b by omega];have:=e a gO;simp[aB,List.getD,this,g]
  rw[BQ gO];exact Sj d c (λa f=>e a gO) a b gO g
def Own4 (b:Nat)(e:W)(d:V)(a:Nat)(c:Nat->L):Prop:=e.ownsRow b 74 4 d a (Il c a)
def aiU (a:Nat)(c:W)(b:Nat->L):Own4 a c N 0 b:=World.ownsRow_nil _ _ _ _
def Own4.aC {a:Nat->L}(d:Own4 n w x b a)(c:w.grownBy w' none):Own4 n w' x b a:=World.ownsRow.kept d c (by rcases x.ownBlock with _|e<;>simp)
def Own4.bH {c:Nat->L}(a:Own4 n w x b c)(g:w.grownBy w' (some k))(h:k<n):Own4 n w' x b c:=by
 refine World.ownsRow.kept a g ?_;rcases e:x.ownBlock with _|d
 .exact .inl rfl
 right;intro f;have:=(World.ownsRow.lt a d e).1;cases f;omega
def Own4.arr {d:Nat->L}(i:Own4 n w x b d)(a:0<b)(g:∀a,a<b->(d a).length=4):amG w x b d:=by
 have⟨p,j⟩:=id i;rcases j with⟨_,l⟩|⟨f,e,k,h,m,o,_⟩
 .omega
 subst h;refine⟨f,e,rfl,λa f e c h=>?_⟩;have c:e<4:=by
  by_cases c:e<4
  .exact c
  rw[U8 (by rw[GK,g a f];omega)]at h;cases h
 rw[World.ownsRow.cellAt i (a*4+e) gO,Sj d b g a e f c,<-h];simp[aB,List.getD,g a f,c]
def ang:(prog.info? 74).map (λa=>(a.zero,a.size,a.bytes))=some (some (.agg (aF (au 4))),4,32):=by kernel_rfl
def amH (e:L)(f:e.length=4):∃a b c d,e=[a,b,c,d]:=by
 match e,f with
 | [a,b,c,d],_=>exact⟨a,b,c,d,rfl⟩
def amI (a:L)(c:a.length=4)(b:W):Sem.run prog (Instr.buildSlice 172 1 #[(0,.agg (aF a))]) b=.ok (.slice (S b.heap.size) 1 1) (b.alloc (.cells (aF a) 74)):=by
 obtain⟨d,e,f,g,rfl⟩:=amH a c
 kernel_rfl
def Z6 {d:Array Oper}{rest:List Oper}(f:o.guard=none)(c:Operand)(g:o.op=.buildSlice 172 1 #[(0,c)])(b:L)(h:b.length=4)(i:a.eval c=.agg (aF b))
 (j:wpList prog d Q rest (a.put o.dst (.slice (S w.heap.size) 1 1)) (w.alloc (.cells (aF b) 74))):wpList prog d Q (o::rest) a w:=by
 refine wpList_plain f λ_ d=>?_;unfold Oper.wp execOp;have e:(#[(0,c)]:Array (Nat×Operand)).map (λ(c,b)=>(c,a.eval b))=#[(0,.agg (aF b))]:=by simp[i]
 simp only[g,e,Sem.run_bind,amI b h,Result.andThen_ok,Sem.run_pure];exact d _ _ j
def Z7 {m:Array Oper}{rest:List Oper}(t:o.guard=none)(k l:Operand)
 (v:o.op=Op.call { callee:=Callee.builtin Builtin.append,args:=#[k,l],argTypes:=#[172,172] }) (f b j:Nat) (g:V) (c:Nat->L) (e:L) (x:a.eval k=g) (z:a.eval l=.slice (S j) 1 1) (q:Own4 f w g b c) (r:bY w j 74 e) (y:e.length=4) (s:c b=e)
 (d:b<=100000) (n:f<=w.heap.size)
 (p:∀h d,Own4 f d h (b+1) c->w.grownBy d g.ownBlock->wpList prog m Q rest (a.put o.dst h) d):wpList prog m Q (o::rest) a w:=by
 have⟨E,u,B,C,D⟩:=info_parts ang;refine wpList_append_own (P:=prog) (w:=w) t k l 172 v f 74 E (.agg (aF (au 4))) 4 32 (by kernel_rfl) u B C D rfl (by decide) g b (Il c b) x q (A j 0) 1 1 (e.map (Value.int .i64)) z (by simp[y]) (λj i g=>?_) (λi g=>?_) (by unfold maxLen;omega) gO n (λh d k i _=>p h d ?_ i)
 .have i:j<e.length:=by
   by_cases i:j<e.length
   .exact i
   rw[U8 (by simp;omega)]at g;cases g
  rw[Addr.add_mid,WT,r.cell j i];simpa [aB,List.getD,i] using g
 .obtain⟨i,_,rfl⟩:=List.mem_map.1 g;rfl
 unfold Own4;show d.ownsRow f 74 4 h (b+1) (Il c b++(c b).map (Value.int .i64));rw[s];exact k
def amJ (e:W)(a:L)(d c:Int)(b:Ending)(f:W):Prop:=b=.returned (.tuple #[.agg (aF a),I d,I c])/\e.grownBy f none
def akY (a:W):Sem.run prog (Instr.build 74 #[]) a=.ok (.agg (aF (au 4))) a:=run_build a 74 #[] (aF (au 4)) (by kernel_rfl)
def aiV (a:yU l p=0):l.length=40/\p.length=40/\AY l=true:=by
 unfold yU at a;by_cases b:l.length=40/\p.length=40
 .rw[Q9 b]at a;rcases ho:AY l with _|_
  .rw[ho]at a;simp at a
  exact⟨b.1,b.2,rfl⟩
 rw[X9 b]at a;omega
def Cw (a b:L):(mJ a b).length=4/\gY (mJ a b)=true:=tN (cS a) (eS a b) 8
def acN (n T:Value)(a b:L)(c:World)(F:aY c n a)(Q:aY c T b)(hl:a.length<=1000000000000000000)(ae:b.length<=1000000000000000000)(ac:iI a):Calls prog 68 #[n,T] c (amJ c (Kr a b (mJ a b)) (N8 a b (mJ a b)) (yU a b)):=by
 have ap:=fT aiR;have an:=akY;have G:=Zd<|bY.new c 74 (au 4);have x:=Zd<|aj c (.cells (aF (au 4)) 74) none;have y:=Zd λW (g:c.grownBy W none)=>Vs n T a b W (aR F g) (aR Q g) hl ae;by_cases l:yU a b=0
 .have⟨P,h2,ho⟩:=aiV l;have D:Kr a b (mJ a b)=mJ a b:=by unfold Kr;rw[Q9 l]
  have E:N8 a b (mJ a b)=Ko a (mJ a b) 4:=by unfold N8;rw[Q9 l]
  rw[D,E,l];rw[l]at y;have SG:=Zd λW (g:c.grownBy W none)=>Vt n a (mJ a b) W (aR F g) P (Cw a b).1 (Cw a b).2;have X:=Zd λW (g:c.grownBy W none) N d e (hN:0<N) (am:N<=100000) (ao:∀R,R<N->(d R).length=4/\gY (d R)=true) (ha:amG W e N d)=>Z5 n T e a b N d W (aR F g) (aR Q g) P h2 ac ha hN am ao;have v:=Zd (Cw a b).1;have FI:=Zs (∀r,c.grownBy r none->amJ c (mJ a b) (Ko a (mJ a b) 4) 0 (.returned (.tuple #[.agg (aF (mJ a b)),I (Ko a (mJ a b) 4),I 0])) r) (λr g=>⟨rfl,g⟩);generalize amJ c (mJ a b) (Ko a (mJ a b) 4) 0=aq at *
  obtain⟨ad,cp,rfl,_,_⟩:=F;obtain⟨ar,cr,rfl,_,_⟩:=Q;clear P h2 ho D E l hl ae ac;go_enter func68,ntmps68;go_upto_region 1 with fail;generalize ag:c.alloc (.cells (aF (au 4)) 74)=K at *
  have S1:K.heap.size=c.heap.size+1:=by rw[<-ag];simp
  have Z:=Zd S1;clear ag S1;go_wp2_with fail;refine(y K x).mono ?_;rintro C U ⟨rfl,rfl⟩;clear y;have s:=Zs (jc c (U.alloc (.cells (aF (au 4)) 74)) 74 74 (au 4) (rR (cS a) (eS a b) 0)) (⟨G.aC (aj _ _ none),by have:=bY.new U 74 (au 4);rw[Z.out]at this;exact this,ay x (aj _ _ none)⟩);have ab:=Zd λe=>(show rR (cS a) (eS a b) (e+1)=(uy (cS a) (eS a b) (λd=>(rR (cS a) (eS a b) e).set (e % 4) (d:Int)) 10).1 from rfl);have H:=Zd<|tN (cS a) (eS a b);rw[show mJ a b=rR (cS a) (eS a b) 8 from rfl]at *
  clear G x;go_wp2_with fail;generalize U.alloc (.cells (aF (au 4)) 74)=W2 at *
  rw[Z.out];clear Z;go_loopw [9] (λn wr=>∃e:Nat,n=I e/\e<=8/\Hid (jc c wr 74 74 (au 4) (rR (cS a) (eS a b) e))) (λn _=>8-(intOf n).toNat)
  case atStart=>exact⟨0,rfl,QN _,s⟩
  case round=>
   obtain⟨e,rfl,hk,q⟩:=hrel;clear s;by_cases aw:e<8
   .have i1:(e:Int)<8:=gO;have M0:=Zs (Own4 (c.heap.size+2) wr (.slice none 0 0) 0 (λd=>(rR (cS a) (eS a b) e).set (e % 4) (d:Int))/\jc c wr 74 74 (au 4) (rR (cS a) (eS a b) e)/\c.heap.size+2<=wr.heap.size) (⟨aiU _ _ _,q,by have:=q.2.1.lt;omega⟩);have km:(e:Int).tmod 4=((e % 4:Nat):Int):=by rw[V3 gO];exact(Int.natCast_emod e 4).symm
    have kn:(e:Int) % 4=((e % 4:Nat):Int):=(Int.natCast_emod e 4).symm;have k4:((e % 4:Nat):Int)<4:=gO;have kl:e % 4<4:=gO;have⟨n1,n2⟩:=H e;have k:=Zd n1;have GN:=Zd n2;have EN:=ab e;have LY:=Zd (H (e+1)).1;clear ab H q n1 n2 FI SG v;generalize hY:rR (cS a) (eS a b) (e+1)=z at *
    have HY:=Zd hY;have af:=Zd EN;clear hY EN;generalize rR (cS a) (eS a b) e=N at *
    generalize e % 4=f at *
    go_wp2_with fail;go_loopw [10,11] (λi n wr=>∃d:Nat,n=I d/\d<=10/\Hid (Own4 (c.heap.size+2) wr i d (λd=>N.set f (d:Int))/\jc c wr 74 74 (au 4) N/\c.heap.size+2<=wr.heap.size)) (λ_ n _=>10-(intOf n).toNat)
    case atStart=>exact⟨0,rfl,QN _,M0⟩
    case round=>
     obtain⟨d,rfl,hp,j⟩:=hrel;clear M0;by_cases av:d<10
     .have j1:(d:Int)<10:=gO;have BB:=Zd j.2.1.2.1;have u:=dG wr 74 4 N k;have BF:=Zd u.1;have t:=Zd u.2.1;have o:=Zd<|j.1.aC u.2.2;have i:=Zd<|jc.aC j.2.1 u.2.2;have p:=Zd<|YM j.2.2 u.2.2.size;have LZ:=Zd j.2.2;have LB:=Zd λg (al:u10.ownBlock=some g)=>(World.ownsRow.lt j.1 g al).2;clear u j;go_upto_region 13 with(first|refine lA BB (by rw[k.out];exact jS) ?_|refine sA N BF (by rw[k.out,ak]) (by rw[ak];exact jS) ?_);(try simp only[Act.put]);clear BF BB;generalize b_ (wr.alloc _) wr.heap.size N=M at *
      generalize wr.heap.size=B at *
      have ct:=t.cell f (by rw[k.out];exact kl);have ft:=t.free f;have gs:=aD M ⟨B,f,none⟩ (I (d:Int));have s:=Zd<|t.set f (d:Int);have OS:=Zd (show Own4 (c.heap.size+2) (M.setCell ⟨B,f,none⟩ (I (d:Int))) u10 d (λd=>N.set f (d:Int))from by
       refine World.ownsRow.kept o gs ?_;rcases C:u10.ownBlock with _|g
       .exact .inl rfl
       right;intro m;have P:=LB g C;have h2:g=B:=Option.some.inj m;omega)
      have MS:=Zs (jc c (M.setCell ⟨B,f,none⟩ (I (d:Int))) 74 74 (au 4) N) (⟨i.out.1.aH gs (by have:=LZ.out;simp;omega),i.2.1.aH gs (by have:=LZ.out;simp;omega),aG i.2.2 gs (by have:=LZ.out;simp;omega)⟩);have ZS:=Zd<|YM p gs.size;have J:=Zs ((N.set f (d:Int)).length=4) (by simpa using k.out);clear gs o i p t LB;go_upto_region 14 with fail;generalize M.setCell ⟨B,f,none⟩ (I (d:Int))=W4 at *
      clear ct ft;have O:=aj W4 (.cells (aF (N.set f (d:Int))) 74) none;have o:=Zd<|OS.aC O;have i:=Zd<|jc.aC MS O;have p:=Zd<|YM ZS O.size;have Y:=Zd<|bY.new W4 74 (N.set f (d:Int));have aa:=Zs ((λd:Nat=>N.set f (d:Int)) d=N.set f (d:Int)) (rfl);clear O OS MS ZS;generalize ah:N.set f (d:Int)=X1 at s J Y aa;rw[ah]at o i p;clear ah;go_wp2_with (first|refine lA s (by rw[J.out];exact jS) ?_|refine Z6 rfl _ rfl X1 J rfl ?_|(at_builtin;refine Z7 rfl _ _ rfl (c.heap.size+2) d W4.heap.size _ (λd=>N.set f (d:Int)) X1 rfl rfl o Y J aa gO p ?_));intro v5 w5 h5 m;have ai:∀w,u10.ownBlock=some w->c.heap.size+2<=w:=λw hb=>(World.ownsRow.lt o w hb).1;have N5:=Zd (show Own4 (c.heap.size+2) w5 v5 (d+1) (λd=>N.set f (d:Int))/\jc c w5 74 74 (au 4) N/\c.heap.size+2<=w5.heap.size from⟨h5,by
       rcases eb:u10.ownBlock with _|w
       .rw[eb]at m;exact jc.aC i m
       have:=ai w eb;rw[eb]at m;exact⟨i.1.aH m gO,i.2.1.aH m gO,aG i.2.2 m gO⟩,YM p m.size⟩)
      clear h5 m ai o i p Y s aa;go_wp2_with fail;go_roundw
      case rel=>exact⟨d+1,by go_num,gO,N5⟩
      case measure=>simp[intOf];omega
     obtain rfl:d=10:=gO;have u:=Zd<|j.1.arr gO (λn d=>by simpa using k.out);have o:=Zd<|X wr j.2.1.2.2 10 _ u10 gO gO (λR d=>⟨by simpa using k.out,FH GN.out _ _ gO gO⟩) u.out;rw[<-af.out]at o;have w:=Zd j.2.1;clear u j X af;rw[show((10:Nat):Int)=10 from rfl];go_wp2_with fail;refine o.mono ?_;rintro C J ⟨rfl,B⟩;have m:=Zd<|jc.aC w B;have p:=Zd m.2.1;have i:=bF (rs':=z) p (by rw[LY.out,k.out]);have M:=Zs (jc c (b_ J (c.heap.size+1) z) 74 74 (au 4) z) (⟨m.1.aH i.2 gO,i.1,aG m.2.2 i.2 gO⟩);clear i B o w m;go_upto_region 7 with(first|refine sA z p (by rw[LY.out,k.out]) (by rw[k.out];exact jS) ?_);(try simp only[Act.put]);clear p;generalize b_ J (c.heap.size+1) z=O at *
     go_wp2_with fail;go_roundw
     case rel=>exact⟨e+1,by go_num,gO,by rw[HY.out];exact M⟩
     case measure=>simp[intOf];omega
   obtain rfl:e=8:=gO;have t:=Zd q.2.1;have z:=Zd q.1;have p:=Zd q.2.2;have M:=Zs (c.heap.size+1≠c.heap.size) gO;clear q X ab H ap an;generalize rR (cS a) (eS a b) 8=f at *
   generalize Ko a f 4=J at *
   rw[show((8:Nat):Int)=8 from rfl];go_wp2_with fail;refine wp_region_held_drew (S:=λr=>bY r (c.heap.size+1) 74 f) (by kernel_rfl) (t.aC (aS _)) λd=>?_;refine aV (hy:=by intro r m;exact yA m (by rw[v.out];exact jS)) (v:=.agg (aF f)) 0 d ?_;refine aV 1 d ?_;refine aV (hy:=by intro r m;exact yA m (by rw[v.out];exact jS)) (v:=.agg (aF f)) 2 d ?_;refine eU 3 λg e=>?_;(try simp only[sZ]);go_simp;refine(SG _ (ay p (aS wr))).mono ?_;rintro C O ⟨rfl,w⟩;have k:=Zd w;clear w;go_wp2_with fail;refine e.out _ _ (d.aC k) λd=>?_;clear e;(try simp only[sZ]);refine eU 4 λg e=>?_;(try simp only[sZ]);have j:=Zd<|(z.aC (aS wr)).aC k;refine eH rfl 74 _ _ rfl c.heap.size (au 4) f rfl rfl j (by rw[v.out,ak]) (by rw[ak];exact jS) ?_;have i:=bF (rs':=f) j (by rw[v.out,ak]);have o:=Zd<|kU i.1 (by rw[v.out];exact jS);have B:=Zd<|FI _ (aG (ay (ay p (aS wr)) k) i.2 (Q6 _));have u:=Zd<|d.aH i.2 M;clear i j;generalize b_ O c.heap.size f=R at *
   refine e.out _ _ u λd=>?_;clear e;(try simp only[sZ]);refine aV 5 d ?_;refine aV 6 d ?_;refine jX ?_;clear d u;go_wp2_with fail;refine QB (v:=.tuple #[.agg (aF f),I J,I 0]) ?_ rfl B;simp[results,results68,asAddr,Act.put,o.out]
 have D:Kr a b (mJ a b)=au 4:=by unfold Kr;rw[X9 l]
 have E:N8 a b (mJ a b)=0:=by unfold N8;rw[X9 l]
 rw[D,E];have hb:(yU a b==0)=false:=by simp[l]
 obtain⟨ad,cp,rfl,_,_⟩:=F;obtain⟨ar,cr,rfl,_,_⟩:=Q;clear D E l hl ae ac;generalize yU a b=e at *
 go_enter func68,ntmps68;go_upto_region 1 with fail;generalize c.alloc (.cells (aF (au 4)) 74)=K at *
 go_wp2_with fail;refine(y K x).mono ?_;rintro C U ⟨rfl,rfl⟩;clear y;go_wp2_with (first|refine sA (au 4) G rfl (by rw[ak];exact jS) ?_);have i:=bF (rs':=au 4) G rfl;have o:=kU i.1 (by rw[ak];exact jS);have d:=Zd<|aG x i.2 (Q6 _);refine QB (v:=.tuple #[.agg (aF (au 4)),I 0,I e]) ?_ rfl ⟨rfl,d⟩;simp[results,results68,asAddr,Act.put,o]
def aac (f:Nat)(e:Int)(a:W)(p:kD a f e)(B:-9223372036854775808<e)(C:e<9223372036854775808):Calls prog 55 #[.pointer (S f)] a (lQ a (.bool true)):=by
 have⟨r,c,K,M,O,s,v,t,u,P⟩:=fG p;have L:=Zd<|Cr r c a s v t gO;have i:=Zs (0<=val c/\val c<9223372036854775808) (by rw[u];omega);have g:=Zs (lQ a (.bool true) (.returned (.bool true)) a) (⟨rfl,rfl⟩);generalize lQ a (.bool true)=x at *
 generalize val c=w at *
 go_enter func55,ntmps55;go_wp2_with fail;refine L.mono ?_;rintro z J ⟨d,F,q,rfl,rfl⟩;have G:(d:Int)<64:=by
  rcases WZ d 64 with n|n
  .omega
  exfalso;have⟨E,D⟩:=i;have⟨y,j,k⟩:=q;rcases Int.lt_or_le 0 w with hp|hp
  .have l:=(k hp).2;obtain⟨b,o⟩:∃b,d-1=63+b:=⟨d-1-63,gO⟩;have m:(2:Int)^63=9223372036854775808:=by decide
   rw[o,Int.pow_add,m]at l;have:=Ef b;generalize (2:Int)^b=H at *
   omega
  have:=j gO;omega
 go_wp2_with fail;exact g
def Vw {A:L}(b:dB w w')(d:fO n w' x A)(c:w.heap.size<=n)(a:w'.grownBy u x.ownBlock):dB w u:=gV b a (λa b=>YM c (d.lt a b).1)
def Hu.take {b:List (V×L)}(e:Hu n w b)(f:Nat):Hu n w (b.take f):=by
 have c:∀(a:Nat) (d:V×L),(b.take f)[a]?=some d->b[a]?=some d:=λa d b=>by
  rw[KC]at b;split at b
  .exact b
  cases b
 exact⟨λa d A b=>e.1 a d A (c a _ b),λa f d A i g b h=>e.2 a f d A i g (c a _ b) (c f _ h)⟩
def Hu.pad {b:List (V×L)}(g:Hu n w b)(h:Nat):Hu n w (b++List.replicate h (N,[])):=by
 have e:∀(a:Nat) (d:V×L),(b++List.replicate h (N,[]))[a]?=some d->b[a]?=some d\/d=(N,[]):=λa d b=>by
  rw[H6]at b;split at b
  .exact .inl b
  exact .inr (List.mem_replicate.1 (List.mem_of_getElem? b)).2
 refine⟨λa d A b=>?_,λa i d A m j b f l k h=>?_⟩
 .rcases e a _ b with c|c
  .exact g.1 a d A c
  cases c;exact bN _ _
 rcases e a _ b with c|c
 .rcases e i _ f with f|f
  .exact g.2 a i d A m j c f l k h
  cases f;intro i;cases i
 cases c;cases h
def jE (b:L)(a:Nat)(c:a<b.length):b.take (a+1)=b.take a++[aB b a]:=by rw[List.take_add_one,KM c];simp[aB,List.getD,c]
def Bc:L:=[6,6,5,5,4,4,3,3]
def Nz:L:=[2,6,6,5,5,4,4,3,3,6,3,4,4,4,4,4,5,6,3,4,4,4,4,4,5]
def ak1 (a:Nat)(c:a<8):∃b:Nat,aB Bc a=(b:Int)/\aB Nz (a+1)=(b:Int)/\aB VO (a+1)=2^b-1/\3<=b/\b<=6:=by
 have:∀a:Fin 8,aB Bc a.val=((aB Bc a.val).toNat:Int)/\aB Nz (a.val+1)=((aB Bc a.val).toNat:Int)/\aB VO (a.val+1)=2^(aB Bc a.val).toNat - 1/\3<=(aB Bc a.val).toNat/\(aB Bc a.val).toNat<=6:=by decide
 exact⟨_,this ⟨a,c⟩⟩
def acR (a:Nat)(b:a<25):aB Nz a=(lX a:Int):=by
 have:∀a:Fin 25,aB Nz a.val=(lX a.val:Int):=by decide
 exact this ⟨a,b⟩
def vZ (c:Nat)(i:W)(e:Nat)(d:L)(b:Nat)(f g h:V)(a:W):Prop:=
 Hu c a [(f,d.take b),(g,Nz.take b),(h,VO.take b)]/\dB i a/\c<=a.heap.size/\bY a e 79 d
def F_ (b d:Nat)(c:TypeId)(e:L)(a:W)(f:List (V×L)):Prop:=Hu b a f/\b<=a.heap.size/\bY a d c e
def F_.lit {d:List (V×List Int)}(a:F_ n b T l w d)(c:Nat)(L:List Int)(e:Obj)(f:e=.cells (aF L) 3)(g:d[c]?=some (N,[]))(h:L.length<=1000):F_ n b T l (w.alloc e) (d.set c (.slice (S w.heap.size) L.length L.length,L)):=by subst f;exact⟨a.1.put c _ L g (aj w _ none) (Jt w _ a.2.1 L h) (λc c=>by simp[Value.ownBlock]at c;omega),by have:=a.2.1;simp;omega,a.2.2.aC (aj w _ none)⟩
def F_.app {f:List (V×L)}(a:F_ n b T l w f)(c:Nat)(h:T≠3){A:L}(g:f[c]?=some (x,A))(d:w.grownBy w' x.ownBlock)(j:fO n w' v' p)(i:∀e,v'.ownBlock=some e->x.ownBlock=some e\/w.heap.size<=e):F_ n b T l w' (f.set c (v',p)):=
 ⟨a.1.upd c x v' A p g d j i,YM a.2.1 d.size,a.2.2.Ju (a.1.get c g) h d⟩
structure StS (S:World->Prop) (base:Nat):Prop where
 al:∀u O,S u->S (u.alloc O)
 ap:∀u u' v A,S u->fO base u v A->u.grownBy u' v.ownBlock->S u'
def nX {q:Region.Mode}{r:Array Oper}{S:W->Prop}{p i:Array Bool}{g:Act->W->Prop}{f:List (V×List Int)}{s:Nat->Option Bool}{t:Prop}{m:Nat->Act}
 (x:Shut (∀a c,S c->(S c->wpAnyH prog q r Q S n (p.setIfInBounds b true) a c)->g a c)) (d:Nat) (L:List Int) (u:Hid (F_ k j T l w f)) (G:StS S k) (y:S w)
 (v:∀c e,Hid (F_ k j T l e (f.set d (.slice (some ⟨c,0,none⟩) L.length L.length,L)))->S e->wpAnyH prog q r Q S n i (m c) e) (B:o.guard=none:=by rfl)
 (E:∀w,(execOp a.eval o).run prog w=.ok (.value (.slice (some ⟨w.heap.size,0,none⟩) L.length L.length)) (w.alloc (.cells (aF L) 3)):=by intro w;go_simp;rfl)
 (C:f[d]?=some (N,[]):=by rfl) (D:L.length<=1000:=by simp)
 (e:p.setIfInBounds b true=i:=by(try simp only[sL])<;>exact rfl) (z:∀c,a.put o.dst (.slice (some ⟨c,0,none⟩) L.length L.length)=m c:=by intro c;simp only[sZ]<;>exact rfl) :
 if Region.wanted o s=true then Oper.wp prog o a w g Q else t:=by
 subst e;have F:Region.wanted o s=true:=by simp[Region.wanted,B]
 rw[Q9 F];unfold Oper.wp;simp only[E,Result.andThen_ok];exact x.out _ _ (G.al w _ y) (λc=>by rw[z];exact v _ _ (u.lit d L _ rfl C D) c)
def jw {u:Region.Mode}{v:Array Oper}{S:W->Prop}{t r:Array Bool}{q:Act->W->Prop}{i:List (V×L)}{R:Nat->Option Bool}{y:Prop}{s:V->Act}{A:L}{g m:Operand}
 (C:Shut (∀a c,S c->(S c->wpAnyH prog u v Q S n (t.setIfInBounds b true) a c)->q a c)) (d:Nat) (e:Hid (F_ k j T l w i)) (P:StS S k) (D:S w) (f:i[d]?=some (x,A)) (G:aY w v' p) (E:T≠3) (B:0<p.length) (J:(A.length+p.length)*8<=140737488355328)
 (z:∀c h,Hid (F_ k j T l h (i.set d (c,A++p)))->S h->wpAnyH prog u v Q S n r (s c) h) (H:o.guard=none:=by rfl)
 (K:o.op=Op.call { callee:=Callee.builtin Builtin.append,args:=#[g,m],argTypes:=#[26,26] }:=by rfl) (M:a.eval g=x:=by rfl) (O:a.eval m=v':=by rfl)
 (h:t.setIfInBounds b true=r:=by(try simp only[sL])<;>exact rfl) (F:∀c,a.put o.dst c=s c:=by intro c;simp only[sZ]<;>exact rfl) :
 if Region.wanted o R=true then Oper.wp prog o a w q Q else y:=by
 subst h;refine XG H g m K k x v' A p M O (e.1.get d f) G B J e.2.1 λc i g c h=>?_;exact C.out _ _ (P.ap w i x A D (e.1.get d f) c) (λi=>by rw[F];exact z _ _ (e.app d E f c g h) i)
def aiX (f:bY w n T l)(a d:Nat)(b:a+d<=l.length):w.rangeAt n a (((l.drop a).take d).map (Value.int .i64)):=λc b b=>by
 have g:c<d:=by
  rcases WZ c d with e|e
  .exact e
  rw[U8 (by simp;omega)]at b;cases b
 rw[f.cell (a+c) gO];rw[List.getElem?_map,KC,Q9 g,List.getElem?_drop,KM gO]at b;simp[aB,List.getD,show a+c<l.length by omega];simpa using b
def amK:(prog.info? 50).map (·.size)=some 8:=by kernel_rfl
def ak2:(prog.info? 77).map (·.size)=some 16:=by kernel_rfl
def Gy:(prog.info? 76).map (·.size)=some 8:=by kernel_rfl
def anP:(prog.info? 76).bind (·.zero)=some (.agg (aF (au 8))):=by kernel_rfl
def Vx (a:L)(b c:Nat):(aF a).extract b c=aF ((a.take c).drop b):=by
 unfold aF;rw[List.extract_toArray];congr 1;simp[List.extract_eq_take_drop,List.map_drop,List.map_take]
 try(rw[List.drop_take])
def afW (b:L)(j:b.length=16)(a:Nat)(k:a<2)(d:W):Sem.run prog (Instr.index 77 (.agg (aF b)) (I a)) d=.ok (.agg (aF ((b.take (a*8+8)).drop (a*8)))) d:=by
 have e:(0:Int)<=a/\(a:Int)<2:=gO;obtain⟨c,f,g⟩:∃c,prog.info? 76=some c/\c.size=8:=by
  cases hq:prog.info? 76 with
  | none=>have:=Gy;rw[hq]at this;cases this
  | some i=>exact⟨i,rfl,by have:=Gy;rw[hq]at this;simpa using this⟩
 rw[<-Vx];simp[Instr.index,run_underlying underlying77,asIntOf,e,go_sem,sizeOf,typeInfo,f,g,part,isAgg,run_underlying underlying76];intro i;omega
def take8 (a:L)(b:Nat)(c:b+8<=a.length):a.take (b+8)=((a.take b++[aB a b,aB a (b+1)])++[aB a (b+2),aB a (b+3),aB a (b+4),aB a (b+5)])++[aB a (b+6),aB a (b+7)]:=by rw[jE a (b+7) gO,jE a (b+6) gO,jE a (b+5) gO,jE a (b+4) gO,jE a (b+3) gO,jE a (b+2) gO,jE a (b+1) gO,jE a b gO];simp
def amL (a:Nat)(b:a<2):Nz.take (9+8*a+8)=Nz.take (9+8*a)++[6,3,4,4,4,4,4,5]/\VO.take (9+8*a+8)=VO.take (9+8*a)++[59,7,9,9,9,9,15,31]:=by
 have:∀a:Fin 2,Nz.take (9+8*a.val+8)=Nz.take (9+8*a.val)++[6,3,4,4,4,4,4,5]/\VO.take (9+8*a.val+8)=VO.take (9+8*a.val)++[59,7,9,9,9,9,15,31]:=by decide
 exact this ⟨a,b⟩
def anh (c:W)(b:Nat)(S:L)(a:W):Prop:=dB c a/\bY a b 76 S
def Eo (d:bY w n T l)(c b:Nat)(L:List Int)(e:L.length=b)(a:c+b<=l.length)(f:∀a,a<b->aB L a=aB l (c+a)):aY w (.slice (some (A n c)) b b) L:=by refine⟨some (A n c),b,by rw[e],gO,λ_=>⟨_,rfl,λa b=>?_⟩⟩;rw[Addr.add_mid,d.cell (c+a) gO,f a gO]
def fZ:(79:TypeId)≠3:=by decide
def ani:(76:TypeId)≠3:=by decide
def ak3 (a:Nat)(b:3<=a)(c:a<=6):8<=(2:Int)^a/\(2:Int)^a<=64:=by have:a=3\/a=4\/a=5\/a=6:=gO;rcases this with rfl|rfl|rfl|rfl<;>decide
def uP (j:L)(hl:j.length=25)(al:Addr)(an:Nat)(d:W)(hT:TabS d 1 al an Bc 8):Calls prog 79 #[.agg (aF j)] d λcY v=>∃v1 v2 v3,cY=.returned (.tuple #[v1,v2,v3])/\vZ (d.heap.size+1) d d.heap.size j 25 v1 v2 v3 v:=by
 have HT:=Zd hT;have HL:=Zd hl;have aE:d.heap.size<=d.heap.size+1:=gO;have P0:=Zd<|bY.new d 79 j;have G0:=Zd<|aj d (.cells (aF j) 79) none;have Z0:=Zs ((d.alloc (.cells (aF j) 79)).heap.size=d.heap.size+1) (by simp);clear hT;go_enter func79,ntmps79;go_upto_region 1 with fail;have c0:=P0.cell 0 gO;generalize d.alloc (.cells (aF j) 79)=r at *
 have M0:=Zd (show vZ (d.heap.size+1) d d.heap.size j 1 (.slice (some ⟨r.heap.size,0,none⟩) 1 1) (.slice (some ⟨r.heap.size+1,0,none⟩) 1 1) (.slice (some ⟨r.heap.size+1+1,0,none⟩) 1 1) (((r.alloc (.cells #[I (aB j 0)] 3)).alloc (.cells #[I 2] 3)).alloc (.cells #[I 2] 3))from by
  have F0:Hu (d.heap.size+1) r [(N,[]),(N,[]),(N,[])]:=Hu.nil (n:=3);have F1:=F0.put 0 (.slice (some ⟨r.heap.size,0,none⟩) 1 1) [aB j 0] rfl (aj r (.cells #[I (aB j 0)] 3) none) (Jt r _ (by rw[Z0.out];exact Q6 _) [aB j 0] (by simp)) (λT E=>by simp[Value.ownBlock]at E;omega);have F2:=F1.put 1 (.slice (some ⟨r.heap.size+1,0,none⟩) 1 1) [2] rfl (aj _ (.cells #[I 2] 3) none) (by have:=Ad (r.alloc (.cells #[I (aB j 0)] 3)) (d.heap.size+1) (by rw[<-Z0.out];simp) 2;simpa using this) (λT E=>by simp[Value.ownBlock]at E;simp;omega);have a1:=F2.put 2 (.slice (some ⟨r.heap.size+1+1,0,none⟩) 1 1) [2] rfl (aj _ (.cells #[I 2] 3) none) (by have:=Ad ((r.alloc (.cells #[I (aB j 0)] 3)).alloc (.cells #[I 2] 3)) (d.heap.size+1) (by rw[<-Z0.out];simp;omega) 2;simpa using this) (λT E=>by simp[Value.ownBlock]at E;simp;omega);have e0:j.take 1=[aB j 0]:=jE j 0 gO;refine⟨?_,ay (ay (ay G0 (aj _ _ none)) (aj _ _ none)) (aj _ _ none),by rw[<-Z0.out];simp;omega,((P0.aC (aj _ _ none)).aC (aj _ _ none)).aC (aj _ _ none)⟩;rw[e0];exact a1)
 go_upto_region 2 with fail;clear c0 P0 G0 Z0;generalize ((r.alloc (.cells #[I (aB j 0)] 3)).alloc (.cells #[I 2] 3)).alloc (.cells #[I 2] 3)=W1 at *
 generalize (Value.slice (some ⟨r.heap.size,0,none⟩) 1 1)=a5 at *
 generalize (Value.slice (some ⟨r.heap.size+1,0,none⟩) 1 1)=a6 at *
 generalize (Value.slice (some ⟨r.heap.size+1+1,0,none⟩) 1 1)=a7 at *
 obtain⟨y,Z,C,RN⟩:∃y:L,Hid (W1.rangeAt d.heap.size 1 (y.map (Value.int .i64)))/\Hid (y.length=8)/\Hid (∀g,g<8->aB y g=aB j (g+1)):=
  ⟨(j.drop 1).take 8,aiX M0.2.2.2 1 8 gO,by show _=_;simp;omega,λg U=>by simp[aB,List.getD,KC,List.getElem?_drop,U,Nat.add_comm]⟩
 go_wp2_with (first|refine wpList_load_mid rfl 50 _ rfl d.heap.size 1 rfl (y.map (Value.int .i64)) _ Z underlying50 rfl (by rw[GK,C.out];exact amK) ?_);clear Z;have IX:=Zd (λ(g:Nat) (U:g<8) (u:W)=>(show Sem.run prog (Instr.index 50 (.agg (aF y)) (I (g:Int))) u=.ok (I (aB j (g+1))) u from by
  have:=gF (T:=50) y underlying50 g (by rw[C.out];omega) C u;rw[RN.out g U]at this;exact this))
 clear C RN;have aa:Value.agg (y.map (Value.int .i64)).toArray=.agg (aF y):=rfl;rw[aa];clear aa;generalize Value.agg (aF y)=AV at *
 go_loopw [5,6,7,19] (λs5 s6 s7 s wr=>∃g:Nat,s=I g/\g<=8/\Hid (vZ (d.heap.size+1) d d.heap.size j (g+1) s5 s6 s7 wr)) (λ_ _ _ s _=>8-(intOf s).toNat)
 case atStart=>exact⟨0,rfl,QN _,M0⟩
 case round=>
  obtain⟨g,rfl,U,G⟩:=hrel;clear M0;by_cases a0:g<8
  .have ix:=IX g a0;have i1:(g:Int)<8:=gO;obtain⟨t,ax,az,aA,b3,b6⟩:=ak1 g a0;have ap:=Zd ax;obtain⟨p,hQ⟩:∃p:Int,(2:Int)^t=p:=⟨_,rfl⟩;have Q1:8<=p/\p<=64:=by
    have z:=ak3 t b3 b6;omega
   obtain⟨q1,q2⟩:=Q1;have k:=Zd<|jE j (g+1) gO;have l:=Zd<|jE Nz (g+1) (by show g+1<25;omega);rw[az]at l;have o:=Zd<|jE VO (g+1) (by show g+1<25;omega);rw[aA,hQ]at o;have i:=Zs ((j.take (g+1)).length<=25/\(Nz.take (g+1)).length<=25/\(VO.take (g+1)).length<=25) (by simp;omega);clear ax az aA IX;generalize aB j (g+1)=ab at *
   go_upto_region 5 with fail;refine wp_region_held_drew (S:=dB d) (by kernel_rfl) (aX G.2.1 (bB (aM _ none))) λb=>?_;have a:=Zs (Hu (d.heap.size+1) wr.drew [(u5,j.take (g+1)),(u6,Nz.take (g+1)),(u7,VO.take (g+1)),(N,[]),(N,[]),(N,[])]) ((G.1.pad 3).aC (bB (aM _ none)));replace a:=Zs (F_ (d.heap.size+1) d.heap.size 79 j wr.drew _) (⟨a,G.2.2.1,G.2.2.2.aC (bB (aM wr none))⟩);have e:=Zs (StS (dB d) (d.heap.size+1)) (⟨λu ai z=>dZ z ai,λu u' c1 A z af ac=>Vw z af (Nat.le_succ _) ac⟩);clear G ix;generalize wr.drew=wd at *
   refine aV 0 b ?_;refine aV 1 b ?_;refine aV 4 b ?_;refine aV (hy:=by intro v q;have O:=iq HT q;have t1:=O.1;go_simp;(try with_reducible rfl)) (v:=.slice (some al) 8 an) 5 b ?_;refine aV 6 b ?_;refine aV 7 b ?_;refine aV (hy:=by intro v q;have O:=iq HT q;have t1:=O.2.2 g gO;rw[show Bc.getD g 0=aB Bc g from rfl,ap.out]at t1;go_simp;(try with_reducible rfl)) (v:=I (t:Int)) 8 b ?_;refine aV 11 b ?_;refine aV (hy:=by intro v q;have O:=iq HT q;have t1:=O.1;go_simp;(try with_reducible rfl)) (v:=.slice (some al) 8 an) 12 b ?_;refine aV 13 b ?_;refine aV 14 b ?_;refine aV (hy:=by intro v q;have O:=iq HT q;have t1:=O.2.2 g gO;rw[show Bc.getD g 0=aB Bc g from rfl,ap.out]at t1;go_simp;(try with_reducible rfl)) (v:=I (t:Int)) 15 b ?_;refine aV (hy:=by intro v q;go_simp;(first|done|(rw[IntKind.wrap_u64];omega)|rfl)) (v:=.int .u64 (t:Int)) 16 b ?_;refine aV (hy:=by intro v q;go_simp;(first|done|rfl|omega|(rw[hQ];exact Je _ gO gO)|exact eG _ gO gO)) (v:=I p) 17 b ?_;refine aV (hy:=by intro v q;go_simp;(first|done|rfl|exact eG _ gO gO|omega)) (v:=I (p-1)) 18 b ?_;refine amN 2 9 19 (λf c=>?a2) (λf c=>?a3) λf c=>?cI
   case a2=>
    refine nX c 3 [ab] a e b λde c3 a b=>?_;clear c;refine amN 3 9 19 (λf c=>?ba) (λf c=>?bb) λf c=>?cJ
    case ba=>
     refine jw c 0 a e b rfl (a.1.get 3 rfl).ints fZ (by simp) (by have:=i.out;simp;omega) λam c4 a b=>?_;clear c;refine qN 9 19 (λf c=>?a4) λf c=>?cL
     case a4=>
      refine nX c 4 [(t:Int)] a e b λdf c2 a b=>?_;clear c;refine qN 10 19 (λf c=>?cM) λf c=>?a9
      case cM=>
       refine jw c 1 a e b rfl (a.1.get 4 rfl).ints fZ (by simp) (by have:=i.out;simp;omega) λcN dg a b=>?_;clear c;refine eU 19 λf c=>?_;refine nX c 5 [(p-1)] a e b λdi dj a b=>?_;clear c;refine eU 20 λf c=>?_;refine jw c 2 a e b rfl (a.1.get 5 rfl).ints fZ (by simp) (by have:=i.out;simp;omega) λcP cQ a b=>?_;clear c;refine aV 21 b ?_;refine aV 22 b ?_;refine aV 23 b ?_;refine jX ?_;have n:=Zs (vZ (d.heap.size+1) d d.heap.size j (g+1+1) am cN cP cQ) (⟨by rw[k.out,l.out,o.out];exact a.1.take 3,b,a.2.1,a.2.2⟩);clear a b k l o i;go_wp2_with fail;go_roundw
       case rel=>exact⟨g+1,by go_num,gO,n⟩
       case measure=>simp[intOf];omega
      case a9=>
       refine nX c 5 [(p-1)] a e b λdk dl a b=>?_;clear c;refine eU 10 λf c=>?_;refine jw c 1 a e b rfl (a.1.get 4 rfl).ints fZ (by simp) (by have:=i.out;simp;omega) λcR eX a b=>?_;clear c;refine eU 20 λf c=>?_;refine jw c 2 a e b rfl (a.1.get 5 rfl).ints fZ (by simp) (by have:=i.out;simp;omega) λcT cU a b=>?_;clear c;refine aV 21 b ?_;refine aV 22 b ?_;refine aV 23 b ?_;refine jX ?_;have n:=Zs (vZ (d.heap.size+1) d d.heap.size j (g+1+1) am cR cT cU) (⟨by rw[k.out,l.out,o.out];exact a.1.take 3,b,a.2.1,a.2.2⟩);clear a b k l o i;go_wp2_with fail;go_roundw
       case rel=>exact⟨g+1,by go_num,gO,n⟩
       case measure=>simp[intOf];omega
     case cL=>
      refine nX c 5 [(p-1)] a e b λeZ e4 a b=>?_;clear c;refine eU 9 λf c=>?_;refine nX c 4 [(t:Int)] a e b λe5 e6 a b=>?_;clear c;refine eU 10 λf c=>?_;refine jw c 1 a e b rfl (a.1.get 4 rfl).ints fZ (by simp) (by have:=i.out;simp;omega) λch e7 a b=>?_;clear c;refine eU 20 λf c=>?_;refine jw c 2 a e b rfl (a.1.get 5 rfl).ints fZ (by simp) (by have:=i.out;simp;omega) λci cj a b=>?_;clear c;refine aV 21 b ?_;refine aV 22 b ?_;refine aV 23 b ?_;refine jX ?_;have n:=Zs (vZ (d.heap.size+1) d d.heap.size j (g+1+1) am ch ci cj) (⟨by rw[k.out,l.out,o.out];exact a.1.take 3,b,a.2.1,a.2.2⟩);clear a b k l o i;go_wp2_with fail;go_roundw
      case rel=>exact⟨g+1,by go_num,gO,n⟩
      case measure=>simp[intOf];omega
    case bb=>
     refine nX c 4 [(t:Int)] a e b λe8 e9 a b=>?_;clear c;refine qN 3 19 (λf c=>?ck) λf c=>?cl
     case ck=>
      refine jw c 0 a e b rfl (a.1.get 3 rfl).ints fZ (by simp) (by have:=i.out;simp;omega) λav fa a b=>?_;clear c;refine qN 10 19 (λf c=>?cm) λf c=>?cn
      case cm=>
       refine jw c 1 a e b rfl (a.1.get 4 rfl).ints fZ (by simp) (by have:=i.out;simp;omega) λco fb a b=>?_;clear c;refine eU 19 λf c=>?_;refine nX c 5 [(p-1)] a e b λfc fd a b=>?_;clear c;refine eU 20 λf c=>?_;refine jw c 2 a e b rfl (a.1.get 5 rfl).ints fZ (by simp) (by have:=i.out;simp;omega) λcp cq a b=>?_;clear c;refine aV 21 b ?_;refine aV 22 b ?_;refine aV 23 b ?_;refine jX ?_;have n:=Zs (vZ (d.heap.size+1) d d.heap.size j (g+1+1) av co cp cq) (⟨by rw[k.out,l.out,o.out];exact a.1.take 3,b,a.2.1,a.2.2⟩);clear a b k l o i;go_wp2_with fail;go_roundw
       case rel=>exact⟨g+1,by go_num,gO,n⟩
       case measure=>simp[intOf];omega
      case cn=>
       refine nX c 5 [(p-1)] a e b λfe ff a b=>?_;clear c;refine eU 10 λf c=>?_;refine jw c 1 a e b rfl (a.1.get 4 rfl).ints fZ (by simp) (by have:=i.out;simp;omega) λcr fh a b=>?_;clear c;refine eU 20 λf c=>?_;refine jw c 2 a e b rfl (a.1.get 5 rfl).ints fZ (by simp) (by have:=i.out;simp;omega) λcs ct a b=>?_;clear c;refine aV 21 b ?_;refine aV 22 b ?_;refine aV 23 b ?_;refine jX ?_;have n:=Zs (vZ (d.heap.size+1) d d.heap.size j (g+1+1) av cr cs ct) (⟨by rw[k.out,l.out,o.out];exact a.1.take 3,b,a.2.1,a.2.2⟩);clear a b k l o i;go_wp2_with fail;go_roundw
       case rel=>exact⟨g+1,by go_num,gO,n⟩
       case measure=>simp[intOf];omega
     case cl=>
      refine nX c 5 [(p-1)] a e b λfi fj a b=>?_;clear c;refine eU 3 λf c=>?_;refine jw c 0 a e b rfl (a.1.get 3 rfl).ints fZ (by simp) (by have:=i.out;simp;omega) λcu fk a b=>?_;clear c;refine eU 10 λf c=>?_;refine jw c 1 a e b rfl (a.1.get 4 rfl).ints fZ (by simp) (by have:=i.out;simp;omega) λcv fl a b=>?_;clear c;refine eU 20 λf c=>?_;refine jw c 2 a e b rfl (a.1.get 5 rfl).ints fZ (by simp) (by have:=i.out;simp;omega) λcw cx a b=>?_;clear c;refine aV 21 b ?_;refine aV 22 b ?_;refine aV 23 b ?_;refine jX ?_;have n:=Zs (vZ (d.heap.size+1) d d.heap.size j (g+1+1) cu cv cw cx) (⟨by rw[k.out,l.out,o.out];exact a.1.take 3,b,a.2.1,a.2.2⟩);clear a b k l o i;go_wp2_with fail;go_roundw
      case rel=>exact⟨g+1,by go_num,gO,n⟩
      case measure=>simp[intOf];omega
    case cJ=>
     refine nX c 5 [(p-1)] a e b λfm fn a b=>?_;clear c;refine qN 3 9 (λf c=>?cy) λf c=>?cz
     case cy=>
      refine jw c 0 a e b rfl (a.1.get 3 rfl).ints fZ (by simp) (by have:=i.out;simp;omega) λcA fo a b=>?_;clear c;refine eU 9 λf c=>?_;refine nX c 4 [(t:Int)] a e b λfp fq a b=>?_;clear c;refine eU 10 λf c=>?_;refine jw c 1 a e b rfl (a.1.get 4 rfl).ints fZ (by simp) (by have:=i.out;simp;omega) λcB fr a b=>?_;clear c;refine eU 20 λf c=>?_;refine jw c 2 a e b rfl (a.1.get 5 rfl).ints fZ (by simp) (by have:=i.out;simp;omega) λcC cD a b=>?_;clear c;refine aV 21 b ?_;refine aV 22 b ?_;refine aV 23 b ?_;refine jX ?_;have n:=Zs (vZ (d.heap.size+1) d d.heap.size j (g+1+1) cA cB cC cD) (⟨by rw[k.out,l.out,o.out];exact a.1.take 3,b,a.2.1,a.2.2⟩);clear a b k l o i;go_wp2_with fail;go_roundw
      case rel=>exact⟨g+1,by go_num,gO,n⟩
      case measure=>simp[intOf];omega
     case cz=>
      refine nX c 4 [(t:Int)] a e b λfs ek a b=>?_;clear c;refine eU 3 λf c=>?_;refine jw c 0 a e b rfl (a.1.get 3 rfl).ints fZ (by simp) (by have:=i.out;simp;omega) λcE el a b=>?_;clear c;refine eU 10 λf c=>?_;refine jw c 1 a e b rfl (a.1.get 4 rfl).ints fZ (by simp) (by have:=i.out;simp;omega) λcF en a b=>?_;clear c;refine eU 20 λf c=>?_;refine jw c 2 a e b rfl (a.1.get 5 rfl).ints fZ (by simp) (by have:=i.out;simp;omega) λcG b4 a b=>?_;clear c;refine aV 21 b ?_;refine aV 22 b ?_;refine aV 23 b ?_;refine jX ?_;have n:=Zs (vZ (d.heap.size+1) d d.heap.size j (g+1+1) cE cF cG b4) (⟨by rw[k.out,l.out,o.out];exact a.1.take 3,b,a.2.1,a.2.2⟩);clear a b k l o i;go_wp2_with fail;go_roundw
      case rel=>exact⟨g+1,by go_num,gO,n⟩
      case measure=>simp[intOf];omega
   case a3=>
    refine nX c 4 [(t:Int)] a e b λeo ep a b=>?_;clear c;refine qN 2 19 (λf c=>?b5) λf c=>?b7
    case b5=>
     refine nX c 3 [ab] a e b λer es a b=>?_;clear c;refine qN 3 19 (λf c=>?b9) λf c=>?ca
     case b9=>
      refine jw c 0 a e b rfl (a.1.get 3 rfl).ints fZ (by simp) (by have:=i.out;simp;omega) λaw et a b=>?_;clear c;refine qN 10 19 (λf c=>?cb) λf c=>?cd
      case cb=>
       refine jw c 1 a e b rfl (a.1.get 4 rfl).ints fZ (by simp) (by have:=i.out;simp;omega) λce eu a b=>?_;clear c;refine eU 19 λf c=>?_;refine nX c 5 [(p-1)] a e b λda db a b=>?_;clear c;refine eU 20 λf c=>?_;refine jw c 2 a e b rfl (a.1.get 5 rfl).ints fZ (by simp) (by have:=i.out;simp;omega) λbn bo a b=>?_;clear c;refine aV 21 b ?_;refine aV 22 b ?_;refine aV 23 b ?_;refine jX ?_;have n:=Zs (vZ (d.heap.size+1) d d.heap.size j (g+1+1) aw ce bn bo) (⟨by rw[k.out,l.out,o.out];exact a.1.take 3,b,a.2.1,a.2.2⟩);clear a b k l o i;go_wp2_with fail;go_roundw
       case rel=>exact⟨g+1,by go_num,gO,n⟩
       case measure=>simp[intOf];omega
      case cd=>
       refine nX c 5 [(p-1)] a e b λdc dd a b=>?_;clear c;refine eU 10 λf c=>?_;refine jw c 1 a e b rfl (a.1.get 4 rfl).ints fZ (by simp) (by have:=i.out;simp;omega) λbp c5 a b=>?_;clear c;refine eU 20 λf c=>?_;refine jw c 2 a e b rfl (a.1.get 5 rfl).ints fZ (by simp) (by have:=i.out;simp;omega) λbq br a b=>?_;clear c;refine aV 21 b ?_;refine aV 22 b ?_;refine aV 23 b ?_;refine jX ?_;have n:=Zs (vZ (d.heap.size+1) d d.heap.size j (g+1+1) aw bp bq br) (⟨by rw[k.out,l.out,o.out];exact a.1.take 3,b,a.2.1,a.2.2⟩);clear a b k l o i;go_wp2_with fail;go_roundw
       case rel=>exact⟨g+1,by go_num,gO,n⟩
       case measure=>simp[intOf];omega
     case ca=>
      refine nX c 5 [(p-1)] a e b λc6 c7 a b=>?_;clear c;refine eU 3 λf c=>?_;refine jw c 0 a e b rfl (a.1.get 3 rfl).ints fZ (by simp) (by have:=i.out;simp;omega) λbt c9 a b=>?_;clear c;refine eU 10 λf c=>?_;refine jw c 1 a e b rfl (a.1.get 4 rfl).ints fZ (by simp) (by have:=i.out;simp;omega) λbu dm a b=>?_;clear c;refine eU 20 λf c=>?_;refine jw c 2 a e b rfl (a.1.get 5 rfl).ints fZ (by simp) (by have:=i.out;simp;omega) λbv bw a b=>?_;clear c;refine aV 21 b ?_;refine aV 22 b ?_;refine aV 23 b ?_;refine jX ?_;have n:=Zs (vZ (d.heap.size+1) d d.heap.size j (g+1+1) bt bu bv bw) (⟨by rw[k.out,l.out,o.out];exact a.1.take 3,b,a.2.1,a.2.2⟩);clear a b k l o i;go_wp2_with fail;go_roundw
      case rel=>exact⟨g+1,by go_num,gO,n⟩
      case measure=>simp[intOf];omega
    case b7=>
     refine nX c 5 [(p-1)] a e b λdn dp a b=>?_;clear c;refine eU 2 λf c=>?_;refine nX c 3 [ab] a e b λdq dr a b=>?_;clear c;refine eU 3 λf c=>?_;refine jw c 0 a e b rfl (a.1.get 3 rfl).ints fZ (by simp) (by have:=i.out;simp;omega) λbx ds a b=>?_;clear c;refine eU 10 λf c=>?_;refine jw c 1 a e b rfl (a.1.get 4 rfl).ints fZ (by simp) (by have:=i.out;simp;omega) λbz dt a b=>?_;clear c;refine eU 20 λf c=>?_;refine jw c 2 a e b rfl (a.1.get 5 rfl).ints fZ (by simp) (by have:=i.out;simp;omega) λbC bE a b=>?_;clear c;refine aV 21 b ?_;refine aV 22 b ?_;refine aV 23 b ?_;refine jX ?_;have n:=Zs (vZ (d.heap.size+1) d d.heap.size j (g+1+1) bx bz bC bE) (⟨by rw[k.out,l.out,o.out];exact a.1.take 3,b,a.2.1,a.2.2⟩);clear a b k l o i;go_wp2_with fail;go_roundw
     case rel=>exact⟨g+1,by go_num,gO,n⟩
     case measure=>simp[intOf];omega
   case cI=>
    refine nX c 5 [(p-1)] a e b λdu dv a b=>?_;clear c;refine qN 2 9 (λf c=>?bH) λf c=>?bR
    case bH=>
     refine nX c 3 [ab] a e b λdw dx a b=>?_;clear c;refine qN 3 9 (λf c=>?bX) λf c=>?b0
     case bX=>
      refine jw c 0 a e b rfl (a.1.get 3 rfl).ints fZ (by simp) (by have:=i.out;simp;omega) λb1 dy a b=>?_;clear c;refine eU 9 λf c=>?_;refine nX c 4 [(t:Int)] a e b λdC dE a b=>?_;clear c;refine eU 10 λf c=>?_;refine jw c 1 a e b rfl (a.1.get 4 rfl).ints fZ (by simp) (by have:=i.out;simp;omega) λbc dQ a b=>?_;clear c;refine eU 20 λf c=>?_;refine jw c 2 a e b rfl (a.1.get 5 rfl).ints fZ (by simp) (by have:=i.out;simp;omega) λbd bf a b=>?_;clear c;refine aV 21 b ?_;refine aV 22 b ?_;refine aV 23 b ?_;refine jX ?_;have n:=Zs (vZ (d.heap.size+1) d d.heap.size j (g+1+1) b1 bc bd bf) (⟨by rw[k.out,l.out,o.out];exact a.1.take 3,b,a.2.1,a.2.2⟩);clear a b k l o i;go_wp2_with fail;go_roundw
      case rel=>exact⟨g+1,by go_num,gO,n⟩
      case measure=>simp[intOf];omega
     case b0=>
      refine nX c 4 [(t:Int)] a e b λdT d0 a b=>?_;clear c;refine eU 3 λf c=>?_;refine jw c 0 a e b rfl (a.1.get 3 rfl).ints fZ (by simp) (by have:=i.out;simp;omega) λbg d1 a b=>?_;clear c;refine eU 10 λf c=>?_;refine jw c 1 a e b rfl (a.1.get 4 rfl).ints fZ (by simp) (by have:=i.out;simp;omega) λbh d2 a b=>?_;clear c;refine eU 20 λf c=>?_;refine jw c 2 a e b rfl (a.1.get 5 rfl).ints fZ (by simp) (by have:=i.out;simp;omega) λbi bj a b=>?_;clear c;refine aV 21 b ?_;refine aV 22 b ?_;refine aV 23 b ?_;refine jX ?_;have n:=Zs (vZ (d.heap.size+1) d d.heap.size j (g+1+1) bg bh bi bj) (⟨by rw[k.out,l.out,o.out];exact a.1.take 3,b,a.2.1,a.2.2⟩);clear a b k l o i;go_wp2_with fail;go_roundw
      case rel=>exact⟨g+1,by go_num,gO,n⟩
      case measure=>simp[intOf];omega
    case bR=>
     refine nX c 4 [(t:Int)] a e b λd3 d4 a b=>?_;clear c;refine eU 2 λf c=>?_;refine nX c 3 [ab] a e b λd5 d6 a b=>?_;clear c;refine eU 3 λf c=>?_;refine jw c 0 a e b rfl (a.1.get 3 rfl).ints fZ (by simp) (by have:=i.out;simp;omega) λbk d7 a b=>?_;clear c;refine eU 10 λf c=>?_;refine jw c 1 a e b rfl (a.1.get 4 rfl).ints fZ (by simp) (by have:=i.out;simp;omega) λbl d8 a b=>?_;clear c;refine eU 20 λf c=>?_;refine jw c 2 a e b rfl (a.1.get 5 rfl).ints fZ (by simp) (by have:=i.out;simp;omega) λbm b2 a b=>?_;clear c;refine aV 21 b ?_;refine aV 22 b ?_;refine aV 23 b ?_;refine jX ?_;have n:=Zs (vZ (d.heap.size+1) d d.heap.size j (g+1+1) bk bl bm b2) (⟨by rw[k.out,l.out,o.out];exact a.1.take 3,b,a.2.1,a.2.2⟩);clear a b k l o i;go_wp2_with fail;go_roundw
     case rel=>exact⟨g+1,by go_num,gO,n⟩
     case measure=>simp[intOf];omega
  obtain rfl:g=8:=gO;rw[show((8:Nat):Int)=8 from rfl];clear IX;go_upto_region 7 with fail;obtain⟨w,Z,C,RN⟩:∃w:L,Hid (wr.rangeAt d.heap.size 9 (w.map (Value.int .i64)))/\Hid (w.length=16)/\Hid (∀g,g<16->aB w g=aB j (9+g)):=
   ⟨(j.drop 9).take 16,aiX G.2.2.2 9 16 gO,by show _=_;simp;omega,λg U=>by simp[aB,List.getD,KC,List.getElem?_drop,U]⟩
  go_wp2_with (first|refine wpList_load_mid rfl 77 _ rfl d.heap.size 9 rfl (w.map (Value.int .i64)) _ Z underlying77 rfl (by rw[GK,C.out];exact ak2) ?_);clear Z;have IY:=Zd (λ(m:Nat) (hk:m<2)=>(show ∃S:L,S.length=8/\(∀M,M<8->aB S M=aB j (9+8*m+M))/\∀u:W,Sem.run prog (Instr.index 77 (.agg (aF w)) (I (m:Int))) u=.ok (.agg (aF S)) u from
   ⟨(w.take (m*8+8)).drop (m*8),by simp[C.out];omega,λM hj=>by
    rw[show 9+8*m+M=9+(8*m+M) by omega,<-RN.out (8*m+M) gO];simp[aB,List.getD,KC,List.getElem?_drop];rw[Q9 gO,Nat.mul_comm],λu=>afW w C m hk u⟩))
  clear C RN;have aa:Value.agg (w.map (Value.int .i64)).toArray=.agg (aF w):=rfl;rw[aa];clear aa;generalize Value.agg (aF w)=AW at *
  have fL:=fT anP;go_loopw [5,6,7,47] (λs5 s6 s7 s wr=>∃m:Nat,s=I m/\m<=2/\Hid (vZ (d.heap.size+1) d d.heap.size j (9+8*m) s5 s6 s7 wr)) (λ_ _ _ s _=>2-(intOf s).toNat)
  case atStart=>exact⟨0,rfl,QN _,G⟩
  case round=>
   obtain⟨m,rfl,hk,J⟩:=hrel;clear G;by_cases aH:m<2
   .obtain⟨S,hS,D,ix⟩:=IY m aH;have B:=Zd hS;have i1:(m:Int)<2:=gO;have H:=dG wr 76 8 S hS;have BF:=Zd H.1;have BT:=Zd H.2.1;have Q:=Zs (vZ (d.heap.size+1) d d.heap.size j (9+8*m) u5 u6 u7 (b_ (wr.alloc (.cells (aF (au 8)) 76)) wr.heap.size S)) (⟨J.1.aC H.2.2,aX J.2.1 H.2.2,YM J.2.2.1 H.2.2.size,J.2.2.2.aC H.2.2⟩);have k:=Zd<|take8 j (9+8*m) gO;have l:=Zd<|amL m aH;have i:=Zs ((j.take (9+8*m)).length<=25/\(Nz.take (9+8*m)).length<=25/\(VO.take (9+8*m)).length<=25) (by simp;omega);have ao:=D 0 gO;rw[Nat.add_zero]at ao;rw[<-ao,<-D 1 gO,<-D 2 gO,<-D 3 gO,<-D 4 gO,<-D 5 gO,<-D 6 gO,<-D 7 gO]at k;clear H IY D J ao;go_upto_region 10 with(first|refine sA S BF (by rw[B.out,ak]) (by rw[ak];exact Gy) ?_);(try simp only[Act.put]);clear BF ix;generalize b_ (wr.alloc _) wr.heap.size S=W3 at *
    generalize wr.heap.size=bs at *
    have eS:(List.map (Value.int .i64) S).toArray=aF S:=rfl;go_cut [5]from 50 to 65 (λs5 x=>Hu (d.heap.size+1) x [(s5,j.take (9+8*m+8)),(u6,Nz.take (9+8*m)),(u7,VO.take (9+8*m))]/\dB d x/\d.heap.size+1<=x.heap.size/\bY x d.heap.size 79 j)
    case first=>
     refine wp_region_held_drew (S:=anh d bs S) (by kernel_rfl) ⟨aX Q.2.1 (bB (aM _ none)),BT.aC (bB (aM _ none))⟩ λb=>?_;have a:=Zs (Hu (d.heap.size+1) W3.drew [(u5,j.take (9+8*m)),(u6,Nz.take (9+8*m)),(u7,VO.take (9+8*m)),(N,[]),(N,[])]) ((Q.1.pad 2).aC (bB (aM _ none)));replace a:=Zs (F_ (d.heap.size+1) d.heap.size 79 j W3.drew _) (⟨a,Q.2.2.1,Q.2.2.2.aC (bB (aM W3 none))⟩);have e:=Zs (StS (anh d bs S) (d.heap.size+1)) (⟨λu ai z=>⟨dZ z.1 ai,z.2.aC (aj _ _ none)⟩,λu u' c1 A z af ac=>⟨Vw z.1 af (Nat.le_succ _) ac,z.2.Ju af ani ac⟩⟩);clear Q BT;generalize W3.drew=wd at *
     refine aV 0 b ?_;refine aV 1 b ?_;refine aV (hy:=by intro v q;have cc:=q.2.cell 0 (by rw[B.out];omega);go_simp;(try with_reducible rfl)) (v:=I (aB S 0)) 2 b ?_;refine aV 3 b ?_;refine aV (hy:=by intro v q;have cc:=q.2.cell 1 (by rw[B.out];omega);go_simp;(try with_reducible rfl)) (v:=I (aB S 1)) 4 b ?_;refine aV 7 b ?_;refine aV 8 b ?_;refine aV 10 b ?_;refine aV (hy:=by intro v q;have cc:=q.2.cell 6 (by rw[B.out];omega);go_simp;(try with_reducible rfl)) (v:=I (aB S 6)) 11 b ?_;refine aV 12 b ?_;refine aV (hy:=by intro v q;have cc:=q.2.cell 7 (by rw[B.out];omega);go_simp;(try with_reducible rfl)) (v:=I (aB S 7)) 13 b ?_;refine qN 5 14 (λf c=>?cf) λf c=>?cg
     case cf=>
      refine nX c 3 [(aB S 0),(aB S 1)] a e b λev ew a b=>?_;clear c;refine qN 6 14 (λf c=>?cH) λf c=>?cV
      case cH=>
       refine jw c 0 a e b rfl (a.1.get 3 rfl).ints fZ (by simp) (by have:=i.out;simp;omega) λey ez a b=>?_;clear c;refine qN 9 14 (λf c=>?cW) λf c=>?cX
       case cW=>
        refine jw c 0 a e b rfl (Eo b.2 2 4 [aB S 2,aB S 3,aB S 4,aB S 5] rfl (by rw[B.out];omega) (λs K=>by match s,K with|0,_=>rfl|1,_=>rfl|2,_=>rfl|3,_=>rfl)) fZ (by simp) (by have:=i.out;simp;omega) λeA eB a b=>?_;clear c;refine eU 14 λf c=>?_;refine nX c 4 [(aB S 6),(aB S 7)] a e b λeC eE a b=>?_;clear c;refine eU 15 λf c=>?_;refine jw c 0 a e b rfl (a.1.get 4 rfl).ints fZ (by simp) (by have:=i.out;simp;omega) λeF eI a b=>?_;clear c;refine aV 16 b ?_;refine jX ?_;go_wp2_with fail;go_meet;exact⟨by rw[k.out];exact a.1.take 3,b.1,a.2.1,a.2.2⟩
       case cX=>
        refine nX c 4 [(aB S 6),(aB S 7)] a e b λeJ eK a b=>?_;clear c;refine eU 9 λf c=>?_;refine jw c 0 a e b rfl (Eo b.2 2 4 [aB S 2,aB S 3,aB S 4,aB S 5] rfl (by rw[B.out];omega) (λs K=>by match s,K with|0,_=>rfl|1,_=>rfl|2,_=>rfl|3,_=>rfl)) fZ (by simp) (by have:=i.out;simp;omega) λeL eM a b=>?_;clear c;refine eU 15 λf c=>?_;refine jw c 0 a e b rfl (a.1.get 4 rfl).ints fZ (by simp) (by have:=i.out;simp;omega) λeQ eR a b=>?_;clear c;refine aV 16 b ?_;refine jX ?_;go_wp2_with fail;go_meet;exact⟨by rw[k.out];exact a.1.take 3,b.1,a.2.1,a.2.2⟩
      case cV=>
       refine nX c 4 [(aB S 6),(aB S 7)] a e b λeV ea a b=>?_;clear c;refine eU 6 λf c=>?_;refine jw c 0 a e b rfl (a.1.get 3 rfl).ints fZ (by simp) (by have:=i.out;simp;omega) λeb ec a b=>?_;clear c;refine eU 9 λf c=>?_;refine jw c 0 a e b rfl (Eo b.2 2 4 [aB S 2,aB S 3,aB S 4,aB S 5] rfl (by rw[B.out];omega) (λs K=>by match s,K with|0,_=>rfl|1,_=>rfl|2,_=>rfl|3,_=>rfl)) fZ (by simp) (by have:=i.out;simp;omega) λed ee a b=>?_;clear c;refine eU 15 λf c=>?_;refine jw c 0 a e b rfl (a.1.get 4 rfl).ints fZ (by simp) (by have:=i.out;simp;omega) λef eg a b=>?_;clear c;refine aV 16 b ?_;refine jX ?_;go_wp2_with fail;go_meet;exact⟨by rw[k.out];exact a.1.take 3,b.1,a.2.1,a.2.2⟩
     case cg=>
      refine nX c 4 [(aB S 6),(aB S 7)] a e b λeh ei a b=>?_;clear c;refine eU 5 λf c=>?_;refine nX c 3 [(aB S 0),(aB S 1)] a e b λej eW a b=>?_;clear c;refine eU 6 λf c=>?_;refine jw c 0 a e b rfl (a.1.get 3 rfl).ints fZ (by simp) (by have:=i.out;simp;omega) λft fv a b=>?_;clear c;refine eU 9 λf c=>?_;refine jw c 0 a e b rfl (Eo b.2 2 4 [aB S 2,aB S 3,aB S 4,aB S 5] rfl (by rw[B.out];omega) (λs K=>by match s,K with|0,_=>rfl|1,_=>rfl|2,_=>rfl|3,_=>rfl)) fZ (by simp) (by have:=i.out;simp;omega) λfw fx a b=>?_;clear c;refine eU 15 λf c=>?_;refine jw c 0 a e b rfl (a.1.get 4 rfl).ints fZ (by simp) (by have:=i.out;simp;omega) λfy fz a b=>?_;clear c;refine aV 16 b ?_;refine jX ?_;go_wp2_with fail;go_meet;exact⟨by rw[k.out];exact a.1.take 3,b.1,a.2.1,a.2.2⟩
    case rest=>
     obtain⟨f1,f2,f3,f4⟩:=hcut;have a:=Zd f1;have P:=Zd f2;have F:=Zd f3;have R:=Zd f4;clear f1 f2 f3 f4 Q BT;have ad:=aj wc (.cells #[I 6,I 3,I 4,I 4,I 4,I 4,I 4,I 5] 3) none;have X:=Zd<|a.aC ad;have ag:=Zs (d.heap.size+1<=(wc.alloc (.cells #[I 6,I 3,I 4,I 4,I 4,I 4,I 4,I 5] 3)).heap.size) (by have:=F.out;simp;omega);have aq:=Zs (aY (wc.alloc (.cells #[I 6,I 3,I 4,I 4,I 4,I 4,I 4,I 5] 3)) (.slice (some ⟨wc.heap.size,0,none⟩) 8 8) [6,3,4,4,4,4,4,5]) ((Jt wc (d.heap.size+1) F [6,3,4,4,4,4,4,5] (by simp)).ints);go_wp2_with (at_builtin;refine Lf (by rfl) _ _ rfl (d.heap.size+1) u6 (.slice (some ⟨wc.heap.size,0,none⟩) 8 8) (Nz.take (9+8*m)) [6,3,4,4,4,4,4,5] rfl rfl (X.get 1 rfl) aq (by simp) (by have:=i.out;simp;omega) ag ?_);intro vx x ox gx nx;have P:=Zd<|Vw (aX P ad) (X.get 1 rfl) aE gx;have R:=Zd<|(R.aC ad).Ju (X.get 1 rfl) fZ gx;have F:=Zd<|YM ag gx.size;replace a:=Zd<|X.upd 1 _ _ _ _ rfl gx ox (λT E=>by have:=nx T E;simpa using this);clear ox gx nx ad X ag aq;have ae:=aj x (.cells #[I 59,I 7,I 9,I 9,I 9,I 9,I 15,I 31] 3) none;have Y:=Zd<|a.aC ae;have ah:=Zs (d.heap.size+1<=(x.alloc (.cells #[I 59,I 7,I 9,I 9,I 9,I 9,I 15,I 31] 3)).heap.size) (by have:=F.out;simp;omega);have ar:=Zs (aY (x.alloc (.cells #[I 59,I 7,I 9,I 9,I 9,I 9,I 15,I 31] 3)) (.slice (some ⟨x.heap.size,0,none⟩) 8 8) [59,7,9,9,9,9,15,31]) ((Jt x (d.heap.size+1) F [59,7,9,9,9,9,15,31] (by simp)).ints);go_wp2_with (at_builtin;refine Lf (by rfl) _ _ rfl (d.heap.size+1) u7 (.slice (some ⟨x.heap.size,0,none⟩) 8 8) (VO.take (9+8*m)) [59,7,9,9,9,9,15,31] rfl rfl (Y.get 2 rfl) ar (by simp) (by have:=i.out;simp;omega) ah ?_);intro vy wy oy gy ny;have P:=Zd<|Vw (aX P ae) (Y.get 2 rfl) aE gy;have R:=Zd<|(R.aC ae).Ju (Y.get 2 rfl) fZ gy;have F:=Zd<|YM ah gy.size;replace a:=Zd<|Y.upd 2 _ _ _ _ rfl gy oy (λT E=>by have:=ny T E;simpa using this);clear oy gy ny ae Y ah ar;have n:=Zs (vZ (d.heap.size+1) d d.heap.size j (9+8*m+8) u5 vx vy wy) (⟨by rw[l.out.1,l.out.2];exact a,P,F,R⟩);clear a P F R k l i;go_wp2_with fail;go_roundw
     case rel=>exact⟨m+1,by go_num,gO,n⟩
     case measure=>simp[intOf];omega
   obtain rfl:m=2:=gO;have n:=Zd J;clear J IY;go_wp2_with fail;go_ret3;exact⟨_,_,_,rfl,n⟩
def ak4 (a:Nat):aB VO a=wo a:=rfl
def Im (b:L)(n:b.length=25)(O:iI b)(u:Addr)(x:Nat)(d:W)(P:TabS d 1 u x Bc 8):Calls prog 78 #[.agg (aF b)] d (fP d (.bool (jC b))):=by
 have G:=Zd<|bY.new d 79 b;have r:=Zd<|aj d (.cells (aF b) 79) none;have D:=Zd λwr (f:d.grownBy wr none)=>uP b n u x wr (iq P f);have H:=Zd λ(m:∀a,a<25->0<=aB b a/\aB b a<=wo a) wr (f:d.grownBy wr none)=>(show fP d (.bool (jC b)) (.returned (.bool true)) wr from⟨by rw[(lY b).2 m],f⟩);have N:=Zd λa (i:a<25) (U:¬(0<=aB b a/\aB b a<=wo a)) wr (f:d.grownBy wr none)=>(show fP d (.bool (jC b)) (.returned (.bool false)) wr from⟨by rw[adf b a i U],f⟩);have k:=Zd n;have C:=Zd λa (i:a<25)=>FJ a i;have B:=Zd O;generalize fP d (.bool (jC b))=Y at *
 go_enter func78,ntmps78;go_upto_region 1 with fail;generalize d.alloc (.cells (aF b) 79)=Z at *
 go_wp2_with (first|refine lA G (by rw[k.out];exact dS) ?_);refine(D _ r).mono ?_;rintro aa X ⟨v1,v2,v3,rfl,l,M,f3,f4⟩;rw[K3 (show b.length<=25 by omega),K3 (show VO.length<=25 by decide)]at l;have o:=l.get 0 rfl;have p:=l.get 2 rfl;obtain⟨ga,ca,rfl,_,_,Q⟩:=o.form gO;obtain⟨gb,cb,rfl,_,_,R⟩:=p.form (by decide);rw[n]at o Q ⊢;rw[show VO.length=25 from rfl]at p R ⊢;have E:=Zd o;have F:=Zd p;have s:=Zd<|ay r M;go_wp2_with fail;go_loopw [15] (λa wr=>∃c:Nat,a=I c/\c<=25/\Hid (∀a,a<c->0<=aB b a/\aB b a<=wo a)/\Hid (dB X wr)) (λa _=>25-(intOf a).toNat)
 case atStart=>exact⟨0,rfl,QN _,λa i=>gO,aM _ _⟩
 case round=>
  obtain⟨c,rfl,hm,y,g⟩:=hrel;by_cases v:c<25
  .have c1:=(E.aC g).cell k.symm c (by rw[k.out];omega);have K:=(F.aC g).cell rfl c (by show c<25;omega);rw[ak4]at K;have⟨m1,m2,m3⟩:=C c v;have⟨x1,x2⟩:=B c;have i1:(c:Int)<25:=gO;have t:=Zd<|N c v;have z:=Zd (λ(m:0<=aB b c/\aB b c<=wo c)=>(show ∀a,a<c+1->0<=aB b a/\aB b a<=wo a from λa i=>by
    rcases WZ a c with e|e
    .exact y a e
    obtain rfl:a=c:=gO;exact m))
   have e:=Zd<|ay s g;generalize aB b c=j at *
   generalize wo c=q at *
   by_cases J:j<0
   .have a:=Zd λwr=>t gO wr;go_wp2_with fail;go_big_quiet (fail);go_wp2_with fail
    first|exact a _ (ay e (bB (aM _ none)))|exact a _ (ay e (dY _ _ none))|(go_ret;exact a _ (ay e (bB (aM _ none))))|(go_ret;exact a _ (ay e (dY _ _ none)))
   have ab:decide (j<0)=false:=KF J;by_cases w:q<j
   .have T:decide (q<j)=true:=KN w;have a:=Zd λwr=>t gO wr;go_wp2_with fail;go_big_quiet (fail);go_wp2_with fail
    first|exact a _ (ay e (bB (aM _ none)))|exact a _ (ay e (dY _ _ none))|(go_ret;exact a _ (ay e (bB (aM _ none))))|(go_ret;exact a _ (ay e (dY _ _ none)))
   have T:decide (q<j)=false:=KF w;have a:=Zd<|z gO;go_wp2_with fail;go_big_quiet (fail);go_wp2;go_roundw
   case rel=>exact⟨c+1,by go_num,gO,a,aX g (by first|exact dY _ _ none|exact bB (aM _ none))⟩
   case measure=>simp[intOf];omega
  obtain rfl:c=25:=gO;rw[show((25:Nat):Int)=25 from rfl]at *
  have a:=Zd<|H y wr (ay s g);go_wp2_with fail
  first|exact a|(go_ret;exact a)
def yF (n:V)(a:L)(d:W)(p:jI d n a)(k:yP a)(y:a.length<=1000):Calls prog 82 #[n] d (lQ d (.int .u8 (qJ a a.length))):=by
 obtain⟨u,v,rfl,x,l⟩:=p;have j:=Zd<|TD a k;have f:=Zd k;have g:=Zd l;have e:=Zs (lQ d (.int .u8 (qJ a a.length)) (.returned (.int .u8 ((90+uU a a.length) % 256))) d) (⟨rfl,rfl⟩);have i:=Zs (∀b,uU a (b+1)=uU a b+aB a b) (λb=>rfl);generalize lQ d (.int .u8 (qJ a a.length))=s at *
 clear l k;go_enter func82,ntmps82;go_wp2_with fail;go_loop [3,8] (λc d=>∃b:Nat,d=I b/\c=I (90+uU a b)/\b<=a.length) (λ_ d=>a.length-(intOf d).toNat)
 case atStart=>exact⟨0,rfl,rfl,QN _⟩
 case round=>
  obtain⟨b,rfl,rfl,z⟩:=hrel;have⟨C,D⟩:=j b;by_cases q:b<a.length
  .obtain⟨t,rfl,m⟩:=g gO;have w:=m b q;have⟨F,G⟩:=f b;have o:=Zd<|i b;have B:(b:Int)<a.length:=gO;have r:(a.length:Int)<=1000:=gO;clear g m f j i e;generalize aB a b=E at *
   generalize uU a b=c at *
   go_wp2_with fail;go_round
   case rel=>exact⟨b+1,by go_num,by rw[o.out];congr 1;omega,gO⟩
   case measure=>simp[intOf];omega
  obtain rfl:b=a.length:=gO;have r:(a.length:Int)<=1000:=gO;clear g f j i;generalize uU a a.length=c at *
  have m:(90+c).tmod 256=(90+c) % 256:=V3 gO;have o:(90+c) % 256 % 256=(90+c) % 256:=gO;go_wp2_with fail
  first|exact e|(go_ret;exact e)
def pPos (a:Nat):Nat:=[0,9,17].getD a 0
def Jd (b:L):Nat->Int
 | 0=>0
 | a+1=>Jd b a+pS (aB b (pPos a))
def ad_ (b:L):∀a:Nat,0<=Jd b a/\Jd b a<=63*(a:Int)
 | 0=>⟨DC _,DC _⟩
 | a+1=>by
  have:=ad_ b a;have:=agF (aB b (pPos a));show 0<=Jd b a+pS (aB b (pPos a))/\Jd b a+pS (aB b (pPos a))<=63*((a+1:Nat):Int);omega
def aiY (a:L):nE a=Jd a 3 % 2:=by show(pS (aB a 0)+pS (aB a 9)+pS (aB a 17)) % 2=(0+pS (aB a 0)+pS (aB a 9)+pS (aB a 17)) % 2;rw[Int.zero_add]
def Bt (a:L)(U:a.length=25)(B:iI a)(e:W):Calls prog 80 #[.agg (aF a)] e (fP e (I (nE a))):=by
 have j:=Zd<|bY.new e 79 a;have t:=Zd<|aj e (.cells (aF a) 79) none;have s:=Zs (∀b,e.grownBy b none->fP e (I (nE a)) (.returned (I (Jd a 3 % 2))) b) (λb b=>⟨by rw[aiY],b⟩);have w:=Zs (∀b,Jd a (b+1)=Jd a b+pS (aB a (pPos b))) (λb=>rfl);have y:=Zd<|ad_ a;have v:=Zd B;generalize fP e (I (nE a))=G at *
 go_enter func80,ntmps80;go_upto_region 2 with fail;have O:=j.cell 0 gO;have P:=j.cell 9 gO;have Q:=j.cell 17 gO;generalize e.alloc (.cells (aF a) 79)=g at *
 have x:=Zd (show ∀b,b<3->(#[Value.int .i64 (aB a 0),Value.int .i64 (aB a 9),Value.int .i64 (aB a 17)]:Array V)[b]?=some (I (aB a (pPos b)))from λb c=>by
  match b,c with
  | 0,_=>rfl
  | 1,_=>rfl
  | 2,_=>rfl)
 go_wp2_with fail;have u:=Zd<|ay t (aj g (.cells #[I (aB a 0),I (aB a 9),I (aB a 17)] 3) none);have r:=Zd (show ∀b,b<3->(g.alloc (.cells #[I (aB a 0),I (aB a 9),I (aB a 17)] 3)).cell? (A g.heap.size b)=some (I (aB a (pPos b)))from λb c=>by
  rw[aI (dF g _)];exact x b c)
 generalize g.alloc (.cells #[I (aB a 0),I (aB a 9),I (aB a 17)] 3)=z at *
 generalize g.heap.size=M at *
 go_loop [3,19] (λf b=>∃d:Nat,b=I d/\f=I (Jd a d)/\d<=3) (λ_ b=>3-(intOf b).toNat)
 case atStart=>exact⟨0,rfl,rfl,QN _⟩
 case round=>
  obtain⟨d,rfl,rfl,X⟩:=hrel;have⟨F,s2⟩:=y d;by_cases C:d<3
  .have R:=r d C;have⟨x1,x2⟩:=v (pPos d);have i:=Zd<|w d;have Y:(d:Int)<3:=gO;have m3:(d:Int)<=3:=gO;generalize aB a (pPos d)=c at *
   generalize Jd a d=f at *
   by_cases n:0<c
   .have p:=Zd<|Tz c;have q:=Zs (∀e,rT c (e+1)=rT c e+c / 2^e % 2) (λe=>rfl);rw[show pS c=rT c 63 from Q9 n]at i;go_wp2_with fail;go_loop [3,6] (λg e=>∃b:Nat,e=.int .u64 b/\g=I (f+rT c b)/\b<=63) (λ_ e=>63-(intOf e).toNat)
    case atStart=>exact⟨0,rfl,by show Value.int .i64 f=I (f+0);rw[Int.add_zero],QN _⟩
    case round=>
     obtain⟨b,rfl,rfl,T⟩:=hrel;have⟨J,K⟩:=p b;by_cases H:b<63
     .have k:=Zd<|q b;have l:0<=c / 2^b:=F7 gO (VR (jP b));have D:c / 2^b<=c:=Int.ediv_le_self _ gO;have m:(c / 2^b).tmod 2=c / 2^b % 2:=V3 l;have Z:(b:Int)<63:=gO;generalize rT c b=aa at *
      obtain⟨o,E⟩:∃o,c / 2^b=o:=⟨_,rfl⟩;rw[E]at l D m k;go_wp2_with fail;go_round
      case rel=>exact⟨b+1,by go_num,by rw[k.out];congr 1;omega,gO⟩
      case measure=>simp[intOf];omega
     obtain rfl:b=63:=gO;rw[show((63:Nat):Int)=63 from rfl]at *
     have k:=Zd i;obtain⟨l,o⟩:∃l,f+rT c 63=l:=⟨_,rfl⟩;rw[o]at k ⊢;go_wp2_with fail;go_round
     case rel=>exact⟨d+1,by go_num,by rw[k.out],gO⟩
     case measure=>simp[intOf];omega
   rw[show pS c=0 from X9 n,Int.add_zero]at i;go_wp2_with fail;go_loop [3,6] (λg e=>g=I f/\e=.int .u64 0) (λ_ _=>0)
   case atStart=>exact⟨rfl,rfl⟩
   case round=>
    obtain⟨rfl,rfl⟩:=hrel;go_wp2_with fail;go_round
    case rel=>exact⟨d+1,by go_num,by rw[i.out],gO⟩
    case measure=>simp[intOf];omega
  obtain rfl:d=3:=gO;rw[show((3:Nat):Int)=3 from rfl]at *
  have b:=Zd<|s z u;generalize Jd a 3=f at *
  have m:f.tmod 2=f % 2:=V3 F;go_wp2_with fail
  first|exact b|(go_ret;exact b)
def ni (c:W)(a:Nat)(b:L):Prop:=c.heap[a]?=some (.cells (nR b) 5 (0,0))
def ni.cell (b:ni w n l)(a:Nat)(c:a<l.length):w.cell? (A n a)=some (.int .u8 (aB l a)):=(aI b a).trans (Wz l a c)
def ni.free (b:ni w n l)(a:Nat):w.frozen? (A n a)=false:=bA b a
def ni.lt (a:ni w n l):n<w.heap.size:=aO a
def ni.aC (a:ni w n l)(b:w.grownBy w' none):ni w' n l:=(b.block _ (aO a) (by simp)).trans a
def ni.aH (a:ni w n l)(c:w.grownBy w' (some b))(d:n≠b):ni w' n l:=(c.block _ (aO a) (by simpa using d)).trans a
def ni.new (a:W)(b:L):ni (a.alloc (.cells (nR b) 5)) a.heap.size b:=dF a _
def ni.set (c:ni w n l)(a:Nat)(b:Int):ni (w.setCell (A n a) (.int .u8 b)) n (l.set a b):=by unfold ni;rw[heap_setCell c,WC]
def ni.aay (b:ni w n l)(a:Nat)(c:l.length=a):jI w (.slice (S n) a a) l:=by subst c;refine⟨_,l.length,rfl,Q6 _,λ_=>⟨_,rfl,λc a=>?_⟩⟩;rw[Addr.add_mid,WT];exact b.cell c a
def ni.own {base:Nat}(b:ni w n l)(a:Nat)(d:l.length=a)(c:base<=n)(e:a<=1000):iT base w (.slice (S n) a a) l:=by subst d;exact⟨by simp,.inr ⟨n,l.length,nR l,rfl,c,b,Q6 _,by unfold maxLen;omega,by simp[nR],by simp[nR];exact K3 (by simp)⟩⟩
def byL (b:Int)(N:Nat):L:=f_ N (λa=>b / 256^(N-1-a) % 256)
def aea (a:Int)(N:Nat):(byL a N).length=N:=cK _ _
def ak5 (a:Nat):(256:Int)^a=2^(8*a):=by rw[Int.pow_mul];rfl
def byte_at (b:L)(d:WF b)(a:Nat):aB b (a / 4) / 2^(8*(a % 4)) % 256=val b / 256^a % 256:=by
 have e:=vC b d (a / 4);have f:(256:Int)^a=P (a / 4)*2^(8*(a % 4)):=by
  rw[ak5,Ra,<-Int.pow_add,show 8*a=32*(a / 4)+8*(a % 4) by omega]
 rw[f,<-WR (VR (oP _)),show val b / P (a / 4)=upper b (a / 4)from rfl,e];have⟨i,j⟩:=d (a / 4);generalize aB b (a / 4)=k at *
 generalize upper b (a / 4+1)=h at *
 have g:a % 4=0\/a % 4=1\/a % 4=2\/a % 4=3:=gO;rcases g with c|c|c|c<;>rw[c]
 .rw[show(2:Int)^(8*0)=1 by decide];omega
 .rw[show(2:Int)^(8*1)=256 by decide];omega
 .rw[show(2:Int)^(8*2)=65536 by decide];omega
 rw[show(2:Int)^(8*3)=16777216 by decide];omega
def acS (c:Int)(a:Nat)(g:Bits c a)(b:0<=c):c<256^((a+7) / 8)/\∀b,b<(a+7) / 8->256^b<=c:=by
 have⟨k,h,i⟩:=g;refine⟨?_,λb d=>?_⟩
 .rw[ak5];have:(2:Nat)^a<=2^(8*((a+7) / 8)):=WM gO gO;have e:((2^a:Nat):Int)=(2:Int)^a:=by simp
  have f:((2^(8*((a+7) / 8)):Nat):Int)=(2:Int)^(8*((a+7) / 8)):=by simp
  omega
 have l:0<a:=gO;have j:0<c:=by
  rcases Int.lt_or_le 0 c with d|d
  .exact d
  have:=h gO;omega
 have⟨_,d⟩:=i j;rw[ak5];have:(2:Nat)^(8*b)<=2^(a-1):=WM gO gO;have e:((2^(8*b):Nat):Int)=(2:Int)^(8*b):=by simp
 have f:((2^(a-1):Nat):Int)=(2:Int)^(a-1):=by simp
 omega
def aad (N:Nat)(c:Nat->Int)(d:Nat)(b:L):Prop:=b.length=N/\∀a,N<=a+d->a<N->aB b a=c a
def aae (N:Nat)(a:Nat->Int):aad N a 0 (List.replicate N 0):=⟨by simp,λa a a=>gO⟩
def acT {N:Nat}(b:aad N f n l)(c:n<N):aad N f (n+1) (l.set (N-1-n) (f (N-1-n))):=by
 refine⟨by rw[XB];exact b.1,λc a d=>?_⟩;rw[Dn _ _ _ (by rw[b.1];omega)];by_cases a:c=N-1-n
 .rw[Q9 a,a]
 rw[X9 a];exact b.2 c gO d
def afX {N:Nat}(a:aad N f N l):l=f_ N f:=dL a.1 (λc b=>a.2 c gO b)
def Vy (v:Nat)(d:Int)(j:W)(hx:kD j v d)(Z:0<=d):Calls prog 118 #[.pointer (S v)] j λw a=>∃N:Nat,N<=32/\d<256^N/\(∀f,f<N->256^f<=d)/\w=.returned (.slice (S j.heap.size) N N)/\ni a j.heap.size (byL d N)/\j.grownBy a none:=by
 have⟨vx,b,x0,x1,xb,F,m,xt,xv,xl⟩:=fG hx;have G:val b=d:=by rw[xv];omega
 have Q:=Zd<|Cr vx b j F m xt gO;obtain⟨ad,cc,rfl,hv⟩:=jm F;have K:=Zd hv;have J:=Zd<|byte_at b m;have n:=Zd G;have M:=Zd m;have u:=Zd<|su b m;go_enter func118,ntmps118;go_wp2_with fail;refine Q.mono ?_;rintro w c ⟨e,hn,y,rfl,rfl⟩;rw[G]at y;have⟨q1,D⟩:=acS d e y Z;have U:(e+7) / 8<=32:=by
  rcases WZ 32 ((e+7) / 8)with g|g
  .have x:=D 32 g;have p:=u.2;have h3:=xL b.length 8 xl;rw[n.out]at p;rw[show(256:Int)^32=P 8 by decide]at x;omega
  exact g
 have X:((e:Int)+7).tdiv 8=(((e+7) / 8:Nat):Int):=by rw[YS gO];omega
 have Y:((e:Int)+7) / 8=(((e+7) / 8:Nat):Int):=gO;have ah:(e:Int)<=1280:=gO;generalize (e+7) / 8=N at *
 have T:=Zd q1;have t:=Zd D;have C:=λr=>Kc (N:Int) gO gO r;rw[Int.toNat_natCast]at C;have ae:(N:Int)<=32:=gO;have s:=Zs (ni (c.alloc (.cells (nR (List.replicate N 0)) 5)) c.heap.size (List.replicate N 0)/\c.grownBy (c.alloc (.cells (nR (List.replicate N 0)) 5)) none) (⟨ni.new c _,aj _ _ none⟩);obtain⟨k,hZ⟩:∃k:L,List.replicate N 0=k:=⟨_,rfl⟩;have F_:=Zd<|aae N (λe=>d / 256^(N-1-e) % 256);rw[hZ]at C s F_;go_wp2_with fail;generalize c.alloc (.cells (nR k) 5)=W0 at *
 go_loopw [5] (λf wr=>∃(a:Nat) (i:L),f=I a/\a<=N/\Hid (aad N (λe=>d / 256^(N-1-e) % 256) a i)/\Hid (ni wr c.heap.size i/\c.grownBy wr none)) (λf _=>N-(intOf f).toNat)
 case atStart=>exact⟨0,k,rfl,QN _,F_,s⟩
 case round=>
  obtain⟨a,i,rfl,hm,q,f⟩:=hrel;by_cases B:a<N
  .have i1:(a:Int)<N:=gO;have hj:a / 4<b.length:=by
    have x:=t a B;have p:=u.2;rw[n.out]at p;rcases WZ (a / 4) b.length with g|g
    .exact g
    exfalso;have h3:=xL b.length (a / 4) g;have l:P (a / 4)<=256^a:=by
     rw[ak5,Ra];have:(2:Nat)^(32*(a / 4))<=2^(8*a):=WM gO gO;have X:((2^(32*(a / 4)):Nat):Int)=(2:Int)^(32*(a / 4)):=by simp
     have Y:((2^(8*a):Nat):Int)=(2:Int)^(8*a):=by simp
     omega
    omega
   obtain⟨bw,rfl,af,aa⟩:=K gO;have ac:=aU f.2 x1;have cw:=aU f.2 (aa (a / 4) hj);have⟨E,w9⟩:=M (a / 4);have z:=J a;rw[n.out]at z;have o:=Zd<|acT q B;have ag:i.length=N:=q.1;have cd:=f.1.cell (N-1-a) gO;have fd:=f.1.free (N-1-a);have R:=Zd λe=>(show ni (wr.setCell (A c.heap.size (N-1-a)) (.int .u8 e)) c.heap.size (i.set (N-1-a) e)/\c.grownBy (wr.setCell (A c.heap.size (N-1-a)) (.int .u8 e)) none from⟨f.1.set _ _,aG f.2 (aD wr (A c.heap.size (N-1-a)) _) (Q6 _)⟩);have k1:(N:Int)-1-(a:Int)=((N-1-a:Nat):Int):=gO;have k2:(a:Int).tdiv 4=((a / 4:Nat):Int):=by rw[YS gO];omega
   have k3:(a:Int) / 4=((a / 4:Nat):Int):=gO;have k4:(a:Int).tmod 4=((a % 4:Nat):Int):=by rw[V3 gO];omega
   have k5:(a:Int) % 4=((a % 4:Nat):Int):=gO;have k6:((N-1-a:Nat):Int)<N:=gO;have k7:((a / 4:Nat):Int)<b.length:=gO;have k8:8*(a % 4)<=24:=gO;have k9:a % 4<=3:=gO;rw[show N-1-(N-1-a)=a by omega,<-z]at o;have hu:aB b (a / 4) / 2^(8*(a % 4))<=aB b (a / 4)/\0<=aB b (a / 4) / 2^(8*(a % 4)):=⟨Int.ediv_le_self _ E,F7 E (VR (jP _))⟩;have⟨u1,u2⟩:=hu;generalize aB b (a / 4)=r at *
   generalize hK:N-1-a=O at *
   generalize a / 4=ab at *
   generalize a % 4=l at *
   generalize aB i O=am at *
   have ai:(8*(l:Int)).toNat=8*l:=gO;have al:(l:Int)<=3:=gO;obtain⟨H,hy⟩:∃H,r / 2^(8*l)=H:=⟨_,rfl⟩;rw[hy]at u1 u2 o;go_wp2;go_roundw
   case rel=>exact⟨a+1,_,by go_num,gO,o,(R _)⟩
   case measure=>simp[intOf];omega
  obtain rfl:a=N:=gO;have o:=Zs (i=byL d a) (afX q);have l:=Zd f;go_wp2_with fail;go_ret;rw[o.out]at l;exact⟨a,U,T,t,rfl,l.1,l.2⟩
def Cx {m:Array V}{p:Nat×Nat}(q:kD w n i)(gr:w.grownBy w' (some b))(a:w.heap[b]?=some (.cells m T p))(r:T≠113)(s:T≠160):kD w' n i:=by
 have⟨y,t,c,d,e,h,j,k⟩:=q;refine⟨y,t,?_,?_,e,h,j,k⟩
 .rw[gr.block n (aO c) (λe=>by cases e;rw[c]at a;simp at a;exact r a.2.1.symm)];exact c
 rcases d with d|⟨g,l,o,u,v,f,x⟩
 .exact .inl d
 refine .inr ⟨g,l,o,u,v,?_,x⟩;rw[gr.block g (aO f) (λe=>by cases e;rw[f]at a;simp at a;exact s a.2.1.symm)];exact f
def alx:(5:TypeId)≠113/\(5:TypeId)≠160:=by decide
def aaf (L:List Int)(b:Nat)(a:List Int):List Int:=L.take b++(a++L.drop (b+a.length))
def aiZ (L:List Int)(b:Nat)(a:List Int)(c:b+a.length<=L.length):(aaf L b a).length=L.length:=by simp[aaf];omega
def ai0 (L:List Int)(a:Nat)(c:List Int)(g:a+c.length<=L.length)(b:Nat):aB (aaf L a c) b=if b<a then aB L b else if b<a+c.length then aB c (b-a)else aB L b:=by
 unfold aaf aB;by_cases d:b<a
 .rw[Q9 d];simp[List.getD,H6,d,show b<L.length by omega,show b<min a L.length by omega]
 rw[X9 d];have f:(L.take a).length=a:=by simp;omega
 by_cases e:b<a+c.length
 .rw[Q9 e];simp[List.getD,H6,f,d,show b-a<c.length by omega,show ¬b<min a L.length by omega,show min a L.length=a by omega]
 rw[X9 e];simp[List.getD,H6,show ¬b<min a L.length by omega,show min a L.length=a by omega,show ¬b-a<c.length by omega];rw[show a+c.length+(b-a-c.length)=b by omega]
 try rw[X9 d]
def Qn (b:W)(a:Nat)(c:Array V):b.grownBy (b.setRow a c) (some a):=
 ⟨rfl,rfl,rfl,by simp,λe _ d=>setRow_other b a e c (λa=>d (by rw[a]))⟩
def Vz {n:Array Oper}{rest:List Oper}(t:o.guard=none)(j p:Operand)
 (v:o.op=Op.call { callee:=Callee.builtin Builtin.copy,args:=#[j,p],argTypes:=#[32,32] }) (e c h k g d q:Nat) (b L:List Int)
 (s:a.eval j=.slice (some (A e c)) h k) (x:a.eval p=.slice (S g) d q) (l:ni w e b) (r:ni w g L) (i:L.length=d) (u:d<=h) (B:c+d<=b.length)
 (z:∀f,ni f e (aaf b c L)->w.grownBy f (some e)->wpList prog n Q rest (a.put o.dst (goInt d)) f):wpList prog n Q (o::rest) a w:=by
 have y:(prog.info? 5).map (·.size)=some 1:=by kernel_rfl
 have m:=run_copy_row (P:=prog) w 32 32 o.type 5 e c h k (A g 0) d q (nR b) 5 (L.map (Value.int .u8)) underlying32 y l (by simp[i,Nat.min_eq_left u])
  (λe g d=>by
   have f:e<L.length:=by
    by_cases f:e<L.length
    .exact f
    rw[U8 (by simp;omega)]at d;cases d
   rw[Addr.add_mid,WT,r.cell e f];simpa [aB,List.getD,f] using d)
  (by simp[nR,i];omega) (λg d=>by
   obtain⟨f,_,rfl⟩:=List.mem_map.1 d;rfl)
 have f:((nR b).toList.take c++L.map (Value.int .u8)++(nR b).toList.drop (c+(L.map (Value.int .u8)).length)).toArray=nR (aaf b c L):=by
  simp[nR,aaf,List.map_take,List.map_drop]
 rw[f,GK,i]at m;refine wpList_plain t λb b=>?_;unfold Oper.wp;simp[execOp,v,resolve,invoke,builtin,s,x,m,Result.andThen];exact b _ _ (z _ (setRow_heap _ _ _ _ _ _ l) (Qn _ _ _))
def Nl (c:Nat)(b:L):Prop:=b.length=14/\∀a,a<c->aB b a=0
def aag (a:Nl n l)(c:n<14):Nl (n+1) (l.set n 0):=by
 refine⟨by rw[XB];exact a.1,λc b=>?_⟩;rw[Dn _ _ _ (by rw[a.1];omega)];by_cases b:c=n
 .rw[Q9 b]
 rw[X9 b];exact a.2 c gO
def Sk (a b:Nat)(c:a<=b):(256:Int)^a<=256^b:=by
 have f:(256:Nat)^a<=256^b:=WM gO c;have d:((256^a:Nat):Int)=(256:Int)^a:=by simp
 have e:((256^b:Nat):Int)=(256:Int)^b:=by simp
 omega
def ak6 (a:Int)(N:Nat)(e:L)(f:0<=a)(g:a<256^N)(h:N<=14)(b:Nl 14 e):aaf e (14-N) (byL a N)=Dl a:=by
 have c:=aea a N;refine dL (by rw[aiZ _ _ _ (by rw[c,b.1];omega),b.1]) λa e=>?_;rw[ai0 _ _ _ (by rw[c,b.1];omega),c];unfold Q7;by_cases d:a<14-N
 .rw[Q9 d,b.2 a e,Int.ediv_eq_zero_of_lt f (by have:=Sk N (13-a) gO;omega)];rfl
 rw[X9 d,pO];unfold byL;rw[dP _ _ _ gO,show N-1-(a-(14-N))=13-a by omega]
def ak7 (b:L)(a:Nl 14 b):b=Dl 0:=dL a.1 (λc b=>by rw[a.2 c b];unfold Q7;rw[Int.zero_ediv];rfl)
def Qo (m:Nat)(e:Int)(i:W)(M:kD i m e)(q:0<=e)(G:e<256^14)(a:Nat)(d:L)(f:ni i a d)(J:d.length=14):Calls prog 81 #[.pointer (S m),.slice (S a) 14 14] i λc b=>c=.returned (.slice (S a) 14 14)/\ni b a (Dl e)/\i.grownBy b (some a):=by
 have y:=Zd λb (gr:i.grownBy b (some a))=>Cx M gr f alx.1 alx.2;have x:=Zd f;have z:=Zd J;have w:=Zd G;have T:=f.lt;go_enter func81,ntmps81;go_wp2_with fail;go_loopw [9] (λf wr=>∃(b:Nat) (d:L),f=I b/\b<=14/\Hid (Nl b d)/\Hid (ni wr a d/\i.grownBy wr (some a))) (λf _=>14-(intOf f).toNat)
 case atStart=>exact⟨0,d,rfl,QN _,⟨z,λg g=>gO⟩,x,aM _ _⟩
 case round=>
  obtain⟨b,d,rfl,Y,j,g⟩:=hrel;by_cases D:b<14
  .have p:(b:Int)<14:=gO;have n:=g.1.cell b (by rw[j.out.1];omega);have o:=g.1.free b;have l:=Zd<|aag j D;have k:=Zs (ni (wr.setCell (A a b) (.int .u8 0)) a (d.set b 0)/\i.grownBy (wr.setCell (A a b) (.int .u8 0)) (some a)) (⟨g.1.set _ _,bT g.2 (aD wr (A a b) _) (some a) (λf c _=>c) (λf c _=>c)⟩);generalize aB d b=r at *
   go_wp2;go_roundw
   case rel=>exact⟨b+1,_,by go_num,gO,l,k⟩
   case measure=>simp[intOf];omega
  obtain rfl:b=14:=gO;rw[show((14:Nat):Int)=14 from rfl]at *
  have t:=Zd<|Vy m e wr (y wr g.2) q;have R:=Zs (a<wr.heap.size) (g.1.lt);go_wp2_with fail;refine t.mono ?_;rintro c w1 ⟨N,U,P,Q,rfl,E,p⟩;have C:N<=14:=by
   rcases WZ 14 N with k|k
   .have:=Q 14 k;have:=w.out;omega
   exact k
  have r:=Zd E;have k:=Zd<|g.1.aC p;have l:=Zd<|bT g.2 p (some a) (λf c _=>c) (λf c _=>by cases c);have u:=Zd<|ak6 e N d q P C j;have K:=aea e N;have B:=Zd j.1;by_cases H:N=0
  .subst H;have v:e=0:=by have:(256:Int)^0=1:=rfl;omega
   have n:=Zs (d=Dl e) (by rw[v];exact ak7 d j);have s:(prog.info? 5).map (·.size)=some 1:=by kernel_rfl
   generalize wr.heap.size=o at *
   go_wp2_with (refine wpList_copy_nothing rfl _ _ 32 32 rfl 5 underlying32 s _ _ _ _ _ _ rfl rfl (by simp) ?_);rw[n.out]at k
   first|(go_ret;exact⟨rfl,k,l⟩)|(go_wp2_with fail;go_ret;exact⟨rfl,k,l⟩)
  have Z:(14:Int)-(N:Int)=((14-N:Nat):Int):=gO;have k2:(N:Int)<=14:=gO;have k3:14-N<14:=gO;have k4:((14-N:Nat):Int)<14:=gO;have k5:14-(14-N)=N:=gO;generalize wr.heap.size=o at *
  generalize X:14-N=O at *
  go_wp2_with (refine Vz rfl _ _ rfl a O N N o N N d (byL e N) rfl rfl k r K (Q6 _) (by rw[B.out];omega) ?_);intro w2 n F;rw[u.out]at n;have s:=Zd n;have v:=Zd<|bT l F (some a) (λf c _=>c) (λf c _=>c);go_wp2_with fail;go_ret;exact⟨rfl,s,v⟩
def PkM (b:W)(d c:Nat)(h:Int)(f g:V)(e:L)(a:W):Prop:=
 kD a c h/\fO b.heap.size a f e/\fO b.heap.size a g Nz/\bY a d 79 e/\b.grownBy a none/\b.heap.size<=c/\d≠c
def aly:(113:TypeId)≠3:=by decide
def PkM.grow (a:PkM w n b i x v' l w')(c:w'.grownBy u none):PkM w n b i x v' l u:=
 ⟨bP a.1 c,a.2.1.aC c,a.2.2.1.aC c,a.2.2.2.1.aC c,ay a.2.2.2.2.1 c,a.2.2.2.2.2⟩
def PkM.turn {e:Int}(a:PkM w n b i x v' l w')(c:w'.grownBy u (some b))(f:kD u b e):PkM w n b e x v' l u:=by have⟨g,h,d⟩:=dA a.1;exact⟨f,a.2.1.aH c d aly,a.2.2.1.aH c d aly,a.2.2.2.1.aH c a.2.2.2.2.2.2,aG a.2.2.2.2.1 c a.2.2.2.2.2.1,a.2.2.2.2.2⟩
def Ep (b:L)(d:jC b=true)(a:Nat)(c:a<=25):0<=nF b a/\nF b a<81129638414606681695789005144064:=by
 have⟨h,i⟩:=agE b d a c;have e:=Kt a c;have j:(2:Nat)^sW a<=2^106:=WM gO e;have f:((2^sW a:Nat):Int)=(2:Int)^sW a:=by simp
 have g:((2^106:Nat):Int)=81129638414606681695789005144064:=by decide
 omega
def ak8 (b:L)(c:jC b=true)(a:Nat)(d:a<25):0<=nF b a*2^lX a/\nF b a*2^lX a<81129638414606681695789005144064:=by have⟨h,i⟩:=Ep b c (a+1) gO;have⟨f,g⟩:=(lY b).1 c a d;have e:nF b (a+1)=nF b a*2^lX a+aB b a:=rfl;have j:=ZA (Ep b c a gO).1 (VR (jP (lX a)));omega
def ai1 (a:W):kD (a.alloc iW) a.heap.size 0:=⟨_,[],dF _ _,sI _,vM,rA,by rw[nA];rfl,by simp⟩
def alz:5192296858534827628530496329220096<P 8:=by decide +kernel
def aah (a:List Int)(r:a.length=25)(J:iI a)(m:jC a=true)(B:Addr)(D:Nat)(c:W)(hT:TabS c 1 B D Bc 8):Calls prog 31 #[.agg (aF a)] c λe g=>∃b,e=.returned (.tuple #[b,I 0])/\iT c.heap.size g b (GJ a)/\c.grownBy g none:=by
 have P0:=Zd<|bY.new c 79 a;have G0:=Zd<|aj c (.cells (aF a) 79) none;have GP:=Zd λwr (q:c.grownBy wr none)=>Im a r J B D wr (iq hT q);rw[m]at GP;have NU:=Zd λwr (q:c.grownBy wr none)=>uP a r B D wr (iq hT q);have PR:=Zd<|Bt a r J;have f:=Zd r;have HG:=Zd m;go_enter func31,ntmps31;go_upto_region 1 with fail;generalize c.alloc (.cells (aF a) 79)=W0 at *
 go_wp2_with (first|refine lA P0 (by rw[f.out];exact dS) ?_);refine(GP _ G0).mono ?_;rintro e w1 ⟨rfl,g1⟩;have P1:=Zd<|P0.aC g1;have z:=Zd<|ay G0 g1;go_wp2_with (first|refine lA P1 (by rw[f.out];exact dS) ?_);refine(NU _ z).mono ?_;rintro e n ⟨v1,v2,v3,rfl,E,f2,f3,f4⟩;rw[K3 (show a.length<=25 by omega),K3 (show Nz.length<=25 by decide)]at E;have G2:=Zd<|ay z f2;have al:=z.size;have Q:=(E.get 0 rfl).base (b':=c.heap.size) gO;have R:=(E.get 1 rfl).base (b':=c.heap.size) gO;obtain⟨ga,ca,rfl,_,_,ha⟩:=Q.form gO;obtain⟨gb,cb,rfl,_,_,K⟩:=R.form (by decide);rw[r]at Q ha ⊢;rw[show Nz.length=25 from rfl]at R K ⊢;have M0:=Zd (show PkM c c.heap.size n.heap.size 0 (.slice (S ga) 25 ca) (.slice (S gb) 25 cb) a (n.alloc iW)from by
  have b:=aj n iW none;have d:=(P1.aC f2);exact⟨ai1 n,Q.aC b,R.aC b,d.aC b,ay G2 b,G2.size,by have:=d.lt;omega⟩)
 rw[show iW=.cells #[.bool false,N] 113 from rfl]at M0;go_wp2_with fail;generalize n.alloc (.cells #[.bool false,N] 113)=W3 at *
 generalize n.heap.size=d at *
 go_loopw [8,23] (λi s wr=>∃b:Nat,s=I b/\i=I (sW b:Int)/\b<=25/\Hid (PkM c c.heap.size d (nF a b) (.slice (S ga) 25 ca) (.slice (S gb) 25 cb) a wr)) (λ_ s _=>25-(intOf s).toNat)
 case atStart=>exact⟨0,rfl,rfl,QN _,M0⟩
 case round=>
  obtain⟨b,rfl,rfl,hm,i⟩:=hrel;have an:=Kt b hm;by_cases v:b<25
  .have t:=i.2.1.cell f.symm b (by rw[f.out];omega);have j:=i.2.2.1.cell rfl b (by show b<25;omega);rw[acR b v]at j;have⟨n1,n2⟩:=ak8 a m b v;have⟨n3,n4⟩:=Ep a m (b+1) gO;have⟨d1,d2⟩:=Tx b v;have⟨x1,x2⟩:=J b;have i1:(b:Int)<25:=gO;have k:=Zs (nF a (b+1)=nF a b*2^lX b+aB a b) (rfl);have x:=Zs (sW (b+1)=sW b+lX b) (rfl);have ac:=alz;have X:=Zd<|xq d d (nF a b) (lX b) gO wr (dA i.1) i.1 gO gO;rw[k.out]at n3 n4;have U:=Zd λg (q:wr.grownBy g (some d)) (s:kD g d (nF a b*2^lX b))=>i.turn q s;generalize nF a b*2^lX b=u at *
   generalize Z:aB a b=w at *
   generalize Y:lX b=g at *
   generalize sW b=ai at *
   have T:=Zd Z;have P:=Zd Y;have d3:(g:Int)<=6:=gO;have q3:(ai:Int)<=106:=gO;have dw:IntKind.u64.wrap (g:Int)=g:=by rw[IntKind.wrap_u64];omega
   go_wp2_with fail;refine X.mono ?_;rintro e w3 ⟨rfl,M,F⟩;have o:=Zd<|U w3 F M;have t:=o.2.1.cell f.symm b (by rw[f.out];omega);rw[T.out]at t;go_wp2_with fail;refine(eP w _ x1 x2).mono ?_;rintro e w4 ⟨C,rfl,ag,i4,G⟩;have p:=Zd<|o.grow G;have y:=Zd<|kP d d C u w w4 (dA p.1) p.1 i4 gO gO;go_wp2_with fail;refine y.mono ?_;rintro e w5 ⟨rfl,O,H⟩;have l:=Zd<|p.turn H O;have j:=l.2.2.1.cell rfl b (by show b<25;omega);rw[acR b v,P.out]at j;go_wp2;go_roundw
   case rel=>exact⟨b+1,by go_num,by rw[x.out];go_num,gO,by rw[k.out];exact l⟩
   case measure=>simp[intOf];omega
  obtain rfl:b=25:=gO;rw[show((25:Nat):Int)=25 from rfl,agD,show((106:Nat):Int)=106 from rfl]at *
  have⟨n1,n2⟩:=Ep a m 25 (Q6 _);have⟨r1,r2⟩:=TA a;have⟨U,X⟩:=ajk a m;have k:=Zs (oH a=(nF a 25*2+nE a)*32) (rfl);have ac:=alz;have L1:=Zd<|xq d d (nF a 25) 1 gO wr (dA i.1) i.1 (by rw[show(2:Int)^1=2 from rfl];omega) (by rw[show(2:Int)^1=2 from rfl];omega);rw[show(2:Int)^1=2 from rfl,show((1:Nat):Int)=1 from rfl]at L1;generalize nF a 25=u at *
  generalize nE a=T at *
  go_wp2_with fail;refine L1.mono ?_;rintro e w3 ⟨rfl,M,F⟩;have o:=Zd<|i.turn F M;have am:=f.out;go_wp2_with (first|refine lA o.2.2.2.1 (by rw[f.out];exact dS) ?_);refine(PR _).mono ?_;rintro e w4 ⟨rfl,G⟩;have p:=Zd<|o.grow G;go_wp2_with fail;refine(eP T _ gO gO).mono ?_;rintro e w5 ⟨C,rfl,ag,O,H⟩;have l:=Zd<|p.grow H;have y:=Zd<|kP d d C (u*2) T w5 (dA l.1) l.1 O gO gO;go_wp2_with fail;refine y.mono ?_;rintro e w6 ⟨rfl,P,g6⟩;have M6:=Zd<|l.turn g6 P;have L5:=Zd<|xq d d (u*2+T) 5 gO w6 (dA P) P (by rw[show(2:Int)^5=32 by decide];rw[k.out]at U X;omega) (by rw[show(2:Int)^5=32 by decide];rw[k.out]at U X;omega);rw[show(2:Int)^5=32 by decide,show((5:Nat):Int)=5 from rfl,<-k.out]at L5;go_wp2_with fail;refine L5.mono ?_;rintro e t ⟨rfl,i7,g7⟩;have M7:=Zd<|M6.turn g7 i7;have ad:=Zs (oH a<256^14) (by rw[show(256:Int)^14=5192296858534827628530496329220096 by decide];exact X);have EP:=Zs (GJ a=Dl (oH a)++[qJ (Dl (oH a)) 14]) (rfl);generalize oH a=g at *
  have ah:=λa=>Kc 14 gO gO a;obtain⟨j,hZ⟩:∃j:List Int,List.replicate (14:Int).toNat 0=j:=⟨_,rfl⟩;have ZL:=Zs (j.length=14) (by rw[<-hZ];rfl);rw[hZ,show(14:Int).toNat=14 from rfl]at ah;have B8:=Zd<|ni.new t j;have M8:=Zd<|M7.grow (aj t (.cells (nR j) 5) none);have S8:=Zs (c.heap.size<=t.heap.size) (M7.2.2.2.2.1.size);go_wp2_with fail;generalize t.alloc (.cells (nR j) 5)=W8 at *
  generalize t.heap.size=g8 at *
  refine(Qo d g W8 M8.1 U ad g8 j B8 ZL).mono ?_;rintro e w9 ⟨rfl,b9,g9⟩;have Y:=Zd b9;have G9:=Zd<|aG M8.2.2.2.2.1 g9 S8;have Z:=Zd<|yF (.slice (S g8) 14 14) (Dl g) w9 (Y.aay 14 (sU g)) (alO g) (by rw[sU];omega);rw[sU]at Z;go_wp2_with fail;refine Z.mono ?_;rintro e w ⟨rfl,rfl⟩;have OB:=Zd<|Y.own (base:=c.heap.size) 14 (sU g) S8 gO;have LN:=Zd<|sU g;generalize qJ (Dl g) 14=x at *
  generalize Dl g=L at *
  have SZ:=Zs (c.heap.size<=(w.alloc (.cells #[.int .u8 x] 5)).heap.size) (by have:=G9.size;simp;omega);go_wp2_with (at_builtin;refine sM (by rfl) _ _ rfl c.heap.size _ (.slice (S w.heap.size) 1 1) L [x] rfl rfl (OB.aC (aj _ _ none)) (agr w x) (.inr ⟨_,_,rfl⟩) (by rw[LN.out];simp) SZ ?_);intro ao ap af ae;have aa:=Zd af;have ab:=Zd<|gV (ay G9 (aj w (.cells #[.int .u8 x] 5) none)) ae (λa K=>(OB.lt a K).1);rw[<-EP.out]at aa;go_wp2_with fail;go_ret2;exact⟨_,rfl,aa,ab⟩
structure Sm (f:Nat->Prop) (w w':World):Prop where
 os:w'.os=w.os
 tape:w'.tape=w.tape
 output:w'.output=w.output
 size:w.heap.size<=w'.heap.size
 block:∀k,k<w.heap.size->¬f k->w'.heap[k]?=w.heap[k]?
def Sm.of {f:Nat->Prop}(b:w.grownBy w' z)(d:∀a,z=some a->a<w.heap.size->f a):Sm f w w':=
 ⟨b.os,b.tape,b.output,b.size,λa c e=>b.block a c (λb=>e (d a b.symm c))⟩
def Sm.then {d:Nat->Prop}(b:Sm Z w w')(c:Sm d w' u)(f:∀a,a<w.heap.size->d a->Z a):Sm Z w u:=
 ⟨c.os.trans b.os,c.tape.trans b.tape,c.output.trans b.output,YM b.size c.size,λa d e=>by
  rw[c.block a (WK d b.size) (λc=>e (f a d c)),b.block a d e]⟩
def Sm.none (a:w.grownBy w' none)(c:Sm Z w' u)(e:∀b,Z b->w.heap.size<=b):w.grownBy u none:=
 ⟨c.os.trans a.os,c.tape.trans a.tape,c.output.trans a.output,YM a.size c.size,λb d _=>by
  rw[c.block b (WK d a.size) (λc=>by have:=e b c;omega),a.block b d (by simp)]⟩
def yT (c d e b:Nat)(a:W):Prop:=a.heap[c]?=some (.cells #[I (b:Int)] 3 (0,0))/\a.cell? (A d 0)=some (.pointer (S e))
def yT.c1 (a:yT n b k j w):w.cell? (A n 0)=some (I (j:Int)):=by rw[aI a.1];rfl
def ai2:(3:TypeId)≠113/\(3:TypeId)≠160:=by decide
def AU (c:w.cell? (A n b)=some x):n<w.heap.size:=by
 rcases WZ n w.heap.size with a|a
 .exact a
 simp[World.cell?,Array.getElem?_eq_none a]at c
def aal (c:w.cell? (A n b)=some x)(d:w.grownBy w' z)(e:z≠some n):w'.cell? (A n b)=some x:=by have f:=AU c;have a:=d.block n f (λa=>e a.symm);simp only[World.cell?]at c ⊢;rw[a];exact c
def yT.aC (a:yT n b k j w)(c:w.grownBy w' none):yT n b k j w':=⟨by rw[c.block n (aO a.1) (by simp)];exact a.1,aU c a.2⟩
def yT.aH {c:Nat}(a:yT n b k j w)(d:w.grownBy w' (some c))(e:n≠c)(f:b≠c):yT n b k j w':=
 ⟨by rw[d.block n (aO a.1) (by simpa using e)];exact a.1,aal a.2 d (λa=>f (by cases a;rfl))⟩
def anj:5192296858534827628530496329220096<P 8:=by decide +kernel
def Io (k L c l d:Nat)(f:Int)(g:W)(hn:k<=L)(hL:L<=112)(J:yT c l d L g)(K:kD g d f)(h0:0<=f)(h1:f<2^L)(ad:k<=6)(ac:c≠d/\l≠d/\l≠c):Calls prog 85 #[I (k:Int),.pointer (some ⟨c,0,none⟩),.pointer (some ⟨l,0,none⟩)] g λb s=>b=.returned (I (f / 2^(L-k)))/\yT c l d (L-k) s/\kD s d (f % 2^(L-k))/\Sm (λe=>e=c\/e=d) g s:=by
 have w:=J.1;obtain⟨t1,t2⟩:=ai2;obtain⟨a,hZ⟩:∃a:Nat,L-k=a:=⟨_,rfl⟩;have fz:g.frozen? ⟨c,0,none⟩=false:=bA w 0;rw[hZ];have ag:a<=112:=gO;have F:=J.c1;have u:=J.2;have gs:=aD g ⟨c,0,none⟩ (I (a:Int));have j:=Zd<|Cx K gs w t1 t2;have t:=Zs (yT c l d a (g.setCell ⟨c,0,none⟩ (I (a:Int)))) (⟨by rw[heap_setCell w];rfl,aal u gs (λb=>ac.2.2 (by cases b;rfl))⟩);have T1:=Zs (Sm (λe=>e=c\/e=d) g (g.setCell ⟨c,0,none⟩ (I (a:Int)))) (Sm.of gs (λe b _=>by cases b;exact .inl rfl));have Y:=Zd ac;have SZ:=Zs ((g.setCell ⟨c,0,none⟩ (I (a:Int))).heap.size=g.heap.size) (by simp);have aa:=Zs (d<g.heap.size/\c<g.heap.size/\l<g.heap.size) (⟨lS K,aO w,AU u⟩);have HX:=Zd K;have z:=jP a;have Y0:0<=f / 2^a:=F7 h0 (VR z);have EM:=Zs (f-f / 2^a*2^a=f % 2^a) (by have:=Int.mul_ediv_add_emod f (2^a);rw[V7]at this;omega);have YZ:0<=f / 2^a*2^a/\f / 2^a*2^a<=f:=⟨ZA Y0 (VR z),Int.ediv_mul_le f (Int.ne_of_gt z)⟩;have af:f / 2^a<64:=by
  refine Int.ediv_lt_of_lt_mul z ?_;have b:(2:Int)^L=2^a*2^k:=by rw[<-Int.pow_add,show a+k=L by omega]
  have e2:(2:Int)^k<=64:=by
   have:(2:Nat)^k<=2^6:=WM gO ad;have e1:((2^k:Nat):Int)=(2:Int)^k:=by simp
   omega
  have i:=Int.mul_le_mul_of_nonneg_left e2 (VR z);rw[V7 64];omega
 have X8:f<P 8:=by
  have i:(2:Nat)^L<=2^112:=WM gO hL;have e1:((2^L:Nat):Int)=(2:Int)^L:=by simp
  have e2:((2^112:Nat):Int)=5192296858534827628530496329220096:=by decide
  have:=anj;omega
 have iL:(L:Int)-(k:Int)=(a:Int):=gO;have ah:(L:Int)<=112:=gO;clear K u gs w t1 t2 h1 J;obtain⟨z1,z2⟩:=YZ;go_enter func85,ntmps85;go_upto_region 2 with fail;generalize g.setCell ⟨c,0,none⟩ (I (a:Int))=q at *
 clear F fz;have F:=t.c1;have u:=t.2;have cu:IntKind.u64.wrap (a:Int)=a:=by rw[IntKind.wrap_u64];omega
 have p:=Zd<|dW q;have r:=Zd<|aj q iW none;rw[show iW=.cells #[.bool false,N] 113 from rfl]at p r;have RS:=Zd<|Uh q.heap.size d f a gO (q.alloc (.cells #[.bool false,N] 113)) p (bP j r);have U:=Zd<|aU r F;have X:=Zd<|aU r u;have d1:=U.out;have d2:=X.out;go_wp2_with fail;refine RS.mono ?_;rintro b i ⟨rfl,R,G⟩;have S1:=SZ.out;have ae:=aa.out;have C:=Zd<|yT.aH (t.aC r) G gO gO;have j:=Zd<|dR (bP j r) G p gO;have O:=Zd<|T1.then (Sm.of (f:=λe=>e=c\/e=d) (aG r G (Q6 _)) (λe b _=>by cases b)) (λk _ b=>b);have o:=Zs (d<i.heap.size/\q.heap.size<i.heap.size/\c<i.heap.size/\l<i.heap.size) (⟨lS j,lS R,AU C.c1,AU C.2⟩);have NY:=Zs (q.heap.size≠d/\q.heap.size≠c/\q.heap.size≠l) gO;have m:=Zd R;have M:=Zs (g.heap.size<=i.heap.size) (by have:=O.size;exact this);clear RS R G p r U X d1 d2 F u t T1 ae S1 SZ aa;generalize q.heap.size=E at *
 generalize hY:f / 2^a=D at *
 have HY:=Zd hY;clear hY;have EX:=Zs (f-D*2^a=f % 2^a) (EM);go_upto_region 3 with fail;have t:=Zd<|C.aC (bB (aM i none));have j:=Zd<|bP j (bB (aM i none));have m:=Zd<|bP m (bB (aM i none));have B:=Zd<|O.then (Sm.of (f:=λe=>e=c\/e=d) (bB (aM i none)) (λe b _=>by cases b)) (λk _ b=>b);have o:=Zs (d<i.drew.heap.size/\E<i.drew.heap.size/\c<i.drew.heap.size/\l<i.drew.heap.size) (o);have M:=Zs (g.heap.size<=i.drew.heap.size) (M);clear C O;refine wp_region_held_drew (S:=yT c l d a) (by kernel_rfl) t λg=>?_;generalize i.drew=n at *
 refine aV (hy:=by intro s v;have cc:=v.2;go_simp;(try with_reducible rfl)) (v:=.pointer (some ⟨d,0,none⟩)) 0 g ?_;refine aV (hy:=by intro s v;have cc:=v.2;go_simp;(try with_reducible rfl)) (v:=.pointer (some ⟨d,0,none⟩)) 1 g ?_;refine aV 3 g ?_;refine aV (hy:=by intro s v;have cc:=v.c1;go_simp;(try with_reducible rfl)) (v:=I (a:Int)) 4 g ?_;refine aV (hy:=by intro s v;go_simp;(first|done|(rw[IntKind.wrap_u64];omega)|rfl)) (v:=.int .u64 (a:Int)) 5 g ?_;refine eU 2 λq i=>?_;(try simp only[sZ]);go_simp;have y:=aj n (.cells #[.bool false,N] 113) none;go_wp2_with fail;refine i.out _ _ (yT.aC g y) λg=>?_;clear i;have p:=Zs (Struct (n.alloc (.cells #[.bool false,N] 113)) n.heap.size) (dW n);have j:=Zd<|bP j y;have m:=Zd<|bP m y;have B:=Zd<|B.then (Sm.of y (λe b _=>by cases b)) (λk _ b=>b);have o:=Zs (d<n.heap.size/\E<n.heap.size/\c<n.heap.size/\l<n.heap.size) (o);clear y;generalize n.alloc (.cells #[.bool false,N] 113)=we at *
 generalize n.heap.size=Q at *
 (try simp only[sZ]);refine eU 6 λq i=>?_;(try simp only[sZ]);go_simp;refine(xq Q E D a gO we p m gO gO).mono ?_;rintro b w6 ⟨rfl,i6,x⟩;have T6:=Zd<|B.then (Sm.of (f:=λe=>e=Q) x (λe b _=>by cases b;rfl)) (λk l b=>absurd b (by have:=M.out;have:=o.out;omega));have j:=Zd<|dR j.out x p.out (by have:=o.out;omega);have m:=Zd<|dR m.out x p.out (by have:=o.out;omega);have V6:=Zd<|yT.aH g x (by have:=o.out;omega) (by have:=o.out;omega);have Z:=Zd i6;clear x i6 B p;go_wp2_with fail;refine i.out _ _ V6 λg=>?_;clear i;(try simp only[sZ]);refine eU 7 λq i=>?_;(try simp only[sZ]);go_simp;refine(Ch d d Q f (D*2^a) w6 (dA j) j Z gO gO).mono ?_;rintro b w7 ⟨rfl,T,H⟩;have T7:=Zd<|T6.then (Sm.of (f:=λe=>e=c\/e=d) H (λe b _=>by cases b;exact .inr rfl)) (λk _ b=>b);have m:=Zd<|dR m H (dA j) NY.1;have ab:=Zd<|yT.aH g H (by have:=Y.out;omega) (by have:=Y.out;omega);rw[EX.out]at T;have I7:=Zd T;clear H T T6 j Z;go_wp2_with fail;refine i.out _ _ ab λg=>?_;clear i;(try simp only[sZ]);refine jX ?_;have e:=Zd<|oC E D w7 m gO gO;go_wp2_with fail;refine e.mono ?_;rintro b w8 ⟨rfl,rfl⟩;clear e;go_wp2_with fail;go_ret;exact⟨by rw[HY.out];rfl,ab,I7,T7⟩
def WdS (c:W)(b:V)(a:L)(d:Int):Prop:=Sl c b a/\WF a/\Top a/\val a=d/\a.length<=4
def VG (g:Nat)(Y:V)(b:L)(e:W)(D:Struct e g)(hv:jI e Y b)(z:yP b)(B:b.length=14):Calls prog 84 #[.pointer (some ⟨g,0,none⟩),Y] e (gH e g (xB b 14)):=by
 obtain⟨ad,ae,rfl,hc,M⟩:=hv;obtain⟨ab,rfl,U⟩:=M gO;have u:=Zd U;have HZ:=Zd D;have t:=Zd z;have w:=Zd<|agG b z;have s:=Zd (λj d f (r:e.grownBy f none) (q:WdS f j d (xB b 14))=>(show Calls prog 96 #[.pointer (some ⟨g,0,none⟩),.bool false,j] f (λc Z=>c=.returned (.pointer (some ⟨g,0,none⟩))/\gH e g (xB b 14) c Z)from by
  refine(ku g false j d f (bQ D r (by simp)) q.1 q.2.1 q.2.2.1 (by have:=q.2.2.2.2;omega)).mono ?_;intro c Z C;exact⟨C.1,mW C r (by simp[q.2.2.2.1])⟩))
 have x:=Zs (∀a,xB b (a+1)=xB b a*256+aB b a) (λa=>rfl);rw[B]at hc ⊢;have HL:=Zd B;clear M U D z B;generalize gH e g (xB b 14)=aa at *
 go_enter func84,ntmps84;go_wp2_with fail;go_loopw [5,6] (λi g wr=>∃(a:Nat) (n:L),g=I a/\a<=14/\Hid (WdS wr i n (xB b a))/\Hid (e.grownBy wr none)) (λ_ g _=>14-(intOf g).toNat)
 case atStart=>exact⟨0,[],rfl,QN _,⟨sI _,vM,rA,rfl,by simp⟩,aM _ _⟩
 case round=>
  obtain⟨a,n,rfl,C,i,R⟩:=hrel;by_cases ac:a<14
  .have cz:=u a (by rw[HL.out];omega);have⟨z0,z1⟩:=t a;have i1:(a:Int)<14:=gO;have⟨y0,y1⟩:=w (a+1);have F:=x a;have H:=Zd (λj d f (a1:Sl f j d) (J:WF d) (K:Top d) (a4:val d=val n*2^8*P 0+aB b a)=>(show WdS f j d (xB b (a+1))from by
    have c:val d=xB b (a+1):=by rw[a4,F,i.out.2.2.2.1,show(2:Int)^8=256 by decide,yZ,Int.mul_one]
    refine⟨a1,J,K,c,Ey d J K 4 ?_⟩;rw[c];have:=Sk (a+1) 14 gO;have:(256:Int)^14<P 4:=by decide
    omega))
   have v:=Zd λd (r:wr.grownBy d none)=>Xj u5 n 0 8 d (jQ i.1 r) i.2.1 (by have:=i.2.2.2.2;omega) gO gO;rw[show((32:Int)*((0:Nat):Int)+((8:Nat):Int))=8 from rfl]at v;have L4:n.length<=4:=i.2.2.2.2;clear w x s u t i F y0 y1;generalize aB b a=E at *
   go_upto_region 5 with fail;refine wp_region_held_drew (S:=dB e) (by kernel_rfl) (aX R (bB (aM _ none))) λb=>?_;have G:=Zd<|v wr.drew (bB (aM _ none));clear v;refine aV 0 b ?_;refine aV 2 b ?_;refine aV 3 b ?_;refine aV 4 b ?_;refine aV (hy:=by intro f T;have cc:=aU T cz;go_simp;(try with_reducible rfl)) (v:=.int .u8 E) 5 b ?_;refine aV (hy:=by intro f T;go_simp;(first|done|(rw[IntKind.wrap_u64];omega)|rfl)) (v:=.int .u64 E) 6 b ?_;refine eU 1 λf e=>?_;(try simp only[sZ]);go_simp;refine(G).mono ?_;rintro c w1 ⟨v1,l1,rfl,j,k,o,l,m,O⟩;have G1:=Zd O;have d:=Zd<|And.intro j (And.intro k (And.intro l m));clear O j k o l m G;go_wp2_with fail;refine e.out _ _ (aX b G1) λb=>?_;clear e;(try simp only[sZ]);refine eU 7 λf e=>?_;(try simp only[sZ]);go_simp;refine(wW E _ z0 gO).mono ?_;rintro c w7 ⟨v7,l7,rfl,j,k,o,l,m,y⟩;have G7:=Zd y;have p:=Zd<|And.intro j (And.intro k (And.intro l m));have d:=Zd<|And.intro (jQ d.1 y) d.2;clear y j k o l m;go_wp2_with fail;refine e.out _ _ (aX b G7) λb=>?_;clear e;(try simp only[sZ]);refine eU 8 λf e=>?_;(try simp only[sZ]);go_simp;refine(KU v1 v7 l1 l7 _ d.1 p.1 d.2.1 p.2.1 (by have:=d.2.2.2;omega) (by have:=p.2.2.2;omega)).mono ?_;rintro c w8 ⟨v8,X,rfl,j,k,o,l,m,Q⟩;have G8:=Zd Q;have S8:=Zd<|H v8 X w8 j k o (by rw[l,d.out.2.2.1,p.out.2.2.1]);clear Q j k o l m d p H;go_wp2_with fail;refine e.out _ _ (aX b G8) λb=>?_;clear e;(try simp only[sZ]);refine aV 9 b ?_;refine jX ?_;go_wp2_with fail;go_roundw
   case rel=>exact⟨a+1,X,by go_num,gO,S8,b⟩
   case measure=>simp[intOf];omega
  obtain rfl:a=14:=gO;rw[show((14:Nat):Int)=14 from rfl]at *
  have d:=Zd<|s u5 n wr R i;clear w x s u t i;go_wp2_with fail;refine d.mono ?_;rintro c w1 ⟨rfl,k⟩;have j:=Zd k;clear k d;go_wp2_with fail
  first|exact j|(go_ret;exact j)
def Sn {c:Addr}(e:jI w (.slice (some c) n b) l)(a:Nat)(i:a<=l.length):jI w (.slice (some c) a b) (l.take a):=by
 have⟨g,h,f⟩:=wO e;have d:(l.take a).length=a:=by simp;omega
 refine⟨some c,b,by rw[d],by rw[d];omega,λ_=>⟨c,rfl,λc a=>?_⟩⟩;rw[d]at a;rw[f c gO];simp[aB,List.getD,KC,a]
def Nn (c:yP l)(b:Nat):yP (l.take b):=λa=>by
 by_cases d:a<b
 .have:aB (l.take b) a=aB l a:=by simp[aB,List.getD,KC,d]
  rw[this];exact c a
 rw[dI _ a (by simp;omega)];omega
def Sq (b:L)(c a:Nat)(d:a<c):aB (b.take c) a=aB b a:=by simp[aB,List.getD,KC,d]
def aam (a:L):qJ (a.take 14) 14=qJ a 14:=by unfold qJ;rw[oI (a.take 14) a 14 (λc b=>Sq a 14 c b)]
def ak_ (a:L):xB (a.take 14) 14=xB a 14:=WU (a.take 14) a 14 (λc b=>Sq a 14 c b)
def fO.trn (c:fO n w x l)(k:Sm Z w w')(i:∀a,x.ownBlock=some a->¬Z a):fO n w' x l:=by
 refine⟨c.1,?_⟩;rcases c.2 with j|⟨a,e,f,b,g,d,h⟩
 .exact .inl j
 refine .inr ⟨a,e,f,b,g,?_,h⟩;rw[k.block a (aO d) (i a (by rw[b];rfl))];exact d
def bY.trn (a:bY w n T l)(c:Sm Z w w')(b:¬Z n):bY w' n T l:=(c.block n (aO a) b).trans a
def amM (f:W)(c b d a e:Nat):Prop:=f.heap.size<c/\c<b/\b<d/\d<a/\a<e
def Z9 (b:W)(d h j i g c:Nat)(f:List Int)(e:Int)(L:Nat)(l:V)(k:List Int)(a:W):Prop:=
 yT g h d L a/\kD a d (e % 2^L)/\fO b.heap.size a (.slice (S j) 25 i) Nz/\fO c a l k/\bY a b.heap.size 79 f/\b.grownBy a none/\c<=a.heap.size
def Z9.took {c f:Nat}{L:Nat}(m:Z9 w n b k j c f l i L x p w')(q:amM w n b k c f)(a:Nat)(v:a<=L)(e:W)
 (o:yT c b n (L-a) e) (g:kD e n (i % 2^L % 2^(L-a))) (d:Sm (λh=>h=c\/h=n) w' e):Z9 w n b k j c f l i (L-a) x p e:=by
 have⟨E,F,r,h,s,t,u⟩:=m;have⟨y,z,B,C,D⟩:=q;refine⟨o,?_,r.trn d (λe c=>by simp[Value.ownBlock]at c;omega),h.trn d (λe c=>by have:=(h.lt e c).1;omega),s.trn d gO,Sm.none t d (λc c=>gO),YM u d.size⟩;rw[Int.emod_emod_of_dvd i (show(2:Int)^(L-a) ∣ 2^L from⟨2^a,by rw[<-Int.pow_add,show L-a+a=L by omega]⟩)]at g;exact g
def Z9.grow {d c:Nat}{L:Nat}(e:Z9 w n b k j d c l i L x p w')(a:w'.grownBy u none):Z9 w n b k j d c l i L x p u:=by have⟨f,g,h,m,o,q,r⟩:=e;exact⟨f.aC a,bP g a,h.aC a,m.aC a,o.aC a,ay q a,YM r a.size⟩
def Z9.app {f c:Nat}{L:Nat}(C:Z9 w n b k j f c l i L x p w')(E:amM w n b k f c)(a:w'.grownBy u x.ownBlock)(m:fO c u v' r):Z9 w n b k j f c l i L v' r u:=by
 have⟨o,q,s,t,v,y,z⟩:=C;have⟨K,M,O,P,Q⟩:=E;rcases e:x.ownBlock with _|h
 .rw[e]at a;exact⟨o.aC a,bP q a,s.aC a,m,v.aC a,ay y a,YM z a.size⟩
 rw[e]at a;have J:=(t.lt h e).1;have g:∃d,w'.heap[h]?=some (.cells d 3 (0,0)):=by
  rcases t.2 with⟨F,_⟩|⟨H,G,d,B,_,D,_⟩
  .rw[F]at e;cases e
  rw[B]at e;simp[Value.ownBlock]at e;subst e;exact⟨d,D⟩
 have⟨d,g⟩:=g;exact⟨o.aH a gO gO,Cx q a g ai2.1 ai2.2,s.Ka a gO,m,v.aH a gO,aG y a gO,YM z a.size⟩
def ala (c b a:Int)(hp:0<b)(e:0<a):c % (b*a) / b=c / b % a:=by
 have h:=Int.mul_ediv_add_emod c (b*a);have i:=FT c (Int.ne_of_gt (Int.mul_pos hp e));have j:=H7 c (Int.mul_pos hp e);generalize c % (b*a)=f at *
 generalize c / (b*a)=d at *
 subst h;have g:b*a*d+f=f+(a*d)*b:=by rw[V7 (a*d),<-FP];omega
 rw[g,Int.add_mul_ediv_right _ _ (Int.ne_of_gt hp),V7 a d,Int.add_mul_emod_self_right,Int.emod_eq_of_lt (F7 i (VR hp)) (Int.ediv_lt_of_lt_mul hp (by rw[V7];exact j))]
def ai3 (b:Int)(a:Nat)(c:a<25):b % 2^(112-sW a) / 2^(112-sW a-lX a)=fI b a:=by have d:=Kt (a+1) gO;have e:sW (a+1)=sW a+lX a:=rfl;unfold fI;rw[show 112-sW a-lX a=112-sW (a+1) by omega,agK a c];exact ala b _ _ (jP _) (jP _)
def UnN (b:W)(f h g c:Nat)(e d:L)(i:L)(a:W):Prop:=bY a f 79 i/\fO c a (.slice (S h) 25 g) d/\bY a b.heap.size 79 e/\b.grownBy a none
def UnN.turn {d:L}(c:UnN w n b k j l p r w')(a:w'.grownBy u (some n))(e:bY u n 79 d)(f:b≠n)(g:w.heap.size<n):UnN w n b k j l p d u:=
 ⟨e,c.2.1.Ka a f,c.2.2.1.aH a gO,aG c.2.2.2 a gO⟩
def UnN.grow (c:UnN w n b k j l p r w')(a:w'.grownBy u none):UnN w n b k j l p r u:=⟨c.1.aC a,c.2.1.aC a,c.2.2.1.aC a,ay c.2.2.2 a⟩
def Np (c:L)(d:Nat)(b:L):Prop:=b.length=25/\∀a,a<d->aB b a=aB c a
def af0 (a:Np l 25 p)(e:l.length=25):p=l:=by have c:=dL (p:=aB l) a.1 (λb d=>a.2 b d);have d:=dL (p:=aB l) e (λb _=>rfl);rw[c,<-d]
def Nq {M:L}(b:Np l n p)(a:n+8<=25)(d:M.length=8)(f:∀a,a<8->aB M a=aB l (n+a)):Np l (n+8) (uL p n M):=by
 have e:n+M.length<=p.length:=by rw[d,b.1];omega
 refine⟨by rw[Yr _ _ _ e,b.1],λa g=>?_⟩;rw[Yt _ _ _ e,d];by_cases c:a<n
 .rw[Q9 c];exact b.2 a c
 rw[X9 c,Q9 g,f (a-n) gO,show n+(a-n)=a by omega]
def aan (a b:L)(c:b.length=25):Np a 1 (b.set 0 (aB a 0)):=by refine⟨by rw[XB];exact c,λa b=>?_⟩;obtain rfl:a=0:=gO;rw[Dn _ _ _ gO,Q9 rfl]
def Nr (g:V)(a:L)(b:W)(o:jI b g a)(m:a.length≠15)(t:a.length<=1000000000000000000):Calls prog 33 #[g] b (AZ b a):=by
 obtain⟨q,r,rfl,s,_⟩:=o;have v:=fT Un;have u:((a.length:Int)==15)=false:=beq_eq_false_iff_ne.2 gO;have f:=Ku a m;have c:=dG b 79 25 (au 25) (ak 25);have i:=Zd c.1;have j:=Zd c.2.1;have l:=Zd c.2.2;have k:=Zs (∀c,b.grownBy c none->AZ b a (.returned (.tuple #[.agg (aF (au 25)),I 1])) c) (λc c=>⟨by rw[f,vD a (by rw[f];omega)],c⟩);have e:=Zd<|ak 25;generalize AZ b a=p at *
 generalize au 25=d at *
 go_enter func33,ntmps33;go_wp2_with (first|refine sA d i rfl (by rw[e.out];exact dS) ?_);have n:=kU j (by rw[e.out];exact dS);refine QB (v:=.tuple #[.agg (aF d),I 1]) ?_ rfl (k _ l);simp[results,results33,asAddr,Act.put,n]
def Qq (B:V)(a:L)(b:W)(P:jI b B a)(o:yP a)(q:a.length=15)(z:qJ a 14≠aB a 14):Calls prog 33 #[B] b (AZ b a):=by
 obtain⟨T,e,rfl,y,x⟩:=P;obtain⟨d,rfl,p⟩:=x gO;have Y:=fT Un;have t:=Zd λc (f:b.grownBy c none)=>(show jI c (.slice (some d) 14 e) (a.take 14)from Sn (n:=a.length) ⟨some d,e,rfl,y,λ_=>⟨d,rfl,λi g=>aU f (p i g)⟩⟩ 14 gO);have i:=Zd λc (f:b.grownBy c none)=>yF (.slice (some d) 14 e) (a.take 14) c (t c f) (Nn o 14) (by simp;omega);rw[show(a.take 14).length=14 by simp;omega,aam]at i;have K:=p 14 gO;obtain⟨y1,y2⟩:=o 14;rw[q]at y ⊢;have m:=TI a q z;have u:=dG b 79 25 (au 25) (ak 25);have r:=Zd u.1;have E:=Zs (∀c,b.grownBy c none->AZ b a (.returned (.tuple #[.agg (aF (au 25)),I 5])) c) (λc f=>⟨by rw[m,vD a (by rw[m];omega)],f⟩);have w:=Zd<|ak 25;have g:=Zd<|aj b (.cells (aF (au 25)) 79) none;have v:=Zd λc (D:bY c b.heap.size 79 (au 25))=>bF (rs':=au 25) D rfl;have Q:(qJ a 14==aB a 14)=false:=beq_eq_false_iff_ne.2 z;clear u m q x p t o;generalize AZ b a=R at *
 generalize au 25=l at *
 generalize qJ a 14=aa at *
 generalize aB a 14=C at *
 go_enter func33,ntmps33;go_upto_region 3 with fail;generalize b.alloc (.cells (aF l) 79)=k at *
 refine wp_region_held_drew (S:=dB b) (by kernel_rfl) (aX g (bB (aM _ none))) λa=>?_;refine aV 0 a ?_;refine aV (hy:=by intro c n;have M:(14:Int)<=(e:Int):=gO;go_simp;(try(first|done|(rw[Q9 M])|rfl))) (v:=.slice (some d) 14 e) 1 a ?_;refine aV 3 a ?_;refine aV 4 a ?_;refine aV (hy:=by intro c n;have U:c.cell? { block:=d.block,off:=d.off+14 }=some (.int .u8 C):=aU n K;go_simp;(try with_reducible rfl)) (v:=.int .u8 C) 5 a ?_;refine eU 2 λb b=>?_;(try simp only[sZ]);go_simp;refine(i _ (aX g (bB (aM _ none)))).mono ?_;rintro X Z ⟨rfl,rfl⟩;go_wp2_with fail;refine b.out _ _ a λa=>?_;clear b;(try simp only[sZ]);refine aV (hy:=by intro c n;go_simp;(first|done|rfl|simp[Q])) (v:=.bool true) 6 a ?_;refine jX ?_;have s:=Zd<|r.aC (bB (aM k none));have F:=Zd<|ay g (bB (aM k none));clear r g i;generalize k.drew=J at *
 have j:=v J s;have G:=Zd j.1;have H:=Zd<|aG F j.2 (Q6 _);clear j v;go_wp2_with (first|refine sA l s rfl (by rw[w.out];exact dS) ?_);have O:=kU G (by rw[w.out];exact dS);refine QB (v:=.tuple #[.agg (aF l),I 5]) ?_ rfl (E _ H);simp[results,results33,asAddr,Act.put,O]
end Go.Proofs.YtmpfdogdinhhcaaGreatDoor
