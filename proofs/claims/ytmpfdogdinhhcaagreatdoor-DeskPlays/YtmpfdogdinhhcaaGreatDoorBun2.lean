import Derived.Test.YtmpfdogdinhhcaaGreatDoorBun1
import Derived.Deep.QuietTactic
import Derived.BigQuiet
import Derived.Deep.RegionHeld3
import Derived.Laws.StructEq
import Derived.Laws.BytesArg
import Derived.ProofKit
import Derived.OpenShut
import Derived.SizedLaws
import Derived.Carry
namespace Go.Proofs.YtmpfdogdinhhcaaGreatDoor
open Go.ChangeShapes Go.WideShapes Go.ChangeAt Go.RowKit
open Go.RowKit
open Tryz
set_option linter.unusedSimpArgs false
set_option linter.unusedVariables false
set_option maxHeartbeats 4000000
set_option maxRecDepth 100000
set_option linter.defProp false
variable {w w' u:World}{n b k j:Nat}{l p r:List Int}{x v':Value}{T:TypeId}{s:Bool}{y:List Value}{z:Option Nat}{i:Int}{Q:Exit→Act→World→Prop}{a:Act}{o:Oper}{Z:Nat→Prop}{f:Nat→Int}
def gI (a b:Int):Int:=if a<b then -1 else if b<a then 1 else 0
def xY (c:W)(b:V)(a:Ending)(d:W):Prop:=a=.returned b/\∃a,d=c.drewN a
def wX (C D:V)(a b:L)(d:W)(v:Sl d C a)(y:Sl d D b)(s:WF a)(t:WF b)(G:Top a)(H:Top b)(la:a.length<=100)(lb:b.length<=100):Calls prog 131 #[C,D] d (xY d (I (gI (val a) (val b)))):=by
 obtain⟨J,R,rfl,o⟩:=jm v;obtain⟨K,T,rfl,p⟩:=jm y;clear v y;by_cases m:a.length=b.length
 .have E:((a.length:Int) != b.length)=false:=by simp[m]
  have l:Hid (gI (val a) (val b)=gI (dJ a a.length) (dJ b a.length)):=by unfold Hid val;rw[m]
  rw[l.out];have u:=Zd m;clear m l;have k:Hid (∀(f:Int) (g:Nat),f=gI (dJ a a.length) (dJ b a.length)->xY d (I (gI (dJ a a.length) (dJ b a.length))) (.returned (I f)) (d.drewN g)):=λf g j=>⟨by rw[j],g,rfl⟩;generalize xY d (I (gI (dJ a a.length) (dJ b a.length)))=w at *
  go_enter func131,ntmps131;go_wp2_with fail;go_loopw [5] (λf wr=>∃q g:Nat,f=I ((q:Int)-1)/\q<=a.length/\Hid (∀c,q<=c->c<a.length->aB a c=aB b c)/\wr=d.drewN g) (λf _=>(intOf f+1).toNat)
  case atStart=>exact⟨a.length,0,rfl,Q6 _,λc v l=>gO,rfl⟩
  case round=>
   obtain⟨q,g,rfl,hk,r,rfl⟩:=hrel;cases q with
   | zero=>
    have i:=Zd<|k 0 g (by unfold gI;rw[af2 a b a.length (λf e=>r.out f gO e)];simp);clear k o p;go_wp2_with fail;exact i
   | succ c=>
    obtain⟨M,rfl,U,z⟩:=o gO;obtain⟨O,rfl,X,B⟩:=p (by rw[<-u.out];omega);have P:=z c gO;have Q:=B c (by rw[<-u.out];omega);clear z B o p;have Y:(c:Int)<a.length:=gO;have Z:(c:Int)<b.length:=by rw[<-u.out];omega
    have x:(((c+1:Nat)):Int)-1=(c:Int):=gO;rw[x];clear x;by_cases j:aB a c=aB b c
    .have F:(aB a c != aB b c)=false:=by simp[j]
     have n:=Zd j;clear j k;go_wp2_with fail;go_quiet (fail);go_wp2_with fail;go_roundw
     case rel=>exact⟨c,_,rfl,gO,λf v l=>by by_cases e:f=c;exact(by rw[e];exact n);exact r f gO l,rfl⟩
     case measure=>simp[intOf]
    have F:(aB a c != aB b c)=true:=by simp[j]
    by_cases n:aB a c<aB b c
    .have e:-1=gI (dJ a a.length) (dJ b a.length):=by
      have:=V5 a b s t a.length c gO (λf v l=>r f gO l) n;unfold gI;rw[Q9 this]
     have i:=Zd λg=>k (-1) g e;clear e k j;go_wp2_with fail;go_quiet (fail);go_wp2_with fail;go_quiet (fail);go_wp2_with fail;rw[World.drewN_drewN,World.drewN_drewN];exact i _
    have e:1=gI (dJ a a.length) (dJ b a.length):=by
     have:=V5 b a t s a.length c gO (λf v l=>(r f gO l).symm) gO;unfold gI;rw[X9 gO,Q9 this]
    have i:=Zd λg=>k 1 g e;clear e k j;go_wp2_with fail;go_quiet (fail);go_wp2_with fail;go_quiet (fail);go_wp2_with fail;rw[World.drewN_drewN,World.drewN_drewN];exact i _
 have E:((a.length:Int) != b.length)=true:=by simp;omega
 by_cases n:a.length<b.length
 .have e:gI (val a) (val b)=-1:=by unfold gI;rw[Q9 (Ez a b s t H n)]
  rw[e];have c:(a.length:Int)<b.length:=gO;have i:=Zs (xY d (I (-1)) (.returned (I (-1))) d) (⟨rfl,0,rfl⟩);clear e o p m n;generalize xY d (I (-1))=w at *
  go_enter func131,ntmps131;go_wp2_with fail;exact i
 have e:gI (val a) (val b)=1:=by
  have:=Ez b a t s G gO;unfold gI;rw[X9 gO,Q9 this]
 rw[e];have c:¬(a.length:Int)<b.length:=gO;have i:=Zs (xY d (I 1) (.returned (I 1)) d) (⟨rfl,0,rfl⟩);clear e o p m n;generalize xY d (I 1)=w at *
 go_enter func131,ntmps131;go_wp2_with fail;exact i
def QS (d e:L)(f a:Nat)(c:Int)(b:L):Prop:=
 b.length=f/\WF b/\dJ b a+c*P a=dJ d a+dJ e a/\0<=c/\c<=1/\∀c,a<=c->aB b c=0
def QV (b c:L)(a:Nat):QS b c a 0 0 (List.replicate a 0):=
 ⟨by simp,wC _,by simp[dJ],gO,gO,λa _=>mQ _ _⟩
def Am (c d:L)(e a:Nat)(g b:Int)(f:L)(n:WF c)(o:WF d)(v:a<e)(j:QS c d e a g f)(m:b=g+aB c a+aB d a):QS c d e (a+1) (b / 4294967296) (f.set a (b % 4294967296)):=by
 have⟨r,k,s,t,u,l⟩:=j;have w:=n a;have x:=o a;have h:∀e,aB (f.set a (b % 4294967296)) e=if e=a then b % 4294967296 else aB f e:=λe=>mP _ _ _ _ gO;refine⟨by simp;omega,xM _ _ _ k gO gO gO,?_,gO,gO,λi j=>by rw[h,nO];exact l i gO⟩;rw[dJ,dJ,dJ,h,Q9 rfl,jT _ f a (λe e=>by rw[h,nO]),xK];have i:b=b % 4294967296+4294967296*(b / 4294967296):=(Int.emod_add_mul_ediv b 4294967296).symm;have p:b*P a=b % 4294967296*P a+b / 4294967296*(P a*4294967296):=by
  conv=>lhs;rw[i]
  rw[GL,V7 4294967296,FP,V7 4294967296]
 have q:b*P a=g*P a+aB c a*P a+aB d a*P a:=by rw[m,GL,GL]
 omega
def adt (a d:L)(c:Int)(b:L)(n:WF a)(o:WF d)(i:d.length<=a.length)(e:QS a d (a.length+1) a.length c b):WF (b.set a.length c)/\val (b.set a.length c)=val a+val d:=by have⟨j,g,h,k,l,m⟩:=e;have f:∀e,aB (b.set a.length c) e=if e=a.length then c else aB b e:=λe=>mP _ _ _ _ gO;refine⟨xM _ _ _ g gO gO gO,?_⟩;rw[<-nu (b.set a.length c) (a.length+1) (by rw[XB];omega),dJ,f,Q9 rfl,jT _ b a.length (λe a=>by rw[f,nO]),h,nu d _ i];rfl
def KU (m s:V)(a b:L)(g:W)(J:Sl g m a)(X:Sl g s b)(j:WF a)(k:WF b)(la:a.length<=40)(lb:b.length<=40):Calls prog 100 #[m,s] g (iU g (val a+val b) (max a.length b.length+1)):=by
 obtain⟨ab,ca,rfl,K⟩:=jm J;obtain⟨ac,cb,rfl,M⟩:=jm X;by_cases hl:a.length<b.length
 .have aa:(a.length:Int)<b.length:=gO;rw[Nat.max_eq_right gO];have z:=λJ=>uF ((b.length:Int)+1) gO gO J;have B:((b.length:Int)+1).toNat=b.length+1:=gO;rw[B]at z;go_enter func100,ntmps100;go_wp2_with fail;go_loopw [6,7] (λs m wr=>∃(c:Nat) (d:Int) (e:L),s=.int .u64 d/\m=I c/\c<=b.length/\Hid (QS b a (b.length+1) c d e)/\wr=g.alloc (.cells (arr e) 160)) (λ_ m _=>b.length-(intOf m).toNat)
  case atStart=>exact⟨0,0,_,rfl,rfl,QN _,QV b a _,rfl⟩
  case round=>
   obtain⟨c,d,e,rfl,rfl,hk,f,rfl⟩:=hrel;obtain⟨z0,z1⟩:0<=d/\d<=1:=⟨f.2.2.2.1,f.2.2.2.2.1⟩;have i:Hid (e.length=b.length+1):=f.1;by_cases w:c<b.length
   .obtain⟨Q,rfl,Z,v⟩:=M gO;have R:=v c w;have⟨x0,x1⟩:=k c;have t:=oz e c (by rw[i.out];omega);by_cases x:c<a.length
    .obtain⟨P,rfl,Y,u⟩:=K gO;have T:=u c x;have⟨y0,y1⟩:=j c;have l:=Zd<|Am b a (b.length+1) c d (d+aB b c+aB a c) e k j gO f rfl;go_wp2;go_roundw
     case rel=>exact⟨c+1,_,_,rfl,by go_num,gO,l,by rw[mG]⟩
     case measure=>simp[intOf];omega
    have l:=Zd<|Am b a (b.length+1) c d (d+aB b c) e k j gO f (by rw[dI a c gO];omega);go_wp2;go_roundw
    case rel=>exact⟨c+1,_,_,rfl,by go_num,gO,l,by rw[mG]⟩
    case measure=>simp[intOf];omega
   have y:c=b.length:=gO;subst y;have n:=Zd<|adt b a d e k j gO f;have t:=oz e b.length (by rw[i.out];omega);have hz:d % 4294967296=d:=gO;have C:=Zd<|vR g (e.set b.length d) (b.length+1) (by rw[XB];exact i);have o:Hid ((e.set b.length d).length=b.length+1):=by unfold Hid;rw[XB];exact i
   go_wp2_with fail;rw[mG];refine(qw _ (e.set b.length d) _ C n.1 (by rw[o.out];omega)).mono ?_;rintro U w1 ⟨q,D,rfl,E,F,G,H,p,rfl⟩;have r:=Zs (iU g (val a+val b) (b.length+1) (.returned q) _) (⟨q,D,rfl,E,F,G,H.trans (n.2.trans gO),by rw[o.out]at p;exact p,aj _ _ _⟩);generalize iU g (val a+val b) (b.length+1)=O at *
   go_wp2_with fail;exact r
 have aa:¬(a.length:Int)<b.length:=gO;rw[Nat.max_eq_left gO];have z:=λJ=>uF ((a.length:Int)+1) gO gO J;have B:((a.length:Int)+1).toNat=a.length+1:=gO;rw[B]at z;go_enter func100,ntmps100;go_wp2_with fail;go_loopw [6,7] (λs m wr=>∃(c:Nat) (d:Int) (e:L),s=.int .u64 d/\m=I c/\c<=a.length/\Hid (QS a b (a.length+1) c d e)/\wr=g.alloc (.cells (arr e) 160)) (λ_ m _=>a.length-(intOf m).toNat)
 case atStart=>exact⟨0,0,_,rfl,rfl,QN _,QV a b _,rfl⟩
 case round=>
  obtain⟨c,d,e,rfl,rfl,hk,f,rfl⟩:=hrel;obtain⟨z0,z1⟩:0<=d/\d<=1:=⟨f.2.2.2.1,f.2.2.2.2.1⟩;have i:Hid (e.length=a.length+1):=f.1;by_cases w:c<a.length
  .obtain⟨P,rfl,Y,u⟩:=K gO;have R:=u c w;have⟨x0,x1⟩:=j c;have t:=oz e c (by rw[i.out];omega);by_cases x:c<b.length
   .obtain⟨Q,rfl,Z,v⟩:=M gO;have T:=v c x;have⟨y0,y1⟩:=k c;have l:=Zd<|Am a b (a.length+1) c d (d+aB a c+aB b c) e j k gO f rfl;go_wp2;go_roundw
    case rel=>exact⟨c+1,_,_,rfl,by go_num,gO,l,by rw[mG]⟩
    case measure=>simp[intOf];omega
   have l:=Zd<|Am a b (a.length+1) c d (d+aB a c) e j k gO f (by rw[dI b c gO];omega);go_wp2;go_roundw
   case rel=>exact⟨c+1,_,_,rfl,by go_num,gO,l,by rw[mG]⟩
   case measure=>simp[intOf];omega
  have y:c=a.length:=gO;subst y;have n:=Zd<|adt a b d e j k gO f;have t:=oz e a.length (by rw[i.out];omega);have hz:d % 4294967296=d:=gO;have C:=Zd<|vR g (e.set a.length d) (a.length+1) (by rw[XB];exact i);have o:Hid ((e.set a.length d).length=a.length+1):=by unfold Hid;rw[XB];exact i
  go_wp2_with fail;rw[mG];refine(qw _ (e.set a.length d) _ C n.1 (by rw[o.out];omega)).mono ?_;rintro U w1 ⟨q,D,rfl,E,F,G,H,p,rfl⟩;have r:=Zs (iU g (val a+val b) (a.length+1) (.returned q) _) (⟨q,D,rfl,E,F,G,H.trans (n.2.trans gO),by rw[o.out]at p;exact p,aj _ _ _⟩);generalize iU g (val a+val b) (a.length+1)=O at *
  go_wp2_with fail;exact r
def TabA (d:W)(b:Nat)(e:L)(c:Nat):Prop:=∀a:Nat,a<c->d.cell? (A b a)=some (I (e.getD a 0))
def TabS (d:W)(e:Nat)(c:Addr)(a:Nat)(f:L)(b:Nat):Prop:=
 d.cell? (A e 0)=some (.slice (some c) b a)/\b<=a/\∀a:Nat,a<b->d.cell? (c.add a)=some (I (f.getD a 0))
def eY (a:TabA w n l b)(e:w.grownBy w' none):TabA w' n l b:=λd c=>aU e (a d c)
def iq {c:Addr}(a:TabS w n c k l b)(d:w.grownBy w' none):TabS w' n c k l b:=
 ⟨aU d a.1,a.2.1,λe c=>aU d (a.2.2 e c)⟩
def vS (b:W):Prop:=∀a:Nat,a<8->b.cell? (A 4 a)=some (I (wid a:Int))
def lq (b:vS w)(a:w.grownBy w' none):vS w':=λd c=>aU a (b d c)
def okW (a:Nat):okB (wid a):=Ki a
def Ud (a b c:Int)(e:b<=a)(f:a<=c)(d:W):Calls prog 214 #[I a,I b,I c] d λa b=>a=.returned (.bool true)/\b=d:=by go_enter func214,ntmps214;go_wp2;go_ret;exact⟨rfl,rfl⟩
def aa0 (a b c:Int)(e:a<b\/c<a)(d:W):Calls prog 214 #[I a,I b,I c] d λe f=>e=.returned (.bool false)/\f=d:=by
 by_cases f:b<=a
 .have g:¬a<=c:=gO;go_enter func214,ntmps214;go_wp2;go_ret;exact⟨rfl,rfl⟩
 go_enter func214,ntmps214;go_wp2;go_ret;exact⟨rfl,rfl⟩
def Ao (b:Nat)(d:b<8)(c:W):Calls prog 213 #[I b] c λa b=>a=.returned (.bool true)/\b=c:=by go_enter func213,ntmps213;go_wp2_with fail;refine(Ud _ _ _ gO gO _).mono ?_;rintro a e ⟨rfl,rfl⟩;go_wp2_with fail;go_ret;exact⟨rfl,rfl⟩
def Xk (a:Int)(d:a<0\/7<a)(c:W):Calls prog 213 #[I a] c λb a=>b=.returned (.bool false)/\a=c:=by go_enter func213,ntmps213;go_wp2_with fail;refine(aa0 _ _ _ d _).mono ?_;rintro b e ⟨rfl,rfl⟩;go_wp2_with fail;go_ret;exact⟨rfl,rfl⟩
def wY (b:Nat)(d:b<8)(c:W)(e:vS c):Calls prog 215 #[I b] c λa f=>a=.returned (I (many (wid b):Int))/\f=c:=by
 have f:=e b d;rcases Ki b with a|a|a|a<;>rw[a]at f ⊢<;>clear a
 all_goals
  go_enter func215,ntmps215;go_wp2_with fail;go_ret;exact⟨rfl,rfl⟩
def Ap (a b:Int)(e:-100000<=a)(f:a<=100000)(g:-100000<=b)(i:b<=100000)(d:W):Calls prog 216 #[I a,I b] d λc e=>c=.returned (I (far a b))/\e=d:=by
 by_cases c:a<b
 .rw[show far a b=b-a from Q9 c];go_enter func216,ntmps216;go_wp2_with fail;go_ret;exact⟨rfl,rfl⟩
 rw[show far a b=a-b from X9 c];go_enter func216,ntmps216;go_wp2_with fail;go_ret;exact⟨rfl,rfl⟩
def ajw (a:Nat):(2:Int)^(2*a)=(many a:Int)*(many a:Int):=by unfold many;rw[Nat.two_mul,Int.pow_add];simp
def Xl (a:Nat)(g:a<8)(b:Int)(j:(many (wid a):Int)<=2*b)(k:b<many (wid a))(d:W)(e:vS d):Calls prog 217 #[I a,I b] d λc f=>c=.returned (I (Pn (many (wid a)) b))/\f=d:=by
 have f:=Zd<|wY a g d e;have u:=e a g;have s:=Zd<|Kj (wid a) b (okW a) j k;have⟨y,n⟩:=tL (wid a) (okW a);have⟨w,x⟩:=qj (wid a) (okW a);have o:=aaA (many (wid a)) (2*((many (wid a):Int)-b)-1) gO gO gO gO;have m:=Zs (Pn (many (wid a)) b=31000-31000*(2*((many (wid a):Int)-b)-1)*(2*((many (wid a):Int)-b)-1) / (many (wid a)*many (wid a))) (rfl);have hp:=ajw (wid a);have t:wid a<=6:=by rcases okW a with c|c|c|c<;>omega
 clear e;generalize Pn (many (wid a)) b=p at *
 generalize l:many (wid a)=i at *
 generalize r:wid a=q at *
 clear l n;have v:¬b<(i:Int) / 2:=gO;have⟨z,B,C,D,E,F⟩:=o;go_enter func217,ntmps217;go_wp2_with fail;refine f.mono ?_;rintro c G ⟨rfl,rfl⟩;clear f;go_wp2_with fail;go_ret;exact⟨by rw[m.out];rfl,rfl⟩
def QW (a:Nat)(f:a<8)(b:Int)(o:0<=b)(j:b<many (wid a))(c:W)(d:vS c):Calls prog 217 #[I a,I b] c λe g=>e=.returned (I (lvl (wid a) b))/\g=c:=by
 by_cases i:2*b<many (wid a)
 .rw[ac9 _ _ i];have⟨s,k⟩:=tL (wid a) (okW a);have⟨q,r⟩:=qj (wid a) (okW a);have g:=Zd<|wY a f c d;have L:=Zd<|Xl a f ((many (wid a):Int)-1-b) gO gO c d;have⟨t,u⟩:=Kj (wid a) ((many (wid a):Int)-1-b) (okW a) gO gO;clear d;have p:b<(many (wid a):Int) / 2:=gO;clear k;generalize Pn (many (wid a)) ((many (wid a):Int)-1-b)=n at *
  generalize many (wid a)=m at *
  go_enter func217,ntmps217;go_wp2_with fail;refine g.mono ?_;rintro e l ⟨rfl,rfl⟩;clear g;go_wp2_with fail;refine L.mono ?_;rintro e l ⟨rfl,rfl⟩;clear L;go_wp2_with fail;go_ret;exact⟨rfl,rfl⟩
 rw[WG _ _ i];exact Xl a f b gO j c d
def aa1 (a e:Int)(d:a<0\/7<a)(c:W):Calls prog 176 #[I a,I e] c λb e=>b=.returned (.tuple #[I 0,I 4])/\e=c:=by go_enter func176,ntmps176;go_wp2_with fail;refine(Xk a d _).mono ?_;rintro b f ⟨rfl,rfl⟩;go_wp2_with fail;go_ret2;exact⟨rfl,rfl⟩
def Xm (a:Nat)(e:a<8)(d:Int)(j:d<0\/(many (wid a):Int)-1<d)(c:W)(i:vS c):Calls prog 176 #[I a,I d] c λb d=>b=.returned (.tuple #[I 0,I 2])/\d=c:=by
 have g:=Zd<|wY a e c i;have⟨l,m⟩:=qj (wid a) (okW a);generalize many (wid a)=k at *
 go_enter func176,ntmps176;go_wp2_with fail;refine(Ao a e _).mono ?_;rintro b f ⟨rfl,rfl⟩;go_wp2_with fail;refine g.mono ?_;rintro b f ⟨rfl,rfl⟩;go_wp2_with fail;refine(aa0 _ _ _ j _).mono ?_;rintro b f ⟨rfl,rfl⟩;go_wp2_with fail;go_ret2;exact⟨rfl,rfl⟩
def aeK (a:Nat)(e:a<8)(b:Int)(g:0<=b)(k:b<many (wid a))(d:W)(i:vS d):Calls prog 176 #[I a,I b] d λc f=>c=.returned (.tuple #[I (lvl (wid a) b),I 0])/\f=d:=by
 have j:=Zd<|wY a e d i;have L:=Zd<|QW a e b g k d i;have⟨n,o⟩:=qj (wid a) (okW a);generalize lvl (wid a) b=m at *
 generalize many (wid a)=l at *
 go_enter func176,ntmps176;go_wp2_with fail;refine(Ao a e _).mono ?_;rintro c f ⟨rfl,rfl⟩;go_wp2_with fail;refine j.mono ?_;rintro c f ⟨rfl,rfl⟩;go_wp2_with fail;refine(Ud _ _ _ g gO _).mono ?_;rintro c f ⟨rfl,rfl⟩;go_wp2_with fail;refine L.mono ?_;rintro c f ⟨rfl,rfl⟩;go_wp2_with fail;go_ret2;exact⟨rfl,rfl⟩
def ag5 (a e:Int)(d:a<0\/7<a)(c:W):Calls prog 175 #[I a,I e] c λb e=>b=.returned (.tuple #[I 0,I 4])/\e=c:=by go_enter func175,ntmps175;go_wp2_with fail;refine(Xk a d _).mono ?_;rintro b f ⟨rfl,rfl⟩;go_wp2_with fail;go_ret2;exact⟨rfl,rfl⟩
def aeL (b:Nat)(e:b<8)(c:Int)(f:c < -32768\/32768<c)(d:W):Calls prog 175 #[I b,I c] d λa c=>a=.returned (.tuple #[I 0,I 2])/\c=d:=by go_enter func175,ntmps175;go_wp2_with fail;refine(Ao b e _).mono ?_;rintro a g ⟨rfl,rfl⟩;go_wp2_with fail;refine(aa0 _ _ _ f _).mono ?_;rintro a g ⟨rfl,rfl⟩;go_wp2_with fail;go_ret2;exact⟨rfl,rfl⟩
def ajx (d:Nat)(q:d<8)(a:Int)(B:-32768<=a)(C:a<=32768)(k:World)(w:vS k):Calls prog 175 #[I d,I a] k λe b=>e=.returned (.tuple #[I (one (wid d) a:Int),I 0])/\b=k:=by
 have y:=Zd<|wY d q k w;have⟨O,P⟩:=qj (wid d) (okW d);have v:=Zd λ(b:Nat) (r:b<many (wid d))=>QW d q b gO gO k w;have s:=Zd λ(b:Nat) (r:b<many (wid d))=>Tn (wid d) b (okW d) gO gO;have F:=Zs (one (wid d) a=pI (wid d) a (many (wid d))) (rfl);generalize one (wid d) a=G at *
 generalize wid d=c at *
 generalize many c=l at *
 go_enter func175,ntmps175;go_wp2_with fail;refine(Ao d q _).mono ?_;rintro e g ⟨rfl,rfl⟩;go_wp2_with fail;refine(Ud _ _ _ B C _).mono ?_;rintro e g ⟨rfl,rfl⟩;go_wp2_with fail;refine y.mono ?_;rintro e g ⟨rfl,rfl⟩;go_wp2_with fail;go_loop [6,16] (λf d=>∃b:Nat,d=I b/\f=I (pI c a b:Int)/\b<=l) (λ_ d=>l-(intOf d).toNat)
 case atStart=>exact⟨0,rfl,rfl,gO⟩
 case round=>
  obtain⟨b,rfl,rfl,r⟩:=hrel;by_cases E:b=l
  .subst E;rw[<-F.out];go_wp2_with fail;go_ret2;exact⟨rfl,rfl⟩
  have x:=Tp c a b l r gO;have t:=Zd<|v b gO;have u:=Zd<|v (pI c a b) x;have⟨H,J⟩:=s b gO;have⟨K,M⟩:=s (pI c a b) x;by_cases m:gap c a b<gap c a (pI c a b)
  .have e:=Zd<|agv c a b m;have D:far (lvl c b) a<far (lvl c (pI c a b)) a:=m;generalize pI c a b=n at *
   generalize lvl c b=i at *
   generalize lvl c n=j at *
   have o:=Zd<|Ap i a gO gO gO gO g;have p:=Zd<|Ap j a gO gO gO gO g;generalize far i a=z at *
   generalize far j a=V at *
   go_wp2_with fail;refine t.mono ?_;rintro e f ⟨rfl,rfl⟩;go_wp2_with fail;refine o.mono ?_;rintro e f ⟨rfl,rfl⟩;go_wp2_with fail;refine u.mono ?_;rintro e f ⟨rfl,rfl⟩;go_wp2_with fail;refine p.mono ?_;rintro e f ⟨rfl,rfl⟩;go_wp2_with fail;go_round
   case rel=>exact⟨b+1,by go_num,by rw[e.out],gO⟩
   case measure=>simp[intOf];omega
  have e:=Zd<|ajf c a b m;have D:¬far (lvl c b) a<far (lvl c (pI c a b)) a:=m;generalize pI c a b=n at *
  generalize lvl c b=i at *
  generalize lvl c n=j at *
  have o:=Zd<|Ap i a gO gO gO gO g;have p:=Zd<|Ap j a gO gO gO gO g;generalize far i a=z at *
  generalize far j a=V at *
  go_wp2_with fail;refine t.mono ?_;rintro e f ⟨rfl,rfl⟩;go_wp2_with fail;refine o.mono ?_;rintro e f ⟨rfl,rfl⟩;go_wp2_with fail;refine u.mono ?_;rintro e f ⟨rfl,rfl⟩;go_wp2_with fail;refine p.mono ?_;rintro e f ⟨rfl,rfl⟩;go_wp2_with fail;go_round
  case rel=>exact⟨b+1,by go_num,by rw[e.out],gO⟩
  case measure=>simp[intOf];omega
def aa2 (g i:Nat)(e f:Int)(a:W)(p:kD a g e)(r:kD a i f):Calls prog 109 #[.pointer (S g),.pointer (S i)] a (xY a (I (gI (e.natAbs:Int) (f.natAbs:Int)))):=by
 have⟨j,c,q,t,w,u,v,G⟩:=p;have⟨k,d,s,x,B,y,z,J⟩:=r;have F:a.cell? (A g 1)=some j:=by rw[aI q];rfl
 have H:a.cell? (A i 1)=some k:=by rw[aI s];rfl
 have n:=Zs (∀e,Calls prog 131 #[j,k] (a.drewN e) (λl f=>l=.returned (I (gI (val c) (val d)))/\∃b,f=a.drewN b)) (λe=>(wX j k c d (a.drewN e) (jQ t (dY a e none)) (jQ x (dY a e none)) w B u y gO gO).mono λl f m=>⟨m.1,by have⟨b,o⟩:=m.2;exact⟨e+b,by rw[o,World.drewN_drewN]⟩⟩);rw[<-v,<-z];have m:=Zs (∀b,xY a (I (gI (val c) (val d))) (.returned (I (gI (val c) (val d)))) (a.drewN b)) (λb=>⟨rfl,b,rfl⟩);generalize xY a (I (gI (val c) (val d)))=C at *
 generalize gI (val c) (val d)=D at *
 go_enter func109,ntmps109;go_wp2_with fail;go_region_held3 (λf=>f.cell? (A g 1)=some j/\f.cell? (A i 1)=some k) (simp[*])
  (first|(go_at_call 131;refine(n _).mono ?_;rintro l E ⟨rfl,b,rfl⟩))
 go_wp2_with fail;exact m _
def rU (c:W)(a:Addr)(b:Nat):Prop:=TabS c 1 a b wids 8
def kC {a:Addr}(c:rU w a n)(b:w.grownBy w' none):rU w' a n:=iq c b
def qx (a:Nat)(c:a<8)(e:Addr)(f:Nat)(b:W)(i:rU b e f):Calls prog 108 #[I a] b λd e=>d=.returned (I (wid a:Int))/\e=b:=by
 have⟨k,l,d⟩:=i;have g:=d a c;rw[aje a c]at g;clear d;generalize wid a=j at *
 go_enter func108,ntmps108;go_wp2_with fail;go_ret;exact⟨rfl,rfl⟩
def Hg (a:Int)(d:a<0\/7<a)(b:W):Calls prog 108 #[I a] b λc e=>c=.returned (I 0)/\e=b:=by
 by_cases c:a<0
 .clear d;go_enter func108,ntmps108;go_wp2_with fail;go_ret;exact⟨rfl,rfl⟩
 have e:7<a:=gO;go_enter func108,ntmps108;go_wp2_with fail;go_ret;exact⟨rfl,rfl⟩
def Ob (a e:Int)(d:a<0\/7<a)(c:W):Calls prog 58 #[I a,I e] c λb e=>b=.returned (.tuple #[I 0,I 4])/\e=c:=by go_enter func58,ntmps58;go_wp2_with fail;refine(Hg a d _).mono ?_;rintro b f ⟨rfl,rfl⟩;go_wp2_with fail;go_ret2;exact⟨rfl,rfl⟩
def Aq (a:Nat):(2:Int)^a=(many a:Int):=by unfold many;simp
def Dv (a:Nat)(c:okB a):3<=a/\a<=6:=by rcases c with b|b|b|b<;>omega
def KV (a:Nat)(k:a<8)(c:Int)(m:c<0\/(many (wid a):Int)-1<c)(g:Addr)(i:Nat)(e:W)(l:rU e g i):Calls prog 58 #[I a,I c] e λb d=>b=.returned (.tuple #[I 0,I 2])/\d=e:=by
 have d:=Zd<|qx a k g i e l;have⟨o,p⟩:=Dv _ (okW a);have⟨s,t⟩:=qj (wid a) (okW a);have hp:=Aq (wid a);generalize many (wid a)=j at *
 generalize wid a=n at *
 by_cases q:c<0
 .clear m;go_enter func58,ntmps58;go_wp2_with fail;refine d.mono ?_;rintro b f ⟨rfl,rfl⟩;go_wp2_with fail;refine d.mono ?_;rintro b f ⟨rfl,rfl⟩;go_wp2_with fail;go_ret2;exact⟨rfl,rfl⟩
 have r:(j:Int)<=c:=gO;go_enter func58,ntmps58;go_wp2_with fail;refine d.mono ?_;rintro b f ⟨rfl,rfl⟩;go_wp2_with fail;refine d.mono ?_;rintro b f ⟨rfl,rfl⟩;go_wp2_with fail;go_ret2;exact⟨rfl,rfl⟩
def Hl (a:Nat)(k:a<8)(b:Int)(u:(many (wid a):Int)<=2*b)(v:b<many (wid a))(g:Addr)(i:Nat)(d:W)(j:rU d g i):Calls prog 58 #[I a,I b] d λe c=>e=.returned (.tuple #[I (Pn (many (wid a)) b),I 0])/\c=d:=by
 have f:=Zd<|qx a k g i d j;have⟨s,t⟩:=Dv _ (okW a);have⟨z,m⟩:=tL (wid a) (okW a);have⟨x,y⟩:=qj (wid a) (okW a);have n:=aaA (many (wid a)) (2*((many (wid a):Int)-b)-1) gO gO gO gO;have l:=Zs (Pn (many (wid a)) b=31000-31000*(2*((many (wid a):Int)-b)-1)*(2*((many (wid a):Int)-b)-1) / (many (wid a)*many (wid a))) (rfl);have hp:=Aq (wid a);clear j m;generalize Pn (many (wid a)) b=q at *
 generalize many (wid a)=c at *
 generalize wid a=r at *
 have⟨B,C,o,D,E,F⟩:=n;have w:(31000*(2*((c:Int)-b)-1)*(2*((c:Int)-b)-1)).tdiv ((c:Int)*c)=31000*(2*((c:Int)-b)-1)*(2*((c:Int)-b)-1) / ((c:Int)*c):=YS o;go_enter func58,ntmps58;go_wp2_with fail;refine f.mono ?_;rintro e p ⟨rfl,rfl⟩;go_wp2_with fail;refine f.mono ?_;rintro e p ⟨rfl,rfl⟩;go_wp2_with fail;go_ret2;exact⟨by rw[l.out];rfl,rfl⟩
def Dw (a:Nat)(i:a<8)(b:Int)(t:0<=b)(m:b<many (wid a))(d:Addr)(e:Nat)(c:W)(g:rU c d e):Calls prog 58 #[I a,I b] c λf j=>f=.returned (.tuple #[I (lvl (wid a) b),I 0])/\j=c:=by
 by_cases k:2*b<many (wid a)
 .rw[ac9 _ _ k];have⟨w,n⟩:=tL (wid a) (okW a);have⟨u,v⟩:=qj (wid a) (okW a);have⟨r,s⟩:=Dv _ (okW a);have j:=Zd<|qx a i d e c g;have L:=Zd<|Hl a i ((many (wid a):Int)-1-b) gO gO d e c g;have⟨x,y⟩:=Kj (wid a) ((many (wid a):Int)-1-b) (okW a) gO gO;have hp:=Aq (wid a);clear g n;generalize Pn (many (wid a)) ((many (wid a):Int)-1-b)=p at *
  generalize many (wid a)=o at *
  generalize wid a=q at *
  go_enter func58,ntmps58;go_wp2_with fail;refine j.mono ?_;rintro f l ⟨rfl,rfl⟩;go_wp2_with fail;refine j.mono ?_;rintro f l ⟨rfl,rfl⟩;go_wp2_with fail;refine L.mono ?_;rintro f l ⟨rfl,rfl⟩;clear L;go_wp2_with fail;go_ret2;exact⟨rfl,rfl⟩
 rw[WG _ _ k];exact Hl a i b gO m d e c g
def Xn (a e:Int)(d:a<0\/7<a)(c:W):Calls prog 57 #[I a,I e] c λb e=>b=.returned (.tuple #[I 0,I 4])/\e=c:=by go_enter func57,ntmps57;go_wp2_with fail;refine(Hg a d _).mono ?_;rintro b f ⟨rfl,rfl⟩;go_wp2_with fail;go_ret2;exact⟨rfl,rfl⟩
def Ue (a:Nat)(i:a<8)(b:Int)(k:b < -32768\/32768<b)(f:Addr)(g:Nat)(c:W)(j:rU c f g):Calls prog 57 #[I a,I b] c λd e=>d=.returned (.tuple #[I 0,I 2])/\e=c:=by
 have e:=Zd<|qx a i f g c j;have⟨n,o⟩:=Dv _ (okW a);generalize wid a=m at *
 by_cases p:b < -32768
 .clear k;go_enter func57,ntmps57;go_wp2_with fail;refine e.mono ?_;rintro d l ⟨rfl,rfl⟩;go_wp2_with fail;go_ret2;exact⟨rfl,rfl⟩
 have q:32768<b:=gO;go_enter func57,ntmps57;go_wp2_with fail;refine e.mono ?_;rintro d l ⟨rfl,rfl⟩;go_wp2_with fail;go_ret2;exact⟨rfl,rfl⟩
def ajy (b c a:Int):(gI ((b-a).natAbs:Int) ((c-a).natAbs:Int)<0)↔far b a<far c a:=by
 unfold gI far
 repeat' split
 all_goals omega
def ajz (a b:Int):-1<=gI a b/\gI a b<=1:=by unfold gI;repeat' split;all_goals omega
def aa3 (c:Nat)(z:c<8)(d:Int)(h1:-32768<=d)(h2:d<=32768)(n:Addr)(o:Nat)(g:W)(C:rU g n o):Calls prog 57 #[I c,I d] g λa b=>a=.returned (.tuple #[I (one (wid c) d:Int),I 0])/\g.grownBy b none:=by
 have l:=Zd λwr (p:g.grownBy wr none)=>qx c z n o wr (kC C p);have⟨b1,b2⟩:=Dv _ (okW c);have⟨m1,m2⟩:=qj (wid c) (okW c);have v:=Zd λ(b:Nat) (q:b<many (wid c)) wr (p:g.grownBy wr none)=>Dw c z b gO gO n o wr (kC C p);have r:=Zd λ(b:Nat) (q:b<many (wid c))=>Tn (wid c) b (okW c) gO gO;have X:=Zs (one (wid c) d=pI (wid c) d (many (wid c))) (rfl);have hp:=Aq (wid c);generalize one (wid c) d=ab at *
 generalize many (wid c)=i at *
 generalize wid c=e at *
 go_enter func57,ntmps57;go_wp2_with fail;refine(l _ (aM _ _)).mono ?_;rintro a w1 ⟨rfl,rfl⟩;go_wp2_with fail;go_loopw [6,7] (λg f wr=>∃b:Nat,f=I b/\g=I (pI e d b:Int)/\1<=b/\b<=i/\Hid (w1.grownBy wr none)) (λ_ f _=>i-(intOf f).toNat)
 case atStart=>exact⟨1,rfl,by rw[WH];rfl,gO,gO,aM _ _⟩
 case round=>
  obtain⟨b,rfl,rfl,ae,q,f⟩:=hrel;by_cases U:b=i
  .subst U;rw[<-X.out];go_wp2_with fail;refine(l _ f).mono ?_;rintro a j ⟨rfl,rfl⟩;go_wp2_with fail;go_ret2;exact⟨rfl,f⟩
  have D:=Tp e d b i q gO;have⟨a1,a2⟩:=r b gO;have⟨c1,c2⟩:=r (pI e d b) D;have M:=Zd<|v b gO wr f;have O:=Zd<|v (pI e d b) D wr f;have P:=Zd<|l wr f;have T:pI e d (b+1)=if gI ((lvl e b-d).natAbs:Int) ((lvl e (pI e d b)-d).natAbs:Int)<0 then b else pI e d b:=by
   simp only[ajy];rfl
  have u:=Zd T;generalize pI e d b=G at *
  generalize lvl e b=m at *
  generalize lvl e G=w at *
  go_wp2_with fail;refine P.mono ?_;rintro a j ⟨rfl,rfl⟩;go_wp2_with fail;refine O.mono ?_;rintro a j ⟨rfl,rfl⟩;go_wp2_with fail;refine M.mono ?_;rintro a j ⟨rfl,rfl⟩;go_wp2_with fail;refine(eP _ _ gO gO).mono ?_;rintro a E ⟨x,rfl,ac,Y,R⟩;have s:=Zs (kD E x (m-d)/\j.grownBy E none) (⟨Y,R⟩);go_wp2_with fail;refine(eP _ _ gO gO).mono ?_;rintro a F ⟨Q,rfl,ad,Z,y⟩;have J:=Zd<|aa2 x Q _ _ F (bP s.1 y) Z;have K:=Zd<|bT f (bT s.2 y none (λc a _=>by cases a) (λc a _=>by cases a)) none (λc a _=>by cases a) (λc a _=>by cases a);go_wp2_with fail;refine J.mono ?_;rintro a w5 ⟨rfl,aa,rfl⟩;have t:=Zd<|bT K (dY F aa none) none (λc a _=>by cases a) (λc a _=>by cases a);have⟨d1,d2⟩:=ajz ((m-d).natAbs:Int) ((w-d).natAbs:Int);generalize gI ((m-d).natAbs:Int) ((w-d).natAbs:Int)=H at *
  by_cases B:H<0
  .have a:=u.out;rw[Q9 B]at a;have k:=Zd a;go_wp2;go_roundw
   case rel=>exact⟨b+1,by go_num,by rw[k.out],gO,gO,t⟩
   case measure=>simp[intOf];omega
  have a:=u.out;rw[X9 B]at a;have k:=Zd a;go_wp2;go_roundw
  case rel=>exact⟨b+1,by go_num,by rw[k.out],gO,gO,t⟩
  case measure=>simp[intOf];omega
def oN (a b:Int):Int:=if a<0\/7<a then 0 else if b<0\/(many (wid a.toNat):Int)-1<b then 0 else lvl (wid a.toNat) b
def jK (a b:Int):Int:=if a<0\/7<a then 4 else if b<0\/(many (wid a.toNat):Int)-1<b then 2 else 0
def Uf (a:Int)(b:¬(a<0\/7<a)):∃I:Nat,a=(I:Int)/\I<8/\a.toNat=I:=⟨a.toNat,gO,gO,rfl⟩
def aeM (b a:Int)(d:W)(i:vS d):Calls prog 176 #[.int .i64 b,.int .i64 a] d λf c=>f=.returned (.tuple #[.int .i64 (oN b a),.int .i64 (jK b a)])/\c=d:=by
 by_cases c:b<0\/7<b
 .rw[show oN b a=0 from Q9 c,show jK b a=4 from Q9 c];exact aa1 b a c d
 have⟨I,f,h,g⟩:=Uf b c;by_cases e:a<0\/(many (wid I):Int)-1<a
 .rw[show oN b a=0 by unfold oN;rw[X9 c,g,Q9 e],show jK b a=2 by unfold jK;rw[X9 c,g,Q9 e],f];exact Xm I h a e d i
 rw[show oN b a=lvl (wid I) a by unfold oN;rw[X9 c,g,X9 e],show jK b a=0 by unfold jK;rw[X9 c,g,X9 e],f];exact aeK I h a gO gO d i
def Ug (b a:Int)(h:Addr)(i:Nat)(d:W)(k:rU d h i):Calls prog 58 #[.int .i64 b,.int .i64 a] d λf c=>f=.returned (.tuple #[.int .i64 (oN b a),.int .i64 (jK b a)])/\c=d:=by
 by_cases c:b<0\/7<b
 .rw[show oN b a=0 from Q9 c,show jK b a=4 from Q9 c];exact Ob b a c d
 have⟨I,f,j,g⟩:=Uf b c;by_cases e:a<0\/(many (wid I):Int)-1<a
 .rw[show oN b a=0 by unfold oN;rw[X9 c,g,Q9 e],show jK b a=2 by unfold jK;rw[X9 c,g,Q9 e],f];exact KV I j a e h i d k
 rw[show oN b a=lvl (wid I) a by unfold oN;rw[X9 c,g,X9 e],show jK b a=0 by unfold jK;rw[X9 c,g,X9 e],f];exact Dw I j a gO gO h i d k
def pJ (a b:Int):Int:=if a<0\/7<a then 0 else if b < -32768\/32768<b then 0 else(one (wid a.toNat) b:Int)
def jW (a b:Int):Int:=if a<0\/7<a then 4 else if b < -32768\/32768<b then 2 else 0
def ajA (b a:Int)(d:W)(i:vS d):Calls prog 175 #[.int .i64 b,.int .i64 a] d λf c=>f=.returned (.tuple #[.int .i64 (pJ b a),.int .i64 (jW b a)])/\c=d:=by
 by_cases c:b<0\/7<b
 .rw[show pJ b a=0 from Q9 c,show jW b a=4 from Q9 c];exact ag5 b a c d
 have⟨I,f,g,h⟩:=Uf b c;by_cases e:a < -32768\/32768<a
 .rw[show pJ b a=0 by unfold pJ;rw[X9 c,Q9 e],show jW b a=2 by unfold jW;rw[X9 c,Q9 e],f];exact aeL I g a e d
 rw[show pJ b a=one (wid I) a by unfold pJ;rw[X9 c,h,X9 e],show jW b a=0 by unfold jW;rw[X9 c,X9 e],f];exact ajx I g a gO gO d i
def aa4 (b a:Int)(g:Addr)(h:Nat)(e:W)(m:rU e g h):Calls prog 57 #[.int .i64 b,.int .i64 a] e λd k=>d=.returned (.tuple #[.int .i64 (pJ b a),.int .i64 (jW b a)])/\e.grownBy k none:=by
 by_cases c:b<0\/7<b
 .rw[show pJ b a=0 from Q9 c,show jW b a=4 from Q9 c];exact(Xn b a c e).mono λd k ⟨i,j⟩=>⟨i,by subst j;exact aM _ _⟩
 have⟨I,d,l,n⟩:=Uf b c;by_cases f:a < -32768\/32768<a
 .rw[show pJ b a=0 by unfold pJ;rw[X9 c,Q9 f],show jW b a=2 by unfold jW;rw[X9 c,Q9 f],d];exact(Ue I l a f g h e m).mono λd k ⟨i,j⟩=>⟨i,by subst j;exact aM _ _⟩
 rw[show pJ b a=one (wid I) a by unfold pJ;rw[X9 c,n,X9 f],show jW b a=0 by unfold jW;rw[X9 c,X9 f],d];exact aa3 I l a gO gO g h e m
def gJ (a:Nat->Int):Nat->Int
 | 0=>0
 | b+1=>if gJ a b=0 then a b else gJ a b
def tV (a:Nat->Int)(b:Nat)(c:gJ a b=0):gJ a (b+1)=a b:=Q9 c
def rV (a:Nat->Int)(b:Nat)(d:gJ a b=0)(e:a b≠0):∀c,gJ a (b+1+c)=a b
 | 0=>tV a b d
 | c+1=>by
  have:=rV a b d e c;show(if gJ a (b+1+c)=0 then a (b+1+c)else gJ a (b+1+c))=a b;rw[this,X9 e]
def kF (V a:Nat->Int):L:=if gJ a 8=0 then(List.range 8).map V else au 8
def QX (V a:Nat->Int):(kF V a).length=8:=by unfold kF;split<;>simp[au]
def ag6 (c:L)(r:c.length=8)(g:W)(E:vS g):Calls prog 174 #[.agg (aF c),.func (.func 175) #[] #[]] g (qP g (kF (λa=>pJ a (aB c a)) (λa=>jW a (aB c a))) (gJ (λa=>jW a (aB c a)) 8)):=by
 have q:=Zd<|nI g 50 50 c (au 8);rw[uR]at q;have C:=Zd λ(b:Nat) wr (D:g.grownBy wr none)=>ajA b (aB c b) wr (lq E D);have w:=Zd λf e=>gF c underlying50 f e r;have M:=pU;go_enter func174,ntmps174;go_wp2_with (refine lA q.1 (by rw[r];exact bG) ?_);have x:=Zs (jc g _ 50 50 c (au 8)) (q);generalize (g.alloc (.cells (aF c) 50)).alloc _=G at *
 go_loopw [11] (λa wr=>∃(b:Nat) (d:L),a=I b/\b<=8/\Hid (gJ (λa=>jW a (aB c a)) b=0)/\Hid (jF 8 (λa=>pJ a (aB c a)) b d)/\Hid (jc g wr 50 50 d (au 8))) (λa _=>8-(intOf a).toNat)
 case atStart=>exact⟨0,c,rfl,QN _,rfl,⟨r,λf e=>gO⟩,x⟩
 case round=>
  obtain⟨b,d,rfl,O,l,m,e⟩:=hrel;by_cases F:b<8
  .have Q:=w b gO;have B:=Zd<|C b wr e.2.2;have k:d.length=8:=m.1;have y:=Zd<|eD m F;have H:=e.1.cell b gO;have K:=e.1.free b;have z:=Zd<|e.set b (pJ b (aB c b));have i:=Zd e.2.1;have p:=Zd e.2.2;have t:=Zd (λ(f:jW b (aB c b)≠0)=>show gJ (λa=>jW a (aB c a)) 8=jW b (aB c b) by
    have:=rV (λa=>jW a (aB c a)) b l f (8-(b+1));rw[show b+1+(8-(b+1))=8 by omega]at this;exact this)
   have v:=Zs (gJ (λa=>jW a (aB c a)) (b+1)=jW b (aB c b)) (tV _ b l);have n:=Zd λ(f:gJ (λa=>jW a (aB c a)) 8≠0)=>show kF (λa=>pJ a (aB c a)) (λa=>jW a (aB c a))=au 8 by unfold kF;rw[X9 f]
   generalize pJ b (aB c b)=R at *
   generalize jW b (aB c b)=u at *
   generalize aB c b=U at *
   generalize aB d b=X at *
   have P:(b:Int)<8:=gO;go_wp2_with fail;refine B.mono ?_;rintro J T ⟨rfl,rfl⟩;by_cases f:u=0
   .subst f;go_wp2;go_roundw
    case rel=>exact⟨b+1,_,by go_num,gO,v,y,z⟩
    case measure=>simp[intOf];omega
   go_wp2_with (first|refine sA (au 8) i rfl (by rw[ak];exact bG) ?_);have j:=bF (rs':=au 8) i rfl;have s:=kU j.1 (by rw[ak];exact bG);have o:=Zd<|aG p j.2 gO;refine QB (v:=.tuple #[.agg (aF (au 8)),I u]) ?_ rfl ?_
   .simp[results,results174,asAddr,Act.put,s]
   rw[n.out (by rw[t.out f];exact f),t.out f];exact⟨rfl,o⟩
  obtain rfl:b=8:=gO;have k:d.length=8:=m.1;have n:=Zs (kF (λa=>pJ a (aB c a)) (λa=>jW a (aB c a))=d) (by rw[fB m.out];unfold kF;rw[Q9 l.out]);have f:=l;have a:=Zd e.1;have i:=Zd e.2.1;have p:=Zd e.2.2;go_wp2_with (first|refine lA a (by rw[k];exact bG) ?_|refine sA d i (by rw[k,ak]) (by rw[ak];exact bG) ?_);have j:=bF (rs':=d) i (by rw[k,ak]);have s:=kU j.1 (by rw[k];exact bG);have o:=Zd<|aG p j.2 gO;refine QB (v:=.tuple #[.agg (aF d),I 0]) ?_ rfl ?_
  .simp[results,results174,asAddr,Act.put,s]
  rw[n.out,f.out];exact⟨rfl,o⟩
def ajB (b:L)(j:b.length=8)(d:W)(o:vS d):Calls prog 140 #[.agg (aF b)] d (qP d (kF (λa=>pJ a (aB b a)) (λa=>jW a (aB b a))) (gJ (λa=>jW a (aB b a)) 8)):=by
 have c:=Zd<|nI d 50 50 b (au 8);have k:=Zd λe (n:d.grownBy e none)=>ag6 b j e (lq o n);have e:=QX (λa=>pJ a (aB b a)) (λa=>jW a (aB b a));rw[uR]at c;generalize kF (λa=>pJ a (aB b a)) (λa=>jW a (aB b a))=f at *
 generalize gJ (λa=>jW a (aB b a)) 8=q at *
 go_enter func140,ntmps140;go_wp2_with (refine lA c.1 (by rw[j];exact bG) ?_);refine(k _ c.2.2).mono ?_;rintro r s ⟨rfl,i⟩;have a:=Zd<|c.2.1.aC i;have m:=Zd<|ay c.2.2 i;go_wp2_with (first|refine sA f a (by rw[e,ak]) (by rw[ak];exact bG) ?_);have g:=bF (rs':=f) a (by rw[e,ak]);have p:=kU g.1 (by rw[e];exact bG);have l:=Zd<|aG m g.2 gO;refine QB (v:=.tuple #[.agg (aF f),I q]) ?_ rfl ⟨rfl,l⟩;simp[results,results140,asAddr,Act.put,p]
def aa5 (c:L)(r:c.length=8)(g:W)(E:vS g):Calls prog 174 #[.agg (aF c),.func (.func 176) #[] #[]] g (qP g (kF (λa=>oN a (aB c a)) (λa=>jK a (aB c a))) (gJ (λa=>jK a (aB c a)) 8)):=by
 have q:=Zd<|nI g 50 50 c (au 8);rw[uR]at q;have C:=Zd λ(b:Nat) wr (D:g.grownBy wr none)=>aeM b (aB c b) wr (lq E D);have w:=Zd λf e=>gF c underlying50 f e r;have M:=pU;go_enter func174,ntmps174;go_wp2_with (refine lA q.1 (by rw[r];exact bG) ?_);have x:=Zs (jc g _ 50 50 c (au 8)) (q);generalize (g.alloc (.cells (aF c) 50)).alloc _=G at *
 go_loopw [11] (λa wr=>∃(b:Nat) (d:L),a=I b/\b<=8/\Hid (gJ (λa=>jK a (aB c a)) b=0)/\Hid (jF 8 (λa=>oN a (aB c a)) b d)/\Hid (jc g wr 50 50 d (au 8))) (λa _=>8-(intOf a).toNat)
 case atStart=>exact⟨0,c,rfl,QN _,rfl,⟨r,λf e=>gO⟩,x⟩
 case round=>
  obtain⟨b,d,rfl,O,l,m,e⟩:=hrel;by_cases F:b<8
  .have Q:=w b gO;have B:=Zd<|C b wr e.2.2;have k:d.length=8:=m.1;have y:=Zd<|eD m F;have H:=e.1.cell b gO;have K:=e.1.free b;have z:=Zd<|e.set b (oN b (aB c b));have i:=Zd e.2.1;have p:=Zd e.2.2;have t:=Zd (λ(f:jK b (aB c b)≠0)=>show gJ (λa=>jK a (aB c a)) 8=jK b (aB c b) by
    have:=rV (λa=>jK a (aB c a)) b l f (8-(b+1));rw[show b+1+(8-(b+1))=8 by omega]at this;exact this)
   have v:=Zs (gJ (λa=>jK a (aB c a)) (b+1)=jK b (aB c b)) (tV _ b l);have n:=Zd λ(f:gJ (λa=>jK a (aB c a)) 8≠0)=>show kF (λa=>oN a (aB c a)) (λa=>jK a (aB c a))=au 8 by unfold kF;rw[X9 f]
   generalize oN b (aB c b)=R at *
   generalize jK b (aB c b)=u at *
   generalize aB c b=U at *
   generalize aB d b=X at *
   have P:(b:Int)<8:=gO;go_wp2_with fail;refine B.mono ?_;rintro J T ⟨rfl,rfl⟩;by_cases f:u=0
   .subst f;go_wp2;go_roundw
    case rel=>exact⟨b+1,_,by go_num,gO,v,y,z⟩
    case measure=>simp[intOf];omega
   go_wp2_with (first|refine sA (au 8) i rfl (by rw[ak];exact bG) ?_);have j:=bF (rs':=au 8) i rfl;have s:=kU j.1 (by rw[ak];exact bG);have o:=Zd<|aG p j.2 gO;refine QB (v:=.tuple #[.agg (aF (au 8)),I u]) ?_ rfl ?_
   .simp[results,results174,asAddr,Act.put,s]
   rw[n.out (by rw[t.out f];exact f),t.out f];exact⟨rfl,o⟩
  obtain rfl:b=8:=gO;have k:d.length=8:=m.1;have n:=Zs (kF (λa=>oN a (aB c a)) (λa=>jK a (aB c a))=d) (by rw[fB m.out];unfold kF;rw[Q9 l.out]);have f:=l;have a:=Zd e.1;have i:=Zd e.2.1;have p:=Zd e.2.2;go_wp2_with (first|refine lA a (by rw[k];exact bG) ?_|refine sA d i (by rw[k,ak]) (by rw[ak];exact bG) ?_);have j:=bF (rs':=d) i (by rw[k,ak]);have s:=kU j.1 (by rw[k];exact bG);have o:=Zd<|aG p j.2 gO;refine QB (v:=.tuple #[.agg (aF d),I 0]) ?_ rfl ?_
  .simp[results,results174,asAddr,Act.put,s]
  rw[n.out,f.out];exact⟨rfl,o⟩
def KW (b:L)(j:b.length=8)(d:W)(o:vS d):Calls prog 143 #[.agg (aF b)] d (qP d (kF (λa=>oN a (aB b a)) (λa=>jK a (aB b a))) (gJ (λa=>jK a (aB b a)) 8)):=by
 have c:=Zd<|nI d 50 50 b (au 8);have k:=Zd λe (n:d.grownBy e none)=>aa5 b j e (lq o n);have e:=QX (λa=>oN a (aB b a)) (λa=>jK a (aB b a));rw[uR]at c;generalize kF (λa=>oN a (aB b a)) (λa=>jK a (aB b a))=f at *
 generalize gJ (λa=>jK a (aB b a)) 8=q at *
 go_enter func143,ntmps143;go_wp2_with (refine lA c.1 (by rw[j];exact bG) ?_);refine(k _ c.2.2).mono ?_;rintro r s ⟨rfl,i⟩;have a:=Zd<|c.2.1.aC i;have m:=Zd<|ay c.2.2 i;go_wp2_with (first|refine sA f a (by rw[e,ak]) (by rw[ak];exact bG) ?_);have g:=bF (rs':=f) a (by rw[e,ak]);have p:=kU g.1 (by rw[e];exact bG);have l:=Zd<|aG m g.2 gO;refine QB (v:=.tuple #[.agg (aF f),I q]) ?_ rfl ⟨rfl,l⟩;simp[results,results143,asAddr,Act.put,p]
def Xo (c:L)(T:c.length=8)(u:Addr)(v:Nat)(f:W)(G:rU f u v):Calls prog 24 #[.agg (aF c)] f (qP f (kF (λa=>pJ a (aB c a)) (λa=>jW a (aB c a))) (gJ (λa=>jW a (aB c a)) 8)):=by
 have s:=Zd<|oQ f 50 50 50 c (au 8) (au 8);rw[uR]at s;have D:=Zd λ(b:Nat) wr (E:f.grownBy wr none)=>aa4 b (aB c b) u v wr (kC G E);have R:=pU;go_enter func24,ntmps24;go_wp2_with fail;have y:=Zs (iX f _ 50 50 50 c (au 8) (au 8)) (s);generalize ((f.alloc (.cells (aF c) 50)).alloc _).alloc _=K at *
 go_loopw [8] (λa wr=>∃(b:Nat) (d:L),a=I b/\b<=8/\Hid (gJ (λa=>jW a (aB c a)) b=0)/\Hid (jF 8 (λa=>pJ a (aB c a)) b d)/\Hid (iX f wr 50 50 50 c (au 8) d)) (λa _=>8-(intOf a).toNat)
 case atStart=>exact⟨0,au 8,rfl,QN _,rfl,⟨ak 8,λe e=>gO⟩,y⟩
 case round=>
  obtain⟨b,d,rfl,U,m,n,g⟩:=hrel;by_cases H:b<8
  .have C:=Zd<|D b wr g.2.2.2;have l:d.length=8:=n.1;have z:=Zd<|eD n H;have O:=g.1.cell b gO;have t:=Zd (λ(e:jW b (aB c b)≠0)=>show gJ (λa=>jW a (aB c a)) 8=jW b (aB c b) by
    have:=rV (λa=>jW a (aB c a)) b m e (8-(b+1));rw[show b+1+(8-(b+1))=8 by omega]at this;exact this)
   have x:=Zs (gJ (λa=>jW a (aB c a)) (b+1)=jW b (aB c b)) (tV _ b m);have o:=Zd λ(e:gJ (λa=>jW a (aB c a)) 8≠0)=>show kF (λa=>pJ a (aB c a)) (λa=>jW a (aB c a))=au 8 by unfold kF;rw[X9 e]
   generalize pJ b (aB c b)=J at *
   generalize jW b (aB c b)=w at *
   generalize aB c b=Z at *
   have X:(b:Int)<8:=gO;go_wp2_with fail;refine C.mono ?_;rintro P Y ⟨rfl,F⟩;have j:=Zd<|g.aC F;have M:=j.2.2.1.cell b gO;have Q:=j.2.2.1.free b;have B:=Zd<|j.Sz b J;have i:=Zd j.2.1;have q:=Zd j.2.2.2;generalize aB d b=y' at *
   by_cases e:w=0
   .subst e;go_wp2;go_roundw
    case rel=>exact⟨b+1,_,by go_num,gO,x,z,B⟩
    case measure=>simp[intOf];omega
   go_wp2_with (first|refine sA (au 8) i rfl (by rw[ak];exact bG) ?_);have k:=bF (rs':=au 8) i rfl;have r:=kU k.1 (by rw[ak];exact bG);have p:=Zd<|aG q k.2 gO;refine QB (v:=.tuple #[.agg (aF (au 8)),I w]) ?_ rfl ?_
   .simp[results,results24,asAddr,Act.put,r]
   rw[o.out (by rw[t.out e];exact e),t.out e];exact⟨rfl,p⟩
  obtain rfl:b=8:=gO;have l:d.length=8:=n.1;have o:=Zs (kF (λa=>pJ a (aB c a)) (λa=>jW a (aB c a))=d) (by rw[fB n.out];unfold kF;rw[Q9 m.out]);have e:=m;have a:=Zd g.2.2.1;have i:=Zd g.2.1;have q:=Zd g.2.2.2;go_wp2_with (first|refine lA a (by rw[l];exact bG) ?_|refine sA d i (by rw[l,ak]) (by rw[ak];exact bG) ?_);have k:=bF (rs':=d) i (by rw[l,ak]);have r:=kU k.1 (by rw[l];exact bG);have p:=Zd<|aG q k.2 gO;refine QB (v:=.tuple #[.agg (aF d),I 0]) ?_ rfl ?_
  .simp[results,results24,asAddr,Act.put,r]
  rw[o.out,e.out];exact⟨rfl,p⟩
def vT (c:L)(U:c.length=8)(u:Addr)(v:Nat)(f:W)(G:rU f u v):Calls prog 25 #[.agg (aF c)] f (qP f (kF (λa=>oN a (aB c a)) (λa=>jK a (aB c a))) (gJ (λa=>jK a (aB c a)) 8)):=by
 have s:=Zd<|oQ f 50 50 50 c (au 8) (au 8);rw[uR]at s;have D:=Zd λ(b:Nat) wr (E:f.grownBy wr none)=>Ug b (aB c b) u v wr (kC G E);have T:=pU;go_enter func25,ntmps25;go_wp2_with fail;have y:=Zs (iX f _ 50 50 50 c (au 8) (au 8)) (s);generalize ((f.alloc (.cells (aF c) 50)).alloc _).alloc _=M at *
 go_loopw [8] (λa wr=>∃(b:Nat) (d:L),a=I b/\b<=8/\Hid (gJ (λa=>jK a (aB c a)) b=0)/\Hid (jF 8 (λa=>oN a (aB c a)) b d)/\Hid (iX f wr 50 50 50 c (au 8) d)) (λa _=>8-(intOf a).toNat)
 case atStart=>exact⟨0,au 8,rfl,QN _,rfl,⟨ak 8,λe e=>gO⟩,y⟩
 case round=>
  obtain⟨b,d,rfl,X,m,n,g⟩:=hrel;by_cases H:b<8
  .have C:=Zd<|D b wr g.2.2.2;have l:d.length=8:=n.1;have z:=Zd<|eD n H;have P:=g.1.cell b gO;have t:=Zd (λ(e:jK b (aB c b)≠0)=>show gJ (λa=>jK a (aB c a)) 8=jK b (aB c b) by
    have:=rV (λa=>jK a (aB c a)) b m e (8-(b+1));rw[show b+1+(8-(b+1))=8 by omega]at this;exact this)
   have x:=Zs (gJ (λa=>jK a (aB c a)) (b+1)=jK b (aB c b)) (tV _ b m);have o:=Zd λ(e:gJ (λa=>jK a (aB c a)) 8≠0)=>show kF (λa=>oN a (aB c a)) (λa=>jK a (aB c a))=au 8 by unfold kF;rw[X9 e]
   generalize oN b (aB c b)=J at *
   generalize jK b (aB c b)=w at *
   generalize aB c b=Z at *
   have Y:(b:Int)<8:=gO;go_wp2_with fail;refine C.mono ?_;rintro Q K ⟨rfl,rfl⟩;have F:=aM K none;have j:=Zd<|g.aC F;have O:=j.2.2.1.cell b gO;have R:=j.2.2.1.free b;have B:=Zd<|j.Sz b J;have i:=Zd j.2.1;have q:=Zd j.2.2.2;generalize aB d b=y' at *
   by_cases e:w=0
   .subst e;go_wp2;go_roundw
    case rel=>exact⟨b+1,_,by go_num,gO,x,z,B⟩
    case measure=>simp[intOf];omega
   go_wp2_with (first|refine sA (au 8) i rfl (by rw[ak];exact bG) ?_);have k:=bF (rs':=au 8) i rfl;have r:=kU k.1 (by rw[ak];exact bG);have p:=Zd<|aG q k.2 gO;refine QB (v:=.tuple #[.agg (aF (au 8)),I w]) ?_ rfl ?_
   .simp[results,results25,asAddr,Act.put,r]
   rw[o.out (by rw[t.out e];exact e),t.out e];exact⟨rfl,p⟩
  obtain rfl:b=8:=gO;have l:d.length=8:=n.1;have o:=Zs (kF (λa=>oN a (aB c a)) (λa=>jK a (aB c a))=d) (by rw[fB n.out];unfold kF;rw[Q9 m.out]);have e:=m;have a:=Zd g.2.2.1;have i:=Zd g.2.1;have q:=Zd g.2.2.2;go_wp2_with (first|refine lA a (by rw[l];exact bG) ?_|refine sA d i (by rw[l,ak]) (by rw[ak];exact bG) ?_);have k:=bF (rs':=d) i (by rw[l,ak]);have r:=kU k.1 (by rw[l];exact bG);have p:=Zd<|aG q k.2 gO;refine QB (v:=.tuple #[.agg (aF d),I 0]) ?_ rfl ?_
  .simp[results,results25,asAddr,Act.put,r]
  rw[o.out,e.out];exact⟨rfl,p⟩
def quL (b:L):L:=f_ 8 (λa=>(one (wid a) (aB b a):Int))
def xZ (a:L):(quL a).length=8:=cK _ _
def Ho (b:Nat->Int):∀a,(∀c,c<a->b c=0)->gJ b a=0
 | 0,_=>rfl
 | a+1,d=>by
  have:=Ho b a (λc e=>d c gO);rw[tV b a this];exact d a gO
def KX (V a:Nat->Int)(c:∀b,b<8->a b=0):kF V a=f_ 8 V/\gJ a 8=0:=by have:=Ho a 8 c;exact⟨Q9 this,this⟩
def qY (b:Nat)(c d:Nat->Int)(e:∀a,a<b->c a=d a):f_ b c=f_ b d:=
 dL (cK _ _) (λa b=>by rw[dP _ _ _ b];exact e a b)
def Jr (b:L)(e:∀a,a<8->-32768<=aB b a/\aB b a<=32768):kF (λa=>pJ a (aB b a)) (λa=>jW a (aB b a))=quL b/\gJ (λa=>jW a (aB b a)) 8=0:=by
 have d:=KX (λa=>pJ a (aB b a)) (λa=>jW a (aB b a)) (λa c=>by
  have:=e a c;show jW (a:Int) (aB b a)=0;unfold jW;rw[nO,nO])
 refine⟨d.1.trans (qY 8 _ _ (λa c=>?_)),d.2⟩;have:=e a c;show pJ (a:Int) (aB b a)=_;unfold pJ;rw[nO,nO,show((a:Nat):Int).toNat=a by omega]
def iV (b:L):L:=f_ 8 (λa=>lvl (wid a) (aB b a))
def mX (a:L):(iV a).length=8:=cK _ _
def aa6 (b:L):Prop:=b.length=8/\∀a,a<8->0<=aB b a/\aB b a<(many (wid a):Int)
def zA (b:L):aa6 (quL b):=by refine⟨xZ b,λa c=>?_⟩;unfold quL;rw[dP _ _ _ c];have:=alK (wid a) (aB b a) (Ki a);omega
def Dx (b:L)(e:aa6 b):kF (λa=>oN a (aB b a)) (λa=>jK a (aB b a))=iV b/\gJ (λa=>jK a (aB b a)) 8=0:=by
 have d:=KX (λa=>oN a (aB b a)) (λa=>jK a (aB b a)) (λa c=>by
  have:=e.2 a c;show jK (a:Int) (aB b a)=0;unfold jK;rw[nO,show((a:Nat):Int).toNat=a by omega]
  (repeat' split)<;>first|rfl|omega)
 refine⟨d.1.trans (qY 8 _ _ (λa c=>?_)),d.2⟩;have:=e.2 a c;show oN (a:Int) (aB b a)=_;unfold oN;rw[nO,show((a:Nat):Int).toNat=a by omega]
 (repeat' split)<;>first|rfl|omega
def vg (b:L)(e:aa6 b):cZ (iV b)=true:=by rw[iO,mX];intro a d;unfold iV;rw[dP _ _ _ d];have c:=e.2 a d;have:=Tn (wid a) (aB b a) (Ki a) c.1 c.2;omega
def ajC (c:jC l=true):aa6 (bM l 1 8):=by refine⟨aT _ _ _,λb a=>?_⟩;rw[fV _ _ _ _ a];have:=(lY l).1 c (1+b) gO;rw[TL b a]at this;omega
def ajD (a:L):iV (bM a 1 8)=UD a:=qY 8 _ _ (λa a=>by rw[fV _ _ _ _ a])
def Ar (b:jC l=true):kF (λa=>oN a (aB (bM l 1 8) a)) (λa=>jK a (aB (bM l 1 8) a))=UD l/\gJ (λa=>jK a (aB (bM l 1 8) a)) 8=0:=by have:=Dx _ (ajC b);rw[ajD]at this;exact this
def adu (a b:L):nK true a b=Cy a:=Q9 rfl
def adv (a b:L):nK false a b=Cb a b:=X9 (by decide)
def ag7 (a b:L):yV true a b=Cz a:=Q9 rfl
def adw (a b:L):yV false a b=tQ a b:=X9 (by decide)
def aa8 (c:L)(a b:Nat):L:=(c.take b).drop a
def Xp (c:L)(b a:Nat)(d:a<=c.length):(aa8 c b a).length=a-b:=by unfold aa8;rw[DN,BJ];omega
def ajF {W:World}(g:aY W x l)(m:rD x l)(a b:Nat)(e:a<=b)(j:b<=l.length)(k:0<l.length):∃c,(∀e,Sem.run prog (Instr.slice 26 x (some (I a)) (some (I b)) none) e=.ok c e)/\aY W c (aa8 l a b)/\rD c (aa8 l a b):=by
 rcases m with rfl|⟨f,c,rfl⟩
 .obtain rfl:=Ac g;simp at k
 have⟨_,n,i⟩:=oW g;have d:=Xp l a b j;refine⟨.slice (some (if c=a then f else f.add a)) (b-a) (c-a),λe=>?_,⟨_,c-a,by rw[d],by rw[d];omega,λhp=>⟨_,rfl,λj g=>?_⟩⟩,.inr ⟨_,c-a,by rw[d]⟩⟩
 .rw[run_slice_lh (P:=prog) e 26 (some f) l.length c (by kernel_rfl) .i64 .i64 a b gO gO gO];simp[go_sem,sliced];split<;>rfl
 rw[d]at g hp;rw[nO,Addr.add_add,i (a+j) gO];unfold aa8;rw[Da,ug _ _ _ gO]
def QY (a:W)(b:L)(c:Bool)(e:b.length=101):bU (a.alloc (.cells (aP (au 101) false).toArray 53)) a.heap.size (au 101) false/\bU (dz (a.alloc (.cells (aP (au 101) false).toArray 53)) a.heap.size 0 (aP b c)) a.heap.size b c/\a.grownBy (dz (a.alloc (.cells (aP (au 101) false).toArray 53)) a.heap.size 0 (aP b c)) none:=by have d:=bU.new a (au 101) false;have P:=d.dQ (m:=b) (t:=c) (ak 101) e;exact⟨d,P.1,aG (aj _ _ none) P.2 (Q6 _)⟩
def QZ (a:W)(b:L)(c:Bool)(e:b.length=225):h_ (a.alloc (.cells (bV (au 225) false).toArray 55)) a.heap.size (au 225) false/\h_ (dz (a.alloc (.cells (bV (au 225) false).toArray 55)) a.heap.size 0 (bV b c)) a.heap.size b c/\a.grownBy (dz (a.alloc (.cells (bV (au 225) false).toArray 55)) a.heap.size 0 (bV b c)) none:=by have d:=h_.new a (au 225) false;have P:=d.dQ (m:=b) (t:=c) (ak 225) e;exact⟨d,P.1,aG (aj _ _ none) P.2 (Q6 _)⟩
def q9:L:=au 124++iY
def zC:q9.length=225:=by unfold q9;rw[ZB,ak,j5]
def Yw (b:Nat)(c:W):Prop:=∀a,c.grownBy a none->Calls prog b #[] a (jB a (gu q9 false))
def Oe (a:W):Sem.run prog (Instr.build 55 #[(2,bL iY false)]) a=.ok (gu q9 false) a:=by kernel_rfl
def xg {e:Array Oper}{rest:List Oper}{c:Oper}{b:Act}{f:W}{d:Exit->Act->W->Prop}(h:c.guard=none)(a:Operand)(i:c.op=.build 55 #[(2,a)])(j:b.eval a=bL iY false)
 (k:wpList prog e d rest (b.put c.dst (gu q9 false)) f):wpList prog e d (c::rest) b f:=by
 refine wpList_plain h λ_ c=>?_;unfold Oper.wp execOp;have g:(#[(2,a)]:Array (Nat×Operand)).map (λ(d,a)=>(d,b.eval a))=#[(2,bL iY false)]:=by simp[j]
 simp only[i,g,Sem.run_bind,Oe,Result.andThen_ok,Sem.run_pure];exact c _ _ k
def Xw (d e:L)(f a:Nat)(c:Int)(b:L):Prop:=
 b.length=f/\WF b/\dJ b a-c*P a=dJ d a-dJ e a/\0<=c/\c<=1/\∀c,a<=c->aB b c=0
def aeP (b c:L)(a:Nat):Xw b c a 0 0 (List.replicate a 0):=
 ⟨by simp,wC _,by simp[dJ],gO,gO,λa _=>mQ _ _⟩
def Q8 (d e:L)(f a:Nat)(i b c h:Int)(g:L)(r:WF d)(s:WF e)(z:a<f)(l:Xw d e f a i g)(o:b=aB d a-i-aB e a)(q:c=b % 4294967296)(j:h=if b<0 then 1 else 0):Xw d e f (a+1) h (g.set a c):=by
 have⟨v,m,w,x,y,n⟩:=l;have B:=r a;have C:=s a;have k:∀f,aB (g.set a c) f=if f=a then c else aB g f:=λf=>mP _ _ _ _ gO;have p:c=b+h*4294967296:=by rw[q,j];split<;>omega
 refine⟨by simp;omega,xM _ _ _ m gO gO gO,?_,by rw[j];split<;>omega,by rw[j];split<;>omega,λj l=>by rw[k,nO];exact n j gO⟩;rw[dJ,dJ,dJ,k,Q9 rfl,jT _ g a (λf f=>by rw[k,nO]),xK];have t:c*P a=b*P a+h*(P a*4294967296):=by
  rw[p,GL,FP,V7 4294967296]
 have u:b*P a=aB d a*P a-i*P a-aB e a*P a:=by rw[o,Int.sub_mul,Int.sub_mul]
 omega
def ajJ (a b:L)(d:Int)(c:L)(p:WF a)(q:WF b)(j:b.length<=a.length)(o:val b<=val a)(f:Xw a b a.length a.length d c):WF c/\val c=val a-val b/\c.length=a.length:=by
 have⟨g,e,h,k,l,m⟩:=f;rw[nu b _ j,show dJ a a.length=val a from rfl]at h;have n:=rG c e a.length;have i:d=0\/d=1:=gO;rcases i with rfl|rfl
 .refine⟨e,?_,g⟩;rw[<-nu c a.length gO];omega
 omega
def aha (a b:Int)(c:-4294967296<=a)(d:a<4294967296)(e:0<=b)(f:b<4294967296):IntKind.u64.wrap (IntKind.u64.wrap a-b) % 4294967296=(a-b) % 4294967296/\IntKind.u64.wrap (IntKind.u64.wrap a-b) / 9223372036854775808=if a-b<0 then 1 else 0:=by rw[IntKind.wrap_u64,IntKind.wrap_u64];refine⟨gO,by split<;>omega⟩
def aeQ (a:Int)(b:-4294967296<=a)(c:a<4294967296):IntKind.u64.wrap a % 4294967296=a % 4294967296/\IntKind.u64.wrap a / 9223372036854775808=if a<0 then 1 else 0:=by rw[IntKind.wrap_u64];refine⟨gO,by split<;>omega⟩
def K7 (o p:Value)(a c:L)(f:World)(s:Sl f o a)(t:Sl f p c)(j:WF a)(k:WF c)(T:a.length<=40)(w:c.length<=a.length)(x:val c<=val a):Calls prog 102 #[o,p] f (iU f (val a-val c) a.length):=by
 obtain⟨K,O,rfl,B⟩:=jm s;obtain⟨M,P,rfl,C⟩:=jm t;have r:=Zd x;have y:=λb=>uF (a.length:Int) gO gO b;rw[Int.toNat_natCast]at y;go_enter func102,ntmps102;go_wp2_with fail;go_loopw [6,7] (λi g wr=>∃(b:Nat) (d:Int) (e:L),i=.int .u64 d/\g=I b/\b<=a.length/\Hid (Xw a c a.length b d e)/\wr=f.alloc (.cells (arr e) 160)) (λ_ g _=>a.length-(intOf g).toNat)
 case atStart=>exact⟨0,0,_,rfl,rfl,QN _,aeP a c _,rfl⟩
 case round=>
  obtain⟨b,d,e,rfl,rfl,R,g,rfl⟩:=hrel;obtain⟨Y,Z⟩:0<=d/\d<=1:=⟨g.2.2.2.1,g.2.2.2.2.1⟩;have i:Hid (e.length=a.length):=g.1;by_cases u:b<a.length
  .obtain⟨D,rfl,J,m⟩:=B gO;have F:=m b u;have⟨U,X⟩:=j b;have H:=oz e b (by rw[i.out];omega);by_cases q:b<c.length
   .obtain⟨E,rfl,Q,n⟩:=C gO;have G:=n b q;have⟨v,z⟩:=k b;have W:=Zd<|aha (aB a b-d) (aB c b) gO gO v z;have l:=Zd<|Q8 a c a.length b d (aB a b-d-aB c b) _ _ e j k gO g rfl W.1 W.2;go_wp2;go_roundw
    case rel=>exact⟨b+1,_,_,rfl,by go_num,gO,l,by rw[mG]⟩
    case measure=>simp[intOf];omega
   have W:=Zd<|aeQ (aB a b-d) gO gO;have l:=Zd<|Q8 a c a.length b d (aB a b-d) _ _ e j k gO g (by rw[dI c b gO];omega) W.1 W.2;go_wp2;go_roundw
   case rel=>exact⟨b+1,_,_,rfl,by go_num,gO,l,by rw[mG]⟩
   case measure=>simp[intOf];omega
  have v:b=a.length:=gO;subst v;have l:=Zd<|ajJ a c d e j k w r g;have z:=Zd<|vR f e a.length i;go_wp2_with fail;refine(qw _ e _ z l.1 (by rw[i.out];omega)).mono ?_;rintro Q U ⟨n,D,rfl,E,F,G,H,m,rfl⟩;have q:=Zs (iU f (val a-val c) a.length (.returned n) _) (⟨n,D,rfl,E,F,G,H.trans l.2.1,by rw[i.out]at m;exact m,aj _ _ _⟩);generalize iU f (val a-val c) a.length=J at *
  go_wp2_with fail;exact q
def mO (b:Bool)(a:Int):Int:=if b then -a else a
def aa_ (h:W)(g:Int)(f:Nat)(e:Ending)(d:W):Prop:=
 ∃b c a,e=.returned (.tuple #[.bool b,c])/\Sl d c a/\WF a/\Top a/\mO b (val a)=g/\a.length<=f/\h.grownBy d none
def dK (a:W)(b:Nat)(c:Option Nat):a.grownBy (a.drewN b) c:=⟨rfl,rfl,rfl,Q6 _,λ_ _ _=>rfl⟩
def zD (b a:L)(e:WF b)(f:WF a)(d:Top a)(g:val a<=val b):a.length<=b.length:=by
 by_cases c:a.length<=b.length
 .exact c
 have:=Ez b a e f d gO;omega
def adB (g i:Bool)(l m:V)(a b:L)(c:W)(s:Sl c l a)(t:Sl c m b)(n:WF a)(o:WF b)(F:Top a)(G:Top b)(K:a.length<=40)(M:b.length<=40):Calls prog 97 #[.bool g,l,.bool i,m] c (aa_ c (mO g (val a)+mO i (val b)) (max a.length b.length+1)):=by
 by_cases B:g=i
 .subst B;have q:=Zd (show ∀d e,iU c (val a+val b) (max a.length b.length+1) (.returned d) e->aa_ c (mO g (val a)+mO g (val b)) (max a.length b.length+1) (.returned (.tuple #[.bool g,d])) e from by
   rintro d e ⟨O,k,r,u,v,w,x,E,y⟩;cases r;exact⟨g,d,k,rfl,u,v,w,by rw[x];cases g<;>simp[mO]<;>omega,E,y⟩)
  generalize aa_ c _ _=H at *
  go_enter func97,ntmps97;go_wp2_with fail;refine(KU l m a b c s t n o K M).mono ?_;intro z e j;obtain⟨d,k,rfl,-⟩:=id j;have p:=Zd<|q d e j;go_wp2_with fail;exact p
 have Q:(g==i)=false:=by simp[B]
 by_cases J:val b<=val a
 .have P:decide (0<=gI (val a) (val b))=true:=by unfold gI;apply KN;split<;>(try split)<;>omega
  have D:=zD a b n o G J;have q:=Zd (show ∀d f e,iU (c.drewN f) (val a-val b) a.length (.returned d) e->aa_ c (mO g (val a)+mO i (val b)) (max a.length b.length+1) (.returned (.tuple #[.bool g,d])) e from by
   rintro d f e ⟨O,k,r,u,v,w,x,E,y⟩;cases r;refine⟨g,d,k,rfl,u,v,w,?_,gO,ay (dK c f none) y⟩;rw[x];cases g<;>cases i<;>simp[mO]at B ⊢<;>omega)
  have C:=Zd J;generalize aa_ c _ _=H at *
  go_enter func97,ntmps97;go_wp2_with fail;refine(wX l m a b c s t n o F G gO gO).mono ?_;rintro z e ⟨rfl,f,rfl⟩;go_wp2_with fail;refine(K7 l m a b (c.drewN f) (jQ s (dK c f none)) (jQ t (dK c f none)) n o K D C).mono ?_;intro z e j;obtain⟨d,k,rfl,-⟩:=id j;have p:=Zd<|q d f e j;go_wp2_with fail;exact p
 have P:decide (0<=gI (val a) (val b))=false:=by unfold gI;apply KF;split<;>(try split)<;>omega
 have D:=zD b a o n F gO;have q:=Zd (show ∀d f e,iU (c.drewN f) (val b-val a) b.length (.returned d) e->aa_ c (mO g (val a)+mO i (val b)) (max a.length b.length+1) (.returned (.tuple #[.bool i,d])) e from by
  rintro d f e ⟨O,k,r,u,v,w,x,E,y⟩;cases r;refine⟨i,d,k,rfl,u,v,w,?_,gO,ay (dK c f none) y⟩;rw[x];cases g<;>cases i<;>simp[mO]at B ⊢<;>omega)
 have C:Hid (val a<=val b):=by unfold Hid;omega
 generalize aa_ c _ _=H at *
 go_enter func97,ntmps97;go_wp2_with fail;refine(wX l m a b c s t n o F G gO gO).mono ?_;rintro z e ⟨rfl,f,rfl⟩;go_wp2_with fail;refine(K7 m l b a (c.drewN f) (jQ t (dK c f none)) (jQ s (dK c f none)) o n M D C).mono ?_;intro z e j;obtain⟨d,k,rfl,-⟩:=id j;have p:=Zd<|q d f e j;go_wp2_with fail;exact p
def abb (f:w.ownsRow n 160 1 x l.length (l.map (Value.int .u32))):Sl w x l:=by
 have⟨k,a⟩:=f;rcases a with⟨a,g⟩|⟨e,d,b,a,_,h,i,_,m,j⟩
 .exact Or.inl ⟨a,List.length_eq_zero_iff.1 g⟩
 refine Or.inr ⟨e,d,b,a,i,h,λa d=>?_⟩;have c:(b.toList.take (l.length*1))[a]?=(l.map (Value.int .u32))[a]?:=by rw[j]
 rw[KC,pO,Array.getElem?_toList]at c;rw[c];simp[aB,List.getD,d]
def K8 (y:V)(a:L)(b:W)(G:Sl b y a)(n:WF a)(m:Top a)(K:a.length<=100):Calls prog 159 #[y] b (iU b (val a) a.length):=by
 rcases G with⟨rfl,rfl⟩|⟨g,B,H,rfl,J,r,s⟩
 .have l:=Zs (iU b (val []) 0 (.returned N) b) (⟨_,[],rfl,sI _,n,m,rfl,Q6 _,aM _ _⟩);show Calls prog 159 _ b (iU b (val []) 0);generalize iU b (val []) 0=z at *
  have⟨o,i,v,w,x⟩:=info_parts Ub;go_enter func159,ntmps159;go_wp2_with (at_builtin;refine wpList_append_own_none rfl _ _ 111 rfl 0 160 o 1 underlying111 i _ 0 [] rfl (World.ownsRow_nil _ _ _ _) rfl ?_);exact l
 have⟨o,i,v,w,x⟩:=info_parts Ub;have q:∀c,c<a.length->b.cell? (A g c)=some (.int .u32 (aB a c)):=λc i=>by rw[aI r];exact s c i
 have t:Hid (∀c d,(a.map (Value.int .u32))[c]?=some d->b.cell? (((A g 0):Addr).add c)=some d):=by
  intro c d f;have e:c<a.length:=by
   by_cases e:c<a.length
   .exact e
   rw[U8 (by simp;omega)]at f;cases f
  have j:((A g 0):Addr).add c=(A g c):=by unfold Addr.add;split<;>simp_all
  rw[j,q c e];simpa [aB,List.getD,e] using f
 have u:Hid (∀d∈a.map (Value.int .u32),d.oneCell'=true):=by
  intro d e;obtain⟨f,_,rfl⟩:=List.mem_map.1 e;rfl
 have p:=Zd (show ∀e f,f.ownsRow b.heap.size 160 1 e a.length (a.map (Value.int .u32))->b.grownBy f none->iU b (val a) a.length (.returned e) f from λe f j k=>
  ⟨e,a,rfl,abb j,n,m,rfl,Q6 _,k⟩)
 clear q s r n m;generalize iU b (val a) a.length=z at *
 go_enter func159,ntmps159;go_wp2_with (at_builtin;refine wpList_append_own _ rfl _ _ 111 rfl b.heap.size 160 o (.int .u32 0) 1 4 underlying111 i v w x rfl (by decide) _ 0 [] rfl (World.ownsRow_nil _ _ _ _) (A g 0) a.length B (a.map (Value.int .u32)) rfl ?C t u ?D ?E (Q6 _) ?_)
 case C=>simp
 case D=>unfold maxLen;omega
 case E=>omega
 intro e f j k F;have l:=Zd<|p e f j k;clear j k F p t u;go_wp2_with fail;exact l
def fG (d:kD w n i):∃b a,w.cell? (A n 0)=some (.bool (decide (i<0)))/\w.cell? (A n 1)=some b/\n<w.heap.size/\Sl w b a/\WF a/\Top a/\val a=i.natAbs/\a.length<=8:=by have⟨b,a,c,e,f,g,h,j⟩:=d;exact⟨b,a,by rw[aI c];rfl,by rw[aI c];rfl,aO c,e,f,g,h,j⟩
def tu (a:Int):mO (decide (a<0)) (a.natAbs:Int)=a:=by unfold mO;by_cases b:a<0<;>simp[b]<;>omega
def fC (a:w.grownBy w' none)(c:n<w.heap.size):w'.cell? (A n b)=w.cell? (A n b):=World.cell?_of_block (a.block n c (by simp))
def len8 (a:WF l)(c:Top l)(b:mO s (val l)=i)(e:-P 8<i)(f:i<P 8):l.length<=8:=by have d:=(su l a).1;refine Ey l a c 8 ?_;cases s<;>simp[mO]at b<;>omega
def kP (i f g:Nat)(d e:Int)(a:W)(hz:Struct a i)(Y:kD a f d)(Z:kD a g e)(U:-P 8<d+e)(X:d+e<P 8):Calls prog 47 #[.pointer (S i),.pointer (S f),.pointer (S g)] a (gH a i (d+e)):=by
 have⟨z,w,E,F,G,xs,xw,xt,xv,xl⟩:=fG Y;have⟨B,x,H,J,K,ys,yw,yt,yv,yl⟩:=fG Z;have R:mO (decide (d<0)) (val w)=d:=by rw[xv];exact tu d
 have T:mO (decide (e<0)) (val x)=e:=by rw[yv];exact tu e
 clear Y Z xv yv;generalize decide (d<0)=m at *
 generalize decide (e<0)=n at *
 have Q:=Zd<|adB m n z B w x a.drew xs ys xw yw xt yt gO gO;have C:Hid (mO m (val w)+mO n (val x)=d+e):=by unfold Hid;rw[R,T]
 have M:=Zd (show ∀l o j c,Sl c o j->WF j->Top j->mO l (val j)=mO m (val w)+mO n (val x)->a.drew.grownBy c none->
  (c.cell? (A f 0)=some (.bool m)/\c.cell? (A f 1)=some z/\c.cell? (A g 0)=some (.bool n)/\c.cell? (A g 1)=some B)/\Calls prog 96 #[.pointer (S i),.bool l,o] c (λp D=>p=.returned (.pointer (S i))/\gH a i (d+e) p D)from by
  intro l o j c y r s t k;have b:a.grownBy c none:=⟨k.os,k.tape,k.output,k.size,k.block⟩;refine⟨⟨by rw[fC b G];exact E,by rw[fC b G];exact F,by rw[fC b K];exact H,by rw[fC b K];exact J⟩,?_⟩;refine(ku i l o j c (bQ hz b (by simp)) y r s (len8 r s (t.trans C) U X)).mono ?_;intro p D q;exact⟨q.1,mW q b (t.trans C)⟩)
 have b:a.drew.cell? (A f 0)=some (.bool m)/\a.drew.cell? (A f 1)=some z/\a.drew.cell? (A g 0)=some (.bool n)/\a.drew.cell? (A g 1)=some B:=⟨E,F,H,J⟩;clear R T xs ys xw yw xt yt xl yl C hz U X G K E F H J;generalize gH a i (d+e)=ab at *
 go_enter func47,ntmps47;go_wp2_with fail;refine bW 20 (λu=>u.cell? (A f 0)=some (.bool m)/\u.cell? (A f 1)=some z/\u.cell? (A g 0)=some (.bool n)/\u.cell? (A g 1)=some B) 22 (by rfl) _ rfl (by kernel_rfl) λa=>?_;refine aZ 0 b a λa=>?_;refine aZ 1 b a λa=>?_;refine aZ 2 b a λa=>?_;refine aZ 3 b a λa=>?_;refine aZ 4 b a λa=>?_;refine aZ 5 b a λa=>?_;refine aZ 6 b a λa=>?_;refine aZ 7 b a λa=>?_;refine aZ 8 b a λa=>?_;refine aZ 9 b a λa=>?_;refine aZ 10 b a λa=>?_;refine aZ 11 b a λa=>?_;refine aZ 12 b a λa=>?_;refine aZ 13 b a λa=>?_;refine aZ 14 b a λa=>?_;refine aZ 15 b a λa=>?_;refine aZ 16 b a λa=>?_;refine jY 17 a λe d=>?_;(try simp only[sZ]);go_simp;refine Q.mono ?_;rintro p c ⟨l,o,j,rfl,y,r,s,t,s5,k⟩;have⟨k1,k2⟩:=M l o j c y r s t k;have v:=Zd k1;have O:=Zd k2;clear y r s t s5 k k1 k2 M Q b;go_wp2_with fail;refine d.out _ _ (λ_=>v) λa=>?_;clear d;(try simp only[sZ]);refine aZ 18 v a λa=>?_;refine aZ 19 v a λa=>?_;refine jY 20 a λe d=>?_;(try simp only[sZ]);go_simp;refine O.mono ?_;rintro p D ⟨rfl,q⟩;have HM:=Zd q;clear q v O;go_wp2_with fail;refine d.out _ _ (λb=>by cases b) λa=>?_;clear d;(try simp only[sZ]);refine bI _ _ _ _ (by rfl) ?_;refine wpAny_take (i:=21) (v:=?ad) rfl (by kernel_rfl) (by kernel_rfl) (by kernel_rfl) (λ_ _ _ b=>b) (Or.inl ⟨by rfl,?aa⟩) ?ac
 case aa=>(intro u;go_simp;try with_reducible rfl)
 (try simp only[sZ]);refine wm ?_;go_wp2_with fail;exact HM
def Ch (j g i:Nat)(d e:Int)(a:W)(hz:Struct a j)(Y:kD a g d)(Z:kD a i e)(U:-P 8<d-e)(X:d-e<P 8):Calls prog 86 #[.pointer (S j),.pointer (S g),.pointer (S i)] a (gH a j (d-e)):=by
 have⟨z,x,E,F,G,xs,xw,xt,xv,xl⟩:=fG Y;have⟨B,m,H,J,K,ys,yw,yt,yv,yl⟩:=fG Z;have R:mO (decide (d<0)) (val x)=d:=by rw[xv];exact tu d
 have T:mO (decide (e<0)) (val m)=e:=by rw[yv];exact tu e
 clear Y Z xv yv;generalize decide (d<0)=o at *
 generalize decide (e<0)=f at *
 have Q:=Zd<|adB o (!f) z B x m a.drew xs ys xw yw xt yt gO gO;have C:Hid (mO o (val x)+mO (!f) (val m)=d-e):=by unfold Hid;rw[R,show mO (!f) (val m)=-mO f (val m) by cases f<;>simp[mO],T];omega
 have M:=Zd (show ∀n p k c,Sl c p k->WF k->Top k->mO n (val k)=mO o (val x)+mO (!f) (val m)->a.drew.grownBy c none->
  (c.cell? (A g 0)=some (.bool o)/\c.cell? (A g 1)=some z/\c.cell? (A i 0)=some (.bool f)/\c.cell? (A i 1)=some B)/\Calls prog 96 #[.pointer (S j),.bool n,p] c (λq D=>q=.returned (.pointer (S j))/\gH a j (d-e) q D)from by
  intro n p k c y s t u l;have b:a.grownBy c none:=⟨l.os,l.tape,l.output,l.size,l.block⟩;refine⟨⟨by rw[fC b G];exact E,by rw[fC b G];exact F,by rw[fC b K];exact H,by rw[fC b K];exact J⟩,?_⟩;refine(ku j n p k c (bQ hz b (by simp)) y s t (len8 s t (u.trans C) U X)).mono ?_;intro q D r;exact⟨r.1,mW r b (u.trans C)⟩)
 have b:a.drew.cell? (A g 0)=some (.bool o)/\a.drew.cell? (A g 1)=some z/\a.drew.cell? (A i 0)=some (.bool f)/\a.drew.cell? (A i 1)=some B:=⟨E,F,H,J⟩;clear R T xs ys xw yw xt yt xl yl C hz U X G K E F H J;generalize gH a j (d-e)=ab at *
 go_enter func86,ntmps86;go_wp2_with fail;refine bW 21 (λv=>v.cell? (A g 0)=some (.bool o)/\v.cell? (A g 1)=some z/\v.cell? (A i 0)=some (.bool f)/\v.cell? (A i 1)=some B) 23 (by rfl) _ rfl (by kernel_rfl) λa=>?_;refine aZ 0 b a λa=>?_;refine aZ 1 b a λa=>?_;refine aZ 2 b a λa=>?_;refine aZ 3 b a λa=>?_;refine aZ 4 b a λa=>?_;refine aZ 5 b a λa=>?_;refine aZ 6 b a λa=>?_;refine aZ 7 b a λa=>?_;refine aZ 8 b a λa=>?_;refine aZ 9 b a λa=>?_;refine aZ 10 b a λa=>?_;refine aZ 11 b a λa=>?_;refine aZ 12 b a λa=>?_;refine aZ 13 b a λa=>?_;refine aZ 14 b a λa=>?_;refine aZ 15 b a λa=>?_;refine aZ 16 b a λa=>?_;refine aZ 17 b a λa=>?_;refine jY 18 a λe d=>?_;(try simp only[sZ]);go_simp;refine Q.mono ?_;rintro q c ⟨n,p,k,rfl,y,s,t,u,s5,l⟩;have⟨k1,k2⟩:=M n p k c y s t u l;have w:=Zd k1;have O:=Zd k2;clear y s t u s5 l k1 k2 M Q b;go_wp2_with fail;refine d.out _ _ (λ_=>w) λa=>?_;clear d;(try simp only[sZ]);refine aZ 19 w a λa=>?_;refine aZ 20 w a λa=>?_;refine jY 21 a λe d=>?_;(try simp only[sZ]);go_simp;refine O.mono ?_;rintro q D ⟨rfl,r⟩;have HM:=Zd r;clear r w O;go_wp2_with fail;refine d.out _ _ (λb=>by cases b) λa=>?_;clear d;(try simp only[sZ]);refine bI _ _ _ _ (by rfl) ?_;refine wpAny_take (i:=22) (v:=?ad) rfl (by kernel_rfl) (by kernel_rfl) (by kernel_rfl) (λ_ _ _ b=>b) (Or.inl ⟨by rfl,?aa⟩) ?ac
 case aa=>(intro v;go_simp;try with_reducible rfl)
 (try simp only[sZ]);refine wm ?_;go_wp2_with fail;exact HM
def abd (i g:Nat)(a:Int)(c:W)(J:Struct c i)(H:kD c g a)(F:-P 8 < -a)(G:-a<P 8):Calls prog 129 #[.pointer (S i),.pointer (S g)] c (gH c i (-a)):=by
 have⟨s,k,v,w,x,O,T,Q,R,Y⟩:=fG H;have E:mO (decide (a<0)) (val k)=a:=by rw[R];exact tu a
 clear H R;generalize decide (a<0)=d at *
 have D:=Zd<|K8 s k c.drew O T Q gO;have z:Hid (mO (!d) (val k)=-a):=by unfold Hid;rw[show mO (!d) (val k)=-mO d (val k) by cases d<;>simp[mO],E]
 have y:=Zd (show ∀l f e,Sl e l f->WF f->Top f->val f=val k->c.drew.grownBy e none->
  (e.cell? (A g 0)=some (.bool d)/\e.cell? (A g 1)=some s)/\Calls prog 96 #[.pointer (S i),.bool (!d),l] e (λm u=>m=.returned (.pointer (S i))/\gH c i (-a) m u)from by
  intro l f e q o p r j;have b:c.grownBy e none:=⟨j.os,j.tape,j.output,j.size,j.block⟩;have t:mO (!d) (val f)=-a:=by rw[r];exact z
  refine⟨⟨by rw[fC b x];exact v,by rw[fC b x];exact w⟩,?_⟩;refine(ku i (!d) l f e (bQ J b (by simp)) q o p (len8 o p t F G)).mono ?_;intro m u n;exact⟨n.1,mW n b t⟩)
 have b:c.drew.cell? (A g 0)=some (.bool d)/\c.drew.cell? (A g 1)=some s:=⟨v,w⟩;clear E O T Q Y z J F G x v w;generalize gH c i (-a)=aa at *
 go_enter func129,ntmps129;go_wp2_with fail;refine bW 11 (λt=>t.cell? (A g 0)=some (.bool d)/\t.cell? (A g 1)=some s) 13 (by rfl) _ rfl (by kernel_rfl) λa=>?_;refine aZ 0 b a λa=>?_;refine aZ 1 b a λa=>?_;refine aZ 2 b a λa=>?_;refine aZ 3 b a λa=>?_;refine aZ 4 b a λa=>?_;refine aZ 5 b a λa=>?_;refine aZ 6 b a λa=>?_;refine aZ 7 b a λa=>?_;refine aZ 8 b a λa=>?_;refine aZ 9 b a λa=>?_;refine jY 10 a λd c=>?_;(try simp only[sZ]);go_simp;refine D.mono ?_;rintro m e ⟨l,f,rfl,q,o,p,r,X,j⟩;have⟨K,M⟩:=y l f e q o p r j;have B:=Zd K;have C:=Zd M;clear q o p r X j K M y D b;go_wp2_with fail;refine c.out _ _ (λ_=>B) λa=>?_;clear c;(try simp only[sZ]);refine jY 11 a λd c=>?_;(try simp only[sZ]);go_simp;refine C.mono ?_;rintro m u ⟨rfl,n⟩;have U:=Zd n;clear n B C;go_wp2_with fail;refine c.out _ _ (λb=>by cases b) λa=>?_;clear c;(try simp only[sZ]);refine bI _ _ _ _ (by rfl) ?_;refine wpAny_take (i:=12) (v:=?ac) rfl (by kernel_rfl) (by kernel_rfl) (by kernel_rfl) (λ_ _ _ b=>b) (Or.inl ⟨by rfl,?Z⟩) ?ab
 case Z=>(intro t;go_simp;try with_reducible rfl)
 (try simp only[sZ]);refine wm ?_;go_wp2_with fail;exact U
def abe (g f:Nat)(a:Int)(b:W)(J:Struct b g)(H:kD b f a)(F:-P 8<a)(G:a<P 8):Calls prog 207 #[.pointer (S g),.pointer (S f)] b (gH b g (a)):=by
 have⟨s,p,v,w,x,O,T,Q,R,Y⟩:=fG H;have E:mO (decide (a<0)) (val p)=a:=by rw[R];exact tu a
 clear H R;generalize decide (a<0)=j at *
 have D:=Zd<|K8 s p b.drew O T Q gO;have z:Hid (mO j (val p)=a):=by unfold Hid;exact E
 have y:=Zd (show ∀k e d,Sl d k e->WF e->Top e->val e=val p->b.drew.grownBy d none->
  (d.cell? (A f 0)=some (.bool j)/\d.cell? (A f 1)=some s)/\Calls prog 96 #[.pointer (S g),.bool j,k] d (λl u=>l=.returned (.pointer (S g))/\gH b g (a) l u)from by
  intro k e d q n o r i;have c:b.grownBy d none:=⟨i.os,i.tape,i.output,i.size,i.block⟩;have t:mO j (val e)=a:=by rw[r];exact z
  refine⟨⟨by rw[fC c x];exact v,by rw[fC c x];exact w⟩,?_⟩;refine(ku g j k e d (bQ J c (by simp)) q n o (len8 n o t F G)).mono ?_;intro l u m;exact⟨m.1,mW m c t⟩)
 have c:b.drew.cell? (A f 0)=some (.bool j)/\b.drew.cell? (A f 1)=some s:=⟨v,w⟩;clear E O T Q Y z J F G x v w;generalize gH b g (a)=aa at *
 go_enter func207,ntmps207;go_wp2_with fail;refine bW 10 (λt=>t.cell? (A f 0)=some (.bool j)/\t.cell? (A f 1)=some s) 12 (by rfl) _ rfl (by kernel_rfl) λa=>?_;refine aZ 0 c a λa=>?_;refine aZ 1 c a λa=>?_;refine aZ 2 c a λa=>?_;refine aZ 3 c a λa=>?_;refine aZ 4 c a λa=>?_;refine aZ 5 c a λa=>?_;refine aZ 6 c a λa=>?_;refine aZ 7 c a λa=>?_;refine aZ 8 c a λa=>?_;refine jY 9 a λf b=>?_;(try simp only[sZ]);go_simp;refine D.mono ?_;rintro l d ⟨k,e,rfl,q,n,o,r,X,i⟩;have⟨K,M⟩:=y k e d q n o r i;have B:=Zd K;have C:=Zd M;clear q n o r X i K M y D c;go_wp2_with fail;refine b.out _ _ (λ_=>B) λa=>?_;clear b;(try simp only[sZ]);refine jY 10 a λf b=>?_;(try simp only[sZ]);go_simp;refine C.mono ?_;rintro l u ⟨rfl,m⟩;have U:=Zd m;clear m B C;go_wp2_with fail;refine b.out _ _ (λc=>by cases c) λa=>?_;clear b;(try simp only[sZ]);refine bI _ _ _ _ (by rfl) ?_;refine wpAny_take (i:=11) (v:=?ac) rfl (by kernel_rfl) (by kernel_rfl) (by kernel_rfl) (λ_ _ _ c=>c) (Or.inl ⟨by rfl,?Z⟩) ?ab
 case Z=>(intro t;go_simp;try with_reducible rfl)
 (try simp only[sZ]);refine wm ?_;go_wp2_with fail;exact U
def K9 (k j:Nat)(c:Int)(a b:Nat)(hq:a<=8)(Y:b<32)(e:W)(M:Struct e k)(K:kD e j c)(H:-P 8<c*2^b*P a)(J:c*2^b*P a<P 8):Calls prog 52 #[.pointer (S k),.pointer (S j),.int .u64 (32*a+b)] e (gH e k (c*2^b*P a)):=by
 have⟨u,m,x,y,z,R,U,xt,T,xl⟩:=fG K;have G:mO (decide (c<0)) (val m)=c:=by rw[T];exact tu c
 clear K T;generalize decide (c<0)=f at *
 have F:=Zd<|Xj u m a b e.drew R U gO gO Y;have C:Hid (mO f (val m*2^b*P a)=c*2^b*P a):=by unfold Hid;rw[show mO f (val m*2^b*P a)=mO f (val m)*2^b*P a by cases f<;>simp[mO,Int.neg_mul],G]
 have B:=Zd (show ∀n i g,Sl g n i->WF i->Top i->val i=val m*2^b*P a->e.drew.grownBy g none->
  (g.cell? (A j 0)=some (.bool f)/\g.cell? (A j 1)=some u)/\Calls prog 96 #[.pointer (S k),.bool f,n] g (λo w=>o=.returned (.pointer (S k))/\gH e k (c*2^b*P a) o w)from by
  intro n i g s q r t l;have d:e.grownBy g none:=⟨l.os,l.tape,l.output,l.size,l.block⟩;have v:mO f (val i)=c*2^b*P a:=by rw[t];exact C
  refine⟨⟨by rw[fC d z];exact x,by rw[fC d z];exact y⟩,?_⟩;refine(ku k f n i g (bQ M d (by simp)) s q r (len8 q r v H J)).mono ?_;intro o w p;exact⟨p.1,mW p d v⟩)
 have d:e.drew.cell? (A j 0)=some (.bool f)/\e.drew.cell? (A j 1)=some u:=⟨x,y⟩;clear G R U xt xl C M H J z x y;generalize gH e k (c*2^b*P a)=ab at *
 go_enter func52,ntmps52;go_wp2_with fail;refine bW 11 (λv=>v.cell? (A j 0)=some (.bool f)/\v.cell? (A j 1)=some u) 13 (by rfl) _ rfl (by kernel_rfl) λa=>?_;refine aZ 0 d a λa=>?_;refine aZ 1 d a λa=>?_;refine aZ 2 d a λa=>?_;refine aZ 3 d a λa=>?_;refine aZ 4 d a λa=>?_;refine aZ 5 d a λa=>?_;refine aZ 6 d a λa=>?_;refine aZ 7 d a λa=>?_;refine aZ 8 d a λa=>?_;refine aZ 9 d a λa=>?_;refine jY 10 a λc b=>?_;(try simp only[sZ]);go_simp;refine F.mono ?_;rintro o g ⟨n,i,rfl,s,q,r,t,Z,l⟩;have⟨O,Q⟩:=B n i g s q r t l;have D:=Zd O;have E:=Zd Q;clear s q r t Z l O Q B F d;go_wp2_with fail;refine b.out _ _ (λ_=>D) λa=>?_;clear b;(try simp only[sZ]);refine jY 11 a λc b=>?_;(try simp only[sZ]);go_simp;refine E.mono ?_;rintro o w ⟨rfl,p⟩;have X:=Zd p;clear p D E;go_wp2_with fail;refine b.out _ _ (λc=>by cases c) λa=>?_;clear b;(try simp only[sZ]);refine bI _ _ _ _ (by rfl) ?_;refine wpAny_take (i:=12) (v:=?ad) rfl (by kernel_rfl) (by kernel_rfl) (by kernel_rfl) (λ_ _ _ c=>c) (Or.inl ⟨by rfl,?aa⟩) ?ac
 case aa=>(intro v;go_simp;try with_reducible rfl)
 (try simp only[sZ]);refine wm ?_;go_wp2_with fail;exact X
def abf (d c:Int)(a b:L)(g:WF a)(h:WF b)(e:val a=d.natAbs)(f:val b=c.natAbs):gI d c=if d<0 then(if c<0 then gI (val b) (val a)else -1)else(if c<0 then 1 else gI (val a) (val b)):=by
 unfold gI;rw[e,f]
 repeat' split
 all_goals omega
def ahb (a b:Int):-gI a b=gI b a:=by unfold gI;repeat' split;all_goals omega
def ajK (a b:Int):-1<=gI a b/\gI a b<=1:=by unfold gI;repeat' split;all_goals omega
def yc (k p:Nat)(m i:Int)(b:W)(g:kD b k m)(y:kD b p i):Calls prog 130 #[.pointer (S k),.pointer (S p)] b (xY b (I (gI m i))):=by
 have⟨r,e,z,Q,R,B,v,C,D,K⟩:=fG g;have⟨s,f,t,T,U,E,w,F,G,M⟩:=fG y;clear g y;rw[abf m i e f v w D G];have x:=Zs (∀c,Calls prog 131 #[r,s] (b.drewN c) (λq g=>q=.returned (I (gI (val e) (val f)))/\∃a,g=b.drewN a)) (λc=>(wX r s e f (b.drewN c) (jQ B (dK b c none)) (jQ E (dK b c none)) v w C F gO gO).mono λq g d=>⟨d.1,by have⟨a,H⟩:=d.2;exact⟨c+a,by rw[H,World.drewN_drewN]⟩⟩);have⟨O,P⟩:=ajK (val e) (val f);have o:=Zd<|ahb (val e) (val f);clear B E v w C F D G K M;by_cases l:m<0
 .rw[Q9 l];have n:decide (m<0)=true:=KN l;rw[n]at z;clear n l;by_cases c:i<0
  .rw[Q9 c];have d:decide (i<0)=true:=KN c;rw[d]at t;clear d c;have j:=Zs (∀a,xY b (I (gI (val f) (val e))) (.returned (I (-gI (val e) (val f)))) (b.drewN a)) (λa=>⟨by rw[o.out],a,rfl⟩);generalize xY b (I (gI (val f) (val e)))=u at *
   clear o;go_enter func130,ntmps130;go_wp2_with fail;go_quiet (fail);go_wp2_with fail;go_region_held3 (λg=>g.cell? (A k 0)=some (.bool true)/\g.cell? (A k 1)=some r/\g.cell? (A p 1)=some s) (simp[*])
    (first|(go_at_call 131;refine(x _).mono ?_;rintro q J ⟨rfl,a,rfl⟩))
   go_wp2_with fail;exact j _
  rw[X9 c];have d:decide (i<0)=false:=KF c;rw[d]at t;clear d c o;have j:=Zs (∀a,xY b (I (-1)) (.returned (I (-1))) (b.drewN a)) (λa=>⟨rfl,a,rfl⟩);generalize xY b (I (-1))=u at *
  go_enter func130,ntmps130;go_wp2_with fail;go_quiet (fail);go_wp2_with fail;exact j _
 rw[X9 l];have n:decide (m<0)=false:=KF l;rw[n]at z;clear n l o;by_cases c:i<0
 .rw[Q9 c];have d:decide (i<0)=true:=KN c;rw[d]at t;clear d c;have j:=Zs (∀a,xY b (I 1) (.returned (I 1)) (b.drewN a)) (λa=>⟨rfl,a,rfl⟩);generalize xY b (I 1)=u at *
  go_enter func130,ntmps130;go_wp2_with fail;go_quiet (fail);go_wp2_with fail;exact j _
 rw[X9 c];have d:decide (i<0)=false:=KF c;rw[d]at t;clear d c;have j:=Zs (∀a,xY b (I (gI (val e) (val f))) (.returned (I (gI (val e) (val f)))) (b.drewN a)) (λa=>⟨rfl,a,rfl⟩);generalize xY b (I (gI (val e) (val f)))=u at *
 go_enter func130,ntmps130;go_wp2_with fail;go_quiet (fail);go_wp2_with fail;go_region_held3 (λg=>g.cell? (A k 0)=some (.bool false)/\g.cell? (A k 1)=some r/\g.cell? (A p 1)=some s) (simp[*])
  (first|(go_at_call 131;refine(x _).mono ?_;rintro q J ⟨rfl,a,rfl⟩))
 go_wp2_with fail;exact j _
def lQ (c:W)(b:V)(a:Ending)(d:W):Prop:=a=.returned b/\d=c
def K_ (b a:Int)(d:0<=b)(g:b<4294967296)(f:0<=a)(h:a<4294967296):bits .or .u64 b (a*4294967296)=b+a*4294967296:=by rw[u64_or b (a*4294967296) d gO gO gO];obtain⟨b,rfl⟩:=Int.eq_ofNat_of_zero_le d;obtain⟨a,rfl⟩:=Int.eq_ofNat_of_zero_le f;have e:((a:Int)*4294967296).toNat=a*4294967296:=gO;rw[e,Int.toNat_natCast];have c:=Nat.shiftLeft_add_eq_or_of_lt (show b<2^32 by omega) a;rw[Nat.shiftLeft_eq]at c;rw[Nat.or_comm,show a*4294967296=a*2^32 by rfl,<-c];omega
def Xx (a:L)(b:a.length=2):val a=aB a 0+aB a 1*4294967296:=by unfold val;rw[b];show 0+aB a 0*P 0+aB a 1*P 1=_;have:P 1=4294967296:=rfl;rw[this,yZ];omega
def DR (a:L)(b:a.length=1):val a=aB a 0:=by unfold val;rw[b];show 0+aB a 0*P 0=_;rw[yZ];omega
def ajL (m:Nat)(i:Int)(b:W)(t:kD b m i)(z:-18446744073709551616<i)(B:i<18446744073709551616):Calls prog 104 #[.pointer (S m)] b (lQ b (.int .u64 i.natAbs)):=by
 have⟨E,a,K,k,M,u,j,v,o,O⟩:=fG t;have C:=Ey a j v 2 (by rw[P2,o];omega);obtain⟨w,x,rfl,n⟩:=jm u;have s:a.length=0\/a.length=1\/a.length=2:=gO;rw[<-o];rcases s with c|c|c
 .have d:val a=0:=by rw[List.length_eq_zero_iff.1 c];rfl
  rw[d];rw[c]at k;have e:=Zs (lQ b (.int .u64 0) (.returned (.int .u64 0)) b) (⟨rfl,rfl⟩);generalize lQ b (.int .u64 0)=l at *
  go_enter func104,ntmps104;go_wp2_with fail;exact e
 .obtain⟨p,rfl,r,f⟩:=n gO;have q:=f 0 gO;have d:=j 0;rw[DR a c];rw[c]at k;have e:=Zs (lQ b (.int .u64 (aB a 0)) (.returned (.int .u64 (aB a 0))) b) (⟨rfl,rfl⟩);generalize lQ b (.int .u64 (aB a 0))=l at *
  have⟨d,g⟩:=d;go_enter func104,ntmps104;go_wp2_with fail;exact e
 obtain⟨p,rfl,r,f⟩:=n gO;have q:=f 0 gO;have y:=f 1 gO;have d:=j 0;have g:=j 1;rw[Xx a c];rw[c]at k;have D:=K_ (aB a 0) (aB a 1) d.1 d.2 g.1 g.2;have e:=Zs (lQ b (.int .u64 (aB a 0+aB a 1*4294967296)) (.returned (.int .u64 (aB a 0+aB a 1*4294967296))) b) (⟨rfl,rfl⟩);generalize lQ b (.int .u64 (aB a 0+aB a 1*4294967296))=l at *
 have⟨F,G⟩:=d;have⟨H,J⟩:=g;go_enter func104,ntmps104;go_wp2_with fail;exact e
def oC (f:Nat)(a:Int)(b:W)(i:kD b f a)(n:-9223372036854775808<=a)(o:a<=9223372036854775807):Calls prog 53 #[.pointer (S f)] b (lQ b (I a)):=by
 obtain⟨r,q,l,-⟩:=fG i;have d:=Zd<|ajL f a b i gO gO;clear i;by_cases g:a<0
 .rw[KN g]at l;have c:wrap64 (-wrap64 (a.natAbs:Int))=a:=by unfold wrap64;omega
  have e:=Zs (lQ b (I a) (.returned (I (wrap64 (-wrap64 (a.natAbs:Int))))) b) (⟨by rw[c],rfl⟩);generalize lQ b (I a)=m at *
  clear c;obtain⟨k,j⟩:∃k:Int,k=(a.natAbs:Int):=⟨_,rfl⟩;rw[<-j]at d e;clear j n o g;go_enter func53,ntmps53;go_wp2_with fail;refine d.mono ?_;rintro c p ⟨rfl,rfl⟩;clear d;go_wp2_with fail;exact e
 rw[KF g]at l;have c:(a.natAbs:Int)=a:=gO;rw[c]at d;have e:=Zs (lQ b (I a) (.returned (I a)) b) (⟨rfl,rfl⟩);generalize lQ b (I a)=m at *
 clear c;go_enter func53,ntmps53;go_wp2_with fail;refine d.mono ?_;rintro c p ⟨rfl,rfl⟩;clear d;go_wp2_with fail;exact e
def ahc (j:Nat)(c:Int)(a:W)(m:kD a j c):Calls prog 87 #[.pointer (S j)] a (lQ a (I (if c=0 then 0 else if c<0 then -1 else 1))):=by
 have⟨t,f,l,u,v,n,p,o,g,w⟩:=fG m;obtain⟨q,r,rfl,s⟩:=jm n;by_cases d:c=0
 .have k:f=[]:=val_zero f p o (by rw[g,d];rfl);rw[Q9 d];have b:=Zs (lQ a (I 0) (.returned (I 0)) a) (⟨rfl,rfl⟩);generalize lQ a (I 0)=i at *
  subst k;go_enter func87,ntmps87;go_wp2_with fail;exact b
 have k:((f.length:Int)==0)=false:=by
  refine beq_eq_false_iff_ne.2 (λe=>d ?_);have:f=[]:=List.length_eq_zero_iff.1 gO;rw[this,nA]at g;exact Int.natAbs_eq_zero.1 (Int.ofNat.inj g.symm)
 rw[X9 d];by_cases e:c<0
 .rw[Q9 e];rw[KN e]at l;have b:=Zs (lQ a (I (-1)) (.returned (I (-1))) a) (⟨rfl,rfl⟩);generalize lQ a (I (-1))=i at *
  go_enter func87,ntmps87;go_wp2_with fail;exact b
 rw[X9 e];rw[KF e]at l;have b:=Zs (lQ a (I 1) (.returned (I 1)) a) (⟨rfl,rfl⟩);generalize lQ a (I 1)=i at *
 go_enter func87,ntmps87;go_wp2_with fail;exact b
def aeR (b:L)(f:WF b)(a:Nat):∃V:Int,0<=V/\val b=dJ b a+P a*V:=by
 by_cases g:b.length<=a
 .exact⟨0,gO,by rw[nu b a g];omega⟩
 have i:∀c,∃V:Int,0<=V/\dJ b (a+c)=dJ b a+P a*V:=by
  intro c
  induction c with
  | zero=>exact⟨0,gO,by simp⟩
  | succ c h=>
   have⟨V,e,d⟩:=h;refine⟨V+aB b (a+c)*P c,?_,?_⟩
   .have:=ZA (f (a+c)).1 (VR (oP c));omega
   rw[<-Nat.add_assoc,dJ,d,V4,Int.mul_add,Int.mul_left_comm (P a)];omega
 have⟨V,e,d⟩:=i (b.length-a);refine⟨V,e,?_⟩;rw[show a+(b.length-a)=b.length by omega]at d;exact d
def upper (b:L)(a:Nat):Int:=val b / P a
def vw (b:L)(c:WF b)(a:Nat):val b=dJ b a+P a*upper b a/\0<=upper b a:=by
 have⟨V,g,d⟩:=aeR b c a;have⟨e,f⟩:=rG b c a;have:upper b a=V:=by
  unfold upper;rw[d,Int.add_mul_ediv_left _ _ (by have:=oP a;omega),Int.ediv_eq_zero_of_lt e f];omega
 rw[this];exact⟨d,g⟩
def vC (b:L)(c:WF b)(a:Nat):upper b a=aB b a+4294967296*upper b (a+1):=by
 have⟨f,_⟩:=vw b c a;have⟨e,_⟩:=vw b c (a+1);rw[dJ,xK]at e;have d:P a*upper b a=P a*(aB b a+4294967296*upper b (a+1)):=by
  rw[Int.mul_add,<-FP,V7 (P a) (aB b a)];omega
 exact Int.eq_of_mul_eq_mul_left (by have:=oP a;omega) d
def aeS (c:L)(a b:Nat):upper c a / P b=upper c (a+b):=by unfold upper;rw[V4,WR (VR (oP a))]
def La (a:L)(b:Nat)(c:WF a)(d:a.length<=b):upper a b=0:=by have:=su a c;have:=xL _ _ d;unfold upper;exact Int.ediv_eq_zero_of_lt gO gO
def aeT (c b d:Int)(a:Nat)(g:a<32):(c+4294967296*(b+4294967296*d)) / 2^a % 4294967296=(c+b*4294967296) / 2^a % 4294967296:=by
 have e:(4294967296:Int)=2^a*2^(32-a):=by rw[<-Int.pow_add,show a+(32-a)=32 by omega];rfl
 have hp:(2:Int)^a≠0:=by have:(0:Int)<2^a:=Int.pow_pos (by decide);omega
 have f:c+4294967296*(b+4294967296*d)=(c+b*4294967296)+2^a*(2^(32-a)*(4294967296*d)):=by
  rw[<-FP (2^a),<-e,Int.mul_add,V7 b];omega
 rw[f,Int.add_mul_ediv_left _ _ hp,<-FP,V7 (2^(32-a)),FP,Int.add_mul_emod_self_left]
def DU (c:L)(d e b:Nat)(a:L):Prop:=
 a.length=c.length-d/\WF a/\dJ a b=upper c d / 2^e % P b/\∀c,b<=c->aB a c=0
def Xy (a:L)(b c:Nat):DU a b c 0 (List.replicate (a.length-b) 0):=
 ⟨by simp,wC _,by rw[yZ,Int.emod_one];rfl,λa _=>mQ _ _⟩
def Hr (b:L)(c d a:Nat)(g:L)(l:WF b)(y:d<32)(H:a<b.length-c)(u:DU b c d a g)(e:Int)(m:e=(aB b (a+c)+aB b (a+c+1)*4294967296) / 2^d % 4294967296):DU b c d (a+1) (g.set a e):=by
 have⟨F,v,w,x⟩:=u;have j:∀f,aB (g.set a e) f=if f=a then e else aB g f:=λf=>mP _ _ _ _ gO;have n:0<=e/\e<4294967296:=by rw[m];exact⟨FT _ (by decide),H7 _ (by decide)⟩
 refine⟨by simp;omega,xM _ _ _ v gO n.1 n.2,?_,λh i=>by rw[j,nO];exact x h gO⟩;rw[dJ,j,Q9 rfl,jT _ g a (λf f=>by rw[j,nO]),w,xK];have k:=vC b l (c+a);have q:=vC b l (c+a+1);rw[q]at k;have hp:(0:Int)<=2^d:=VR (Int.pow_pos (by decide));have r:upper b c / 2^d / P a % 4294967296=e:=by
  rw[WR hp,V7,<-WR (VR (oP a)),aeS,k,aeT _ _ _ d y,m,Nat.add_comm c a]
 have s:upper b c / 2^d % (P a*4294967296)=upper b c / 2^d % P a+P a*(upper b c / 2^d / P a % 4294967296):=by
  have B:=Int.emod_add_mul_ediv (upper b c / 2^d) (P a);have o:=Int.emod_add_mul_ediv (upper b c / 2^d / P a) 4294967296;have C:=FT (upper b c / 2^d) (b:=P a) (by have:=oP a;omega);have D:=H7 (upper b c / 2^d) (oP a);generalize upper b c / 2^d=h at *
  generalize h % P a=z at *
  generalize G:h / P a=f at *
  have p:=FT f (b:=4294967296) (by decide);have E:=H7 f (b:=4294967296) (by decide);generalize f % 4294967296=i at *
  have t:h=(z+P a*i)+(P a*4294967296)*(f / 4294967296):=by
   rw[FP];have:P a*f=P a*i+P a*(4294967296*(f / 4294967296)):=by rw[<-Int.mul_add,o]
   omega
  rw[t,Int.add_mul_emod_self_left];refine Int.emod_eq_of_lt ?_ ?_
  .have:=ZA (VR (oP a)) p;omega
  have:P a*i<=P a*4294967295:=Int.mul_le_mul_of_nonneg_left gO (VR (oP a));omega
 rw[s,r,V7 e]
def aeU (b:L)(a d:Nat)(c:L)(e:WF b)(o:a<=b.length)(g:DU b a d (b.length-a) c):WF c/\val c=val b / (P a*2^d)/\c.length=b.length-a:=by
 have⟨h,i,j,l⟩:=g;refine⟨i,?_,h⟩;rw[<-nu c (b.length-a) gO,j];have p:upper b a<P (b.length-a):=by
  have m:=vw b e a;have k:=(su b e).2;have n:=(rG b e a).1;have f:P b.length=P a*P (b.length-a):=by rw[<-V4,show a+(b.length-a)=b.length by omega]
  rw[f]at k;exact Int.lt_of_mul_lt_mul_left (a:=P a) gO (VR (oP a))
 have hp:(1:Int)<=2^d:=by have:(0:Int)<2^d:=Int.pow_pos (by decide);omega
 have f:=(vw b e a).2;have k:upper b a / 2^d<=upper b a:=Int.ediv_le_self _ f;rw[Int.emod_eq_of_lt (F7 f gO) gO];unfold upper;rw[WR (VR (oP a))]
def Q_ (p:V)(b:L)(a d:Nat)(f:W)(l:Sl f p b)(i:WF b)(R:b.length<=40)(U:a<=100)(o:d<32):Calls prog 101 #[p,.int .u64 (32*a+d)] f (iU f (val b / (P a*2^d)) b.length):=by
 obtain⟨H,K,rfl,z⟩:=jm l;have X:(32*(a:Int)+d) / 32=a:=gO;have Y:(32*(a:Int)+d) % 32=d:=gO;by_cases y:b.length<=a
 .have g:=Zd (show iU f (val b / (P a*2^d)) b.length (.returned N) f from⟨_,[],rfl,sI _,vM,rA,by
   have c:=La b a i y;unfold upper at c;rw[<-WR (VR (oP a)),c];simp[nA],by simp,aM _ _⟩)
  have t:decide ((b.length:Int)<=a)=true:=KN gO;generalize iU f _ _=r at *
  go_enter func101,ntmps101;go_wp2_with fail;exact g
 have t:decide ((b.length:Int)<=a)=false:=KF gO;obtain⟨J,rfl,O,s⟩:=z gO;have m:=Zd s;have w:=λc=>uF ((b.length:Int)-a) gO gO c;have x:((b.length:Int)-a).toNat=b.length-a:=gO;rw[x]at w;have T:((b.length-a:Nat):Int)=(b.length:Int)-a:=gO;go_enter func101,ntmps101;go_wp2_with fail;go_loopw [8] (λj wr=>∃(c:Nat) (e:L),j=I c/\c<=b.length-a/\Hid (DU b a d c e)/\wr=f.alloc (.cells (arr e) 160)) (λj _=>b.length-(intOf j).toNat)
 case atStart=>exact⟨0,_,rfl,QN _,Xy b a d,rfl⟩
 case round=>
  obtain⟨c,e,rfl,Q,j,rfl⟩:=hrel;have v:Hid (e.length=b.length-a):=j.1;by_cases n:c<b.length-a
  .have E:=m (c+a) gO;have⟨u,B⟩:=i (c+a);have G:=oz e c (by rw[v.out];omega);by_cases q:c+a+1<b.length
   .have F:=m (c+a+1) q;have⟨C,D⟩:=i (c+a+1);have M:=K_ (aB b (c+a)) (aB b (c+a+1)) u B C D;have k:=Zd<|Hr b a d c e i o n j _ rfl;go_wp2;go_roundw
    case rel=>exact⟨c+1,_,by go_num,gO,k,by rw[mG]⟩
    case measure=>simp[intOf];omega
   have k:=Zd<|Hr b a d c e i o n j (aB b (c+a) / 2^d % 4294967296) (by rw[dI b (c+a+1) gO];simp);go_wp2;go_roundw
   case rel=>exact⟨c+1,_,by go_num,gO,k,by rw[mG]⟩
   case measure=>simp[intOf];omega
  have u:c=b.length-a:=gO;rw[u]at j;have g:=Zd<|aeU b a d e i gO j;have l:=Zd<|vR f e (b.length-a) g.2.2;go_wp2_with fail;refine(qw _ e _ l g.1 (by rw[g.out.2.2];omega)).mono ?_;rintro M Z ⟨k,B,rfl,C,D,E,F,G,rfl⟩;have q:=Zs (iU f (val b / (P a*2^d)) b.length (.returned k) _) (⟨k,B,rfl,C,D,E,F.trans g.2.1,by rw[g.out.2.2]at G;omega,aj _ _ _⟩);generalize iU f (val b / (P a*2^d)) b.length=r at *
  go_wp2_with fail;exact q
def Xz (a b:Int):Int:=if b < -a then -a else if a-1<b then a-1 else b
def XC (a b:Int):Bool:=decide (b < -a)||decide (a-1<b)
def fP (c:W)(b:V)(a:Ending)(d:W):Prop:=a=.returned b/\c.grownBy d none
def alg (a:Nat)(e:a<32):1<=(2:Int)^a/\(2:Int)^a<=2147483648:=by
 have c:(2:Nat)^a<=2^31:=WM gO gO;have d:1<=(2:Nat)^a:=Nat.one_le_two_pow;have b:((2^a:Nat):Int)=(2:Int)^a:=by simp
 omega
def uH:18446744073709551616<P 8:=by rw[P8];decide
def anr (c d:Nat)(a:Nat)(f:a<32)(b:W)(h:Struct b c)(g:kD b d 1):Calls prog 52 #[.pointer (S c),.pointer (S d),.int .u64 a] b (gH b c (2^a)):=by
 have hp:=alg a f;have i:=uH;have e:(1:Int)*2^a*P 0=2^a:=by rw[yZ];omega
 have:=K9 c d 1 0 a gO f b h g (by rw[e];omega) (by rw[e];omega);rw[e,show(32*((0:Nat):Int)+(a:Int))=a by omega]at this;exact this
def lS (a:kD w n i):n<w.heap.size:=by have⟨d,c,b,_⟩:=a;exact aO b
def dR (a:kD w n i)(e:w.grownBy w' (some b))(d:Struct w b)(c:n≠b):kD w' n i:=
 Xi a e (λa=>c (by cases a;rfl)) (λc a=>by cases a;exact d)
def ru (b:kD w n i)(a:Nat):kD (w.drewN a) n i:=bP b (dK w a none)
def ahd (o:Nat)(a:Int)(c:Nat)(J:c<32)(b:W)(u:kD b o a):Calls prog 95 #[.pointer (S o),.int .u64 (c+1)] b (fP b (.tuple #[.int .i64 (Xz (2^c) a),.bool (XC (2^c) a)])):=by
 have⟨p1,p2⟩:=alg c J;have h8:=uH;have ai:=lS u;have Y:=Zd λe d b p u=>anr e d c J b p u;have l:=Zs (Xz (2^c) a=(if a < -2^c then -2^c else if 2^c-1<a then 2^c-1 else a)/\XC (2^c) a=(decide (a < -2^c)||decide (2^c-1<a))) (⟨rfl,rfl⟩);generalize Xz (2^c) a=m at *
 generalize XC (2^c) a=n at *
 generalize (2:Int)^c=d at *
 go_enter func95,ntmps95;go_wp2_with fail;refine(kN 1 _ gO gO).mono ?_;rintro i w1 ⟨b1,rfl,af,i1,y⟩;have M:=bQ (dW b) y (by simp);have L:=Zd<|Y b.heap.size b1 w1 M i1;have ac:=bP (bP u (aj b iW none)) y;have R:=Zd<|ay (aj b iW none) y;go_wp2_with fail;refine L.mono ?_;rintro i f ⟨rfl,D,G⟩;have O:=dR ac G M gO;have T:=Zd<|aG R G (Q6 _);have ah:=lS D;have N:=Zd<|abd f.heap.size b.heap.size d (f.alloc iW) (dW f) (bP D (aj f iW none)) gO gO;go_wp2_with fail;refine N.mono ?_;rintro i w3 ⟨rfl,i3,z⟩;have aa:=dR (bP D (aj f iW none)) z (dW f) gO;have ad:=dR (bP O (aj f iW none)) z (dW f) (by have:=lS O;omega);have U:=Zd<|aG (ay T (aj f iW none)) z gO;go_wp2_with fail;refine(kN 1 _ gO gO).mono ?_;rintro i w4 ⟨b4,rfl,ag,i4,r⟩;have s:=bP aa r;have ae:=bP ad r;have ab:=bP i3 r;have X:=Zd<|ay U r;have Z:=Zd<|Ch b.heap.size b.heap.size b4 d 1 w4 (dA s) s i4 gO gO;go_wp2_with fail;refine Z.mono ?_;rintro i g ⟨rfl,H,B⟩;have E:=dR ae B (dA s) gO;have K:=dR ab B (dA s) gO;have v:=Zd<|aG X B (Q6 _);have Q:=Zd<|yc o f.heap.size a (-d) g E K;go_wp2_with fail;refine Q.mono ?_;rintro i w6 ⟨rfl,e,rfl⟩;by_cases t:a < -d
 .have w:gI a (-d)=-1:=by unfold gI;rw[Q9 t]
  rw[w];have I:=Zd<|oC f.heap.size (-d) (g.drewN e) (ru K e) gO gO;have k:=Zs (fP b (.tuple #[.int .i64 m,.bool n]) (.returned (.tuple #[.int .i64 (-d),.bool true])) (g.drewN e)) (⟨by rw[l.out.1,l.out.2,Q9 t,KN t];rfl,ay v (dK g e none)⟩);generalize fP b (.tuple #[.int .i64 m,.bool n])=F at *
  go_wp2_with fail;refine I.mono ?_;rintro i w7 ⟨rfl,rfl⟩;go_wp2_with fail;exact k
 have w:0<=gI a (-d):=by unfold gI;rw[X9 t];split<;>omega
 have P:=Zd<|yc o b.heap.size a (d-1) (g.drewN e) (ru E e) (ru H e);obtain⟨q,p⟩:∃q:Int,Hid (q=gI a (-d)):=⟨_,rfl⟩;rw[<-p.out]at w ⊢;go_wp2_with fail;refine P.mono ?_;rintro i w7 ⟨rfl,j,rfl⟩;by_cases C:d-1<a
 .have x:gI a (d-1)=1:=by unfold gI;rw[nO,Q9 C]
  rw[x];have I:=Zd<|oC b.heap.size (d-1) ((g.drewN e).drewN j) (ru (ru H e) j) gO gO;have k:=Zs (fP b (.tuple #[.int .i64 m,.bool n]) (.returned (.tuple #[.int .i64 (d-1),.bool true])) ((g.drewN e).drewN j)) (⟨by rw[l.out.1,l.out.2,nO,Q9 C,KN C];simp,ay v (ay (dK g e none) (dK _ j none))⟩);generalize fP b (.tuple #[.int .i64 m,.bool n])=F at *
  rw[World.drewN_drewN]at I k;go_wp2_with fail;refine I.mono ?_;rintro i w8 ⟨rfl,rfl⟩;go_wp2_with fail;exact k
 have x:gI a (d-1)<=0:=by unfold gI;split<;>(try split)<;>omega
 obtain⟨q,p⟩:∃q:Int,Hid (q=gI a (d-1)):=⟨_,rfl⟩;rw[<-p.out]at x ⊢;have I:=Zd<|oC o a ((g.drewN e).drewN j) (ru (ru E e) j) gO gO;have k:=Zs (fP b (.tuple #[.int .i64 m,.bool n]) (.returned (.tuple #[.int .i64 a,.bool false])) ((g.drewN e).drewN j)) (⟨by rw[l.out.1,l.out.2,nO,nO,KF gO,KF gO];rfl,ay v (ay (dK g e none) (dK _ j none))⟩);generalize fP b (.tuple #[.int .i64 m,.bool n])=F at *
 rw[World.drewN_drewN]at I k;go_wp2_with fail;refine I.mono ?_;rintro i w8 ⟨rfl,rfl⟩;go_wp2_with fail;exact k
def ahe (a:Int):Xz (2^15) a=fA a/\XC (2^15) a=o16 a:=by
 unfold Xz XC o16 fA;rw[show(2:Int)^15=32768 from rfl];refine⟨by split<;>(try split)<;>(try split)<;>omega,?_⟩;by_cases b:a < -32768
 .simp[b];omega
 by_cases c:32767<a
 .simp[b,c];omega
 simp[b,c]
def abg (c:Nat)(a:Int)(b:W)(d:kD b c a):Calls prog 95 #[.pointer (S c),.int .u64 16] b (fP b (.tuple #[I (fA a),.bool (o16 a)])):=by have:=ahd c a 15 gO b d;rw[(ahe a).1,(ahe a).2]at this;exact this
def qA (a:Int)(b:W)(m:-9223372036854775808<=a)(n:a<=9223372036854775807):Calls prog 44 #[I a] b (fP b (I (fA a))):=by
 go_enter func44,ntmps44;go_wp2_with fail;refine(eP a b m n).mono ?_;rintro j d ⟨i,rfl,q,o,k⟩;have e:=Zd<|abg i a d o;have f:=Zs (∀c,d.grownBy c none->fP b (I (fA a)) (.returned (I (fA a))) c) (λc a=>⟨rfl,ay k a⟩);generalize fP b _=p at *
 go_wp2_with fail;refine e.mono ?_;rintro j c ⟨rfl,l⟩;have g:=Zd<|f c l;go_wp2_with fail;exact g
def Ra (a:Nat):P a=2^(32*a):=by unfold P;rw[show(4294967296:Int)=2^32 from rfl,<-Int.pow_mul]
def xq (d e:Nat)(b:Int)(a:Nat)(k:a<=255)(c:W)(j:Struct c d)(i:kD c e b)(g:-P 8<b*2^a)(h:b*2^a<P 8):Calls prog 52 #[.pointer (S d),.pointer (S e),.int .u64 a] c (gH c d (b*2^a)):=by
 have f:b*2^(a % 32)*P (a / 32)=b*2^a:=by
  rw[Ra,FP,<-Int.pow_add,show a % 32+32*(a / 32)=a by omega]
 have:=K9 d e b (a / 32) (a % 32) gO gO c j i (by rw[f];exact g) (by rw[f];exact h);rw[f,show(32*((a / 32:Nat):Int)+((a % 32:Nat):Int))=a by omega]at this;exact this
def Lb (e u:Nat)(b:Int)(a:Nat)(k:a<=3000)(d:W)(C:Struct d e)(B:kD d u b)(K:0<=b):Calls prog 51 #[.pointer (S e),.pointer (S u),.int .u64 a] d (gH d e (b / 2^a)):=by
 have⟨D,l,E,M,O,F,H,R,G,Q⟩:=fG B;rw[show decide (b<0)=false by simp;omega]at E;have g:val l / (P (a / 32)*2^(a % 32))=b / 2^a:=by
  rw[G,Ra,<-Int.pow_add,show 32*(a / 32)+a % 32=a by omega,show((b.natAbs:Nat):Int)=b by omega]
 have t:=Zd λc (j:d.grownBy c none)=>Q_ D l (a / 32) (a % 32) c (jQ F j) H gO gO gO;rw[g,show(32*((a / 32:Nat):Int)+((a % 32:Nat):Int))=a by omega]at t;have w:=Zd (show ∀s i c f,d.grownBy s none->Sl f i c->WF c->Top c->val c=b / 2^a->c.length<=l.length->s.grownBy f none->
  Calls prog 96 #[.pointer (S e),.bool false,i] f (λg r=>g=.returned (.pointer (S e))/\gH d e (b / 2^a) g r)from by
  intro s i c f x m n o p v q;have j:d.grownBy f none:=ay x q;refine(ku e false i c f (bQ C j (by simp)) m n o gO).mono ?_;intro g r k;exact⟨k.1,mW k j (by simpa using p)⟩)
 generalize gH d e (b / 2^a)=J at *
 go_enter func51,ntmps51;go_wp2_with fail;refine(t _ (aM _ _)).mono ?_;rintro g f ⟨i,c,rfl,m,n,o,p,v,q⟩;have y:=Zd<|w _ i c f (aM _ _) m n o p v q;go_wp2_with fail;refine y.mono ?_;rintro g r ⟨rfl,z⟩;have x:=Zd z;go_wp2_with fail;exact x
def aeV (a b:Int)(hp:0<b)(g:a<0):a / b=-((-a-1) / b+1):=by
 have e:=Int.ediv_mul_le (-a-1) (Int.ne_of_gt hp);have f:=Int.lt_ediv_add_one_mul_self (-a-1) hp;generalize (-a-1) / b=c at *
 have d:a / b=-(c+1):=by
  apply Int.le_antisymm
  .have:a / b < -(c+1)+1:=Int.ediv_lt_of_lt_mul hp (by rw[GL,Int.neg_mul,GL];omega);omega
  exact(Int.le_ediv_iff_mul_le hp).2 (by rw[Int.neg_mul,GL]at *;omega)
 exact d
def ahf (j x:Nat)(c:Int)(a:Nat)(w:a<=3000)(f:W)(U:Struct f j)(T:kD f x c)(M:c<0):Calls prog 51 #[.pointer (some ⟨j,0,none⟩),.pointer (some ⟨x,0,none⟩),.int .u64 a] f (gH f j (c / 2^a)):=by
 have⟨vx,m,x0,x1,xb,xs,B,xt,r,xl⟩:=fG T;rw[show decide (c<0)=true by simp;omega]at x0;have R:1<=m.length:=by
  rcases Nat.eq_zero_or_pos m.length with b|b
  .rw[List.length_eq_zero_iff.1 b,nA]at r;omega
  exact b
 have g:WF [1]:=λy=>by
  match y with
  | 0=>exact⟨by decide,by decide⟩
  | y+1=>exact⟨by simp[aB],by simp[aB]⟩
 have q:val [1]=1:=by decide
 have hp:(0:Int)<2^a:=Int.pow_pos (by decide);have q0:0<=(-c-1) / 2^a:=F7 gO (VR hp);have q1:(-c-1) / 2^a<=-c-1:=Int.ediv_le_self _ gO;have b8:=(su m B).2;have p8:P m.length<=P 8:=xL _ _ xl;have z:=Zd<|K7 vx (.slice (some ⟨f.heap.size,0,none⟩) 1 1) m [1] (f.alloc (.cells #[.int .u32 1] 160)) (jQ xs (aj _ _ none)) (vR f [1] 1 rfl) B g gO R (by rw[q,r];omega);rw[q,show val m-1=-c-1 by rw[r];omega]at z;have K:=Zd (λd b e (t:Sl e d b) (u:WF b) (O:b.length<=8) (v:val b=-c-1)=>(show Calls prog 101 #[d,.int .u64 a] e (iU e ((-c-1) / 2^a) 8)from by
  have:=Q_ d b (a / 32) (a % 32) e t u gO gO gO;rw[v,Ra,<-Int.pow_add,show 32*(a / 32)+a % 32=a by omega,show(32*((a / 32:Nat):Int)+((a % 32:Nat):Int))=a by omega]at this;exact this.mono λi o ⟨y,x,k,l,m,n,p,B,s⟩=>⟨y,x,k,l,m,n,p,gO,s⟩))
 have C:=Zd (λd b e (t:Sl e d b) (u:WF b) (O:b.length<=8) (v:val b=(-c-1) / 2^a)=>(show Calls prog 100 #[d,.slice (some ⟨e.heap.size,0,none⟩) 1 1] (e.alloc (.cells #[.int .u32 1] 160)) (iU (e.alloc (.cells #[.int .u32 1] 160)) ((-c-1) / 2^a+1) 9)from by
  have:=KU d (.slice (some ⟨e.heap.size,0,none⟩) 1 1) b [1] (e.alloc (.cells #[.int .u32 1] 160)) (jQ t (aj _ _ none)) (vR e [1] 1 rfl) u g gO (by simp);rw[v,q]at this;exact this.mono λi o ⟨y,x,k,l,m,n,p,B,s⟩=>⟨y,x,k,l,m,n,p,by simp at B;omega,s⟩))
 have D:=Zd (show ∀d b g,f.grownBy g none->Sl g d b->WF b->Top b->val b=(-c-1) / 2^a+1->
  Calls prog 96 #[.pointer (some ⟨j,0,none⟩),.bool true,d] g (λi o=>i=.returned (.pointer (some ⟨j,0,none⟩))/\gH f j (c / 2^a) i o)from by
  intro d b g p l e n k;have s:=Ey b e n 8 (by rw[k];rw[r]at b8;omega);refine(ku j true d b g (bQ U p (by simp)) l e n s).mono ?_;intro i o w;exact⟨w.1,mW w p (by rw[aeV c _ hp M,k];simp)⟩)
 generalize gH f j (c / 2^a)=aa at *
 generalize (-c-1) / 2^a=ab at *
 go_enter func51,ntmps51;go_wp2_with fail;refine z.mono ?_;rintro i g ⟨q,X,rfl,l,e,n,k,s,p⟩;have E:=Zd<|ay (aj f _ none) p;have J:=Zd<|K q X g l e gO k;go_wp2_with fail;refine J.mono ?_;rintro i o ⟨v2,Y,rfl,l,e,n,k,s,p⟩;have F:=Zd<|ay E p;have A:=Zd<|C v2 Y o l e s k;go_wp2_with fail;refine A.mono ?_;rintro i w3 ⟨v3,Z,rfl,l,e,n,k,s,p⟩;have H:=Zd<|D v3 Z w3 (ay F (ay (aj _ _ none) p)) l e n k;go_wp2_with fail;refine H.mono ?_;rintro i w4 ⟨rfl,Q⟩;have G:=Zd Q;go_wp2_with fail;exact G
def Uh (b e:Nat)(d:Int)(c:Nat)(f:c<=3000)(a:W)(h:Struct a b)(g:kD a e d):Calls prog 51 #[.pointer (S b),.pointer (S e),.int .u64 c] a (gH a b (d / 2^c)):=by
 by_cases i:d<0
 .exact ahf b e d c f a h g i
 exact Lb b e d c f a h g gO
def Un:(prog.info? 79).bind (·.zero)=some (.agg (aF (au 25))):=by kernel_rfl
def dS:(prog.info? 79).map (·.size)=some 25:=by kernel_rfl
def aeX (a:Nat):f_ a (λ_=>0)=au a:=by refine(dL (ak a) (λa a=>?_)).symm;simp[au,aB,List.getD,a]
def ajM (c:W)(b:V)(a:Ending)(d:W):Prop:=a=.returned b/\c.grownBy d none
def AZ (c:W)(a:L)(b:Ending)(d:W):Prop:=b=.returned (.tuple #[.agg (aF (oJ a)),I (xV a)])/\c.grownBy d none
def vD (a:L)(b:xV a≠0):oJ a=au 25:=by unfold oJ;rw[X9 b,aeX]
def PkP (c:W)(a:L)(e:Ending)(d:W):Prop:=∃b,e=.returned (.tuple #[b,I (ajl a)])/\iT c.heap.size d b (pkR a)/\c.grownBy d none
def iT.plain (c:iT n w x l):x=N\/∃a d b,x=.slice (some a) d b:=by
 rcases c.2 with⟨rfl,_⟩|⟨d,a,b,rfl,_⟩
 .exact .inl rfl
 exact .inr ⟨_,_,_,rfl⟩
def adD (a:jC l=true):pkR l=GJ l/\ajl l=0:=⟨Q9 a,Q9 a⟩
def p8:(prog.info? 76).map (·.size)=some 8:=by kernel_rfl
def p4:(prog.info? 74).map (·.size)=some 4:=by kernel_rfl
def Rb (b:jI w x l)(k:x=N\/∃c f d,x=.slice (some c) f d):Sem.run prog (convert 32 9 x) w=.ok (.string (strOfNums l)) w:=by
 obtain⟨n,d,rfl,p,g⟩:=b;rcases k with a|⟨c,f,o,a⟩
 .simp only[Value.slice.injEq]at a;obtain⟨rfl,e,rfl⟩:=a;rw[run_convert_bytes_nil w 32 5 underlying32 underlying5 _ _ 9 underlying9,List.length_eq_zero_iff.1 e];rfl
 simp only[Value.slice.injEq]at a;obtain⟨rfl,rfl,rfl⟩:=a;have j:(loadCells c l.length).run prog w=.ok (l.map (Value.int .u8)).toArray w:=by
  have:=run_loadCells_list (P:=prog) w c (l.map (Value.int .u8)) (λa x c=>by
   have e:a<l.length:=by
    rcases WZ a l.length with b|b
    .exact b
    simp[U8 (show(l.map (Value.int .u8)).length<=a by simpa using b)]at c
   have⟨m,h,i⟩:=g gO;cases h;rw[i a e];simpa [aB,List.getD,e] using c)
  simpa using this
 rw[run_convert_bytes_string w 32 9 5 _ l.length d underlying32 underlying5 underlying9,run_bytesToString w _ l.length d l j,foldl_push_bytes];simp[strOfNums,ByteArray.empty,ByteArray.emptyWithCapacity];rfl
def adE {A:L}(q:fO n w x A)(G:aY w v' l)(F:0<l.length)(u:(A.length+l.length)*8<=140737488355328)(y:n<=w.heap.size)(g:TypeId):∃h i,Sem.run prog (Builtin.append_ #[26,26] g #[x,v']) w=.ok h i/\fO n i h (A++l)/\w.grownBy i x.ownBlock/\∀e,h.ownBlock=some e->x.ownBlock=some e\/w.heap.size<=e:=by
 have⟨p,k,s,b,t⟩:=info_parts nY;obtain⟨O,j,rfl,Q,K⟩:=G;obtain⟨d,rfl,v⟩:=K F;have o:∀a c,(l.map (Value.int .i64))[a]?=some c->w.cell? (d.add a)=some c:=λa c f=>by
  have m:a<l.length:=by
   by_cases m:a<l.length
   .exact m
   rw[U8 (by simp;omega)]at f;cases f
  rw[v a m];simpa [aB,List.getD,m] using f
 have r:∀c∈l.map (Value.int .i64),c.oneCell'=true:=λc f=>by
  obtain⟨a,_,rfl⟩:=List.mem_map.1 f;rfl
 have⟨h,i,c,B,C,_⟩:=run_append_own (P:=prog) w n 26 g 3 p (I 0) 1 8 underlying26 k s b t rfl (by decide) x A.length _ q d l.length j (l.map (Value.int .i64)) (by simp) o r (by unfold maxLen;omega) gO y;refine⟨h,i,c,by unfold fO;simpa using B,C,λe h=>?_⟩;rcases q.2 with⟨rfl,D⟩|⟨m,f,z,rfl,P,J,T,R,H,U⟩
 .have E:A=[]:=List.eq_nil_of_length_eq_zero D;subst E;have⟨X,Y,a,M,_,_⟩:=run_append_own (P:=prog) w w.heap.size 26 g 3 p (I 0) 1 8 underlying26 k s b t rfl (by decide) N 0 [] (World.ownsRow_nil _ _ _ _) d l.length j (l.map (Value.int .i64)) (by simp) o r (by unfold maxLen;simp at u;omega) (by simpa using u) (Q6 _);rw[c]at a;cases a;exact .inr (M.lt e h).1
 by_cases e:A.length+l.length<=f
 .have a:=run_append_room (P:=prog) w 26 g 3 p underlying26 k m A.length f z J d l.length j (l.map (Value.int .i64)) (by rw[b];simp) o r e (by rw[b,H];simp;omega);rw[c]at a;cases a;exact .inl h
 have a:=run_append_grow (P:=prog) w 26 g 3 p (I 0) underlying26 k s ⟨m,0,none⟩ A.length f (A.map (Value.int .i64)) (by rw[b];simp) (World.ownsRow.cells q (g:=m) rfl) d l.length j (l.map (Value.int .i64)) (by rw[b];simp) o gO gO (by rw[t];exact growslice_fits gO gO);rw[c]at a;cases a;simp[Value.ownBlock]at h;exact .inr gO
def Lf {g:Array Oper}{rest:List Oper}(t:Region.wanted o (yielded g a.tmps)=true)(h j:Operand)
 (v:o.op=Op.call { callee:=Callee.builtin Builtin.append,args:=#[h,j],argTypes:=#[26,26] }) (f:Nat) (e i:V) (A d:L) (y:a.eval h=e) (z:a.eval j=i) (r:fO f w e A) (s:aY w i d) (q:0<d.length)
 (u:(A.length+d.length)*8<=140737488355328) (k:f<=w.heap.size)
 (l:∀b c,fO f c b (A++d)->w.grownBy c e.ownBlock->(∀d,b.ownBlock=some d->e.ownBlock=some d\/w.heap.size<=d)->wpList prog g Q rest (a.put o.dst b) c):wpList prog g Q (o::rest) a w:=by
 have⟨b,c,x,m,n,p⟩:=adE r s q u k o.type;refine wpList_step λd d=>?_;rw[Q9 t];unfold Oper.wp;simp[execOp,v,resolve,invoke,builtin,y,z,x,Result.andThen];exact d _ _ (l b c m n p)
def Lg (a:w.grownBy w' z)(c:Option Nat)(e:∀b,z=some b->c=some b\/w.heap.size<=b):w.grownBy w' c:=
 ⟨a.1,a.2,a.3,a.4,λb c d=>a.5 b c (λa=>by rcases e b a.symm with b|b;exact d b.symm;omega)⟩
def Hu (g:Nat)(h:W)(c:List (V×L)):Prop:=
 (∀(b:Nat) (a:V) (A:L),c[b]?=some (a,A)->fO g h a A)/\∀(b d:Nat) (a:V) (A:L) (e:V) (f:L),c[b]?=some (a,A)->c[d]?=some (e,f)->b≠d->∀b,a.ownBlock=some b->e.ownBlock≠some b
def Hu.get {b:List (V×L)}(c:Hu n w b)(a:Nat){A:L}(d:b[a]?=some (x,A)):fO n w x A:=c.1 a x A d
def Hu.aC {b:List (V×L)}(a:Hu n w b)(c:w.grownBy w' none):Hu n w' b:=⟨λd e A b=>(a.1 d e A b).aC c,a.2⟩
def Hu.upd {i:List (V×L)}(h:Hu n w i)(e:Nat)(m l:V)(A o:L)(p:i[e]?=some (m,A))(j:w.grownBy w' m.ownBlock)(H:fO n w' l o)(G:∀t,l.ownBlock=some t->m.ownBlock=some t\/w.heap.size<=t):Hu n w' (i.set e (l,o)):=by
 have F:e<i.length:=by
  rcases WZ e i.length with h|h
  .exact h
  rw[U8 h]at p;cases p
 have u:∀(a:Nat) (b:V) (c:L),(i.set e (l,o))[a]?=some (b,c)->(a=e/\b=l/\c=o)\/(a≠e/\i[a]?=some (b,c)):=λa b c d=>by
  by_cases f:a=e
  .subst f;rw[List.getElem?_set_self F]at d;cases d;exact .inl ⟨rfl,rfl,rfl⟩
  rw[List.getElem?_set_ne (Ne.symm f)]at d;exact .inr ⟨f,d⟩
 have J:∀(a:Nat) (b:V) (c:L),a≠e->i[a]?=some (b,c)->fO n w' b c:=λa b c d g=>by
  refine(h.1 a b c g).kept j ?_;rcases f:b.ownBlock with _|C
  .exact .inl rfl
  right;intro D;exact h.2 a e b c m A g p d C f D.symm
 have B:∀(a:Nat) (b:V) (c:L),a≠e->i[a]?=some (b,c)->∀j,b.ownBlock=some j->l.ownBlock≠some j:=λa b c d g k q f=>by
  rcases G k f with r|r
  .exact h.2 a e b c m A g p d k q r
  have:=((h.1 a b c g).lt k q).2;omega
 refine⟨λa b c d=>?_,λa k b c x s d q y j v=>?_⟩
 .rcases u a b c d with⟨_,rfl,rfl⟩|⟨f,g⟩
  .exact H
  exact J a b c f g
 rcases u a b c d with⟨rfl,rfl,rfl⟩|⟨f,g⟩<;>rcases u k x s q with⟨rfl,rfl,rfl⟩|⟨E,z⟩
 .exact absurd rfl y
 .intro r;exact B k x s E z j r v
 .exact B a b c f g j v
 exact h.2 a k b c x s g z y j v
def Hu.put {e:List (V×L)}(g:Hu n w e)(d:Nat)(b:V)(c:L)(h:e[d]?=some (N,[]))(f:w.grownBy w' none)(j:fO n w' b c)(i:∀a,b.ownBlock=some a->w.heap.size<=a):Hu n w' (e.set d (b,c)):=
 g.upd d _ b [] c h f j (λa b=>.inr (i a b))
def Hu.nil:Hu b w (List.replicate n (N,[])):=
 ⟨λc d A a=>by
  have:=(List.mem_replicate.1 (List.mem_of_getElem? a)).2;cases this;exact bN _ _,λc c d A c c a _ _ c c=>by
  have:=(List.mem_replicate.1 (List.mem_of_getElem? a)).2;cases this;cases c⟩
def Jt (b:W)(c:Nat)(d:c<=b.heap.size)(a:L)(e:a.length<=1000):fO c (b.alloc (.cells (aF a) 3)) (.slice (S b.heap.size) a.length a.length) a:=
 ⟨by simp,.inr ⟨b.heap.size,a.length,aF a,rfl,d,dF b _,Q6 _,by unfold maxLen;omega,by simp[aF],by simp[aF];exact K3 (by simp)⟩⟩
def XG {k:Nat->Option Bool}{g:Act->W->Prop}{l:Prop}(v:o.guard=none)(h j:Operand)
 (y:o.op=Op.call { callee:=Callee.builtin Builtin.append,args:=#[h,j],argTypes:=#[26,26] }) (f:Nat) (e i:V) (A d:L) (B:a.eval h=e) (D:a.eval j=i) (t:fO f w e A) (u:aY w i d) (s:0<d.length)
 (x:(A.length+d.length)*8<=140737488355328) (m:f<=w.heap.size)
 (n:∀b c,fO f c b (A++d)->w.grownBy c e.ownBlock->(∀d,b.ownBlock=some d->e.ownBlock=some d\/w.heap.size<=d)->g (a.put o.dst b) c):if Region.wanted o k=true then Oper.wp prog o a w g Q else l:=by
 have C:Region.wanted o k=true:=by simp[Region.wanted,v]
 rw[Q9 C];have⟨b,c,z,p,q,r⟩:=adE t u s x m o.type;unfold Oper.wp;simp[execOp,y,resolve,invoke,builtin,B,D,z,Result.andThen];exact n b c p q r
def fO.al0 {A:L}(f:fO n w x A)(a:bY w b T l)(g:T≠3):∀c,x.ownBlock=some c->b≠c:=by
 intro c d e;rcases f.2 with⟨rfl,_⟩|⟨k,i,j,rfl,_,h,_⟩
 .cases d
 simp[Value.ownBlock]at d;subst d;subst e;unfold bY at a;rw[h]at a;simp at a;exact g a.2.symm
def bY.Ju {A:L}(c:bY w b T l)(d:fO n w x A)(f:T≠3)(a:w.grownBy w' x.ownBlock):bY w' b T l:=by
 rcases e:x.ownBlock with _|g
 .rw[e]at a;exact c.aC a
 rw[e]at a;exact c.aH a (d.al0 c f g e)
def nQ (c:W)(b:V)(a:Ending)(d:W):Prop:=a=.returned b/\d=c
def uJ (c:W)(b:V)(a:Ending)(d:W):Prop:=a=.returned b/\c.grownBy d none
def Pz (c b:Int)(a:L):Bool:=a.all λa=>decide (c<=a)&&decide (a<=b)
def adI (d c:Int)(a:L):Pz d c a=true↔∀b,b<a.length->d<=aB a b/\aB a b<=c:=by unfold Pz;rw[CG];simp
def al3 {a:Int}(b:Nat)(d:b<l.length)(c:¬(i<=aB l b/\aB l b<=a)):Pz i a l=false:=by
 rcases hb:Pz i a l with _|_
 .rfl
 exact absurd ((adI i a l).1 hb b d) c
def abr (a:L):Pz (-32767) 32767 a=cZ a:=by unfold Pz cZ;congr 1;funext q;congr 1<;>apply decide_eq_decide.2<;>omega
def XO (a:L):Pz (-1073741824) 1073741824 a=Bf a:=rfl
def adJ (a:L):Pz (-2147483647) 2147483647 a=NC a:=rfl
def lT (a c b:Int)(e:W):Calls prog 172 #[I a,I c,I b] e (nQ e (.bool (decide (c<=a)&&decide (a<=b)))):=by
 have f:=Zd λd (j:(decide (c<=a)&&decide (a<=b))=d)=>(show nQ e (.bool (decide (c<=a)&&decide (a<=b))) (.returned (.bool d)) e from⟨by rw[j],rfl⟩);generalize nQ e (.bool (decide (c<=a)&&decide (a<=b)))=k at *
 by_cases g:c<=a
 .by_cases i:a<=b
  .have d:=Zd<|f true (by simp[g,i]);go_enter func172,ntmps172;go_wp2_with fail;exact d
  have d:=Zd<|f false (by simp[g,i]);go_enter func172,ntmps172;go_wp2_with fail;exact d
 have d:=Zd<|f false (by simp[g]);go_enter func172,ntmps172;go_wp2_with fail;exact d
def nT (r:V)(b:L)(e c:Int)(f:W)(n:aY f r b)(C:b.length<=1000000000000000000):Calls prog 170 #[r,I e,I c] f (nQ f (.bool (Pz e c b))):=by
 obtain⟨v,w,rfl,y,m⟩:=n;have l:=Zd λ(g:∀a,a<b.length->e<=aB b a/\aB b a<=c)=>(show nQ f (.bool (Pz e c b)) (.returned (.bool true)) f from⟨by rw[(adI e c b).2 g],rfl⟩);have N:=Zd λa (s:a<b.length) (g:¬(e<=aB b a/\aB b a<=c))=>(show nQ f (.bool (Pz e c b)) (.returned (.bool false)) f from⟨by rw[al3 a s g],rfl⟩);generalize nQ f (.bool (Pz e c b))=t at *
 go_enter func170,ntmps170;go_wp2_with fail;go_loop [8,11] (λ_ a=>∃d:Nat,a=I d/\d<=b.length/\Hid (∀a,a<d->e<=aB b a/\aB b a<=c)) (λ_ a=>b.length-(intOf a).toNat)
 case atStart=>exact⟨0,rfl,QN _,λa c=>gO⟩
 case round=>
  obtain⟨d,rfl,B,i⟩:=hrel;by_cases p:d<b.length
  .obtain⟨u,rfl,q⟩:=m gO;have z:=q d p;have k:=Zd<|N d p;have j:=Zd (λ(g:e<=aB b d/\aB b d<=c)=>(show ∀a,a<d+1->e<=aB b a/\aB b a<=c from λa c=>by
    rcases WZ a d with o|o
    .exact i a o
    obtain rfl:a=d:=gO;exact g))
   clear m q l N i;generalize aB b d=o at *
   go_wp2_with fail;refine(lT o e c f).mono ?_;rintro x D ⟨rfl,rfl⟩;rcases hb:(decide (e<=o)&&decide (o<=c))with _|_
   .have a:=Zd<|k (λn=>by simp[n]at hb);clear k j hb;go_wp2_with fail;exact a
   have a:=Zd<|j (by simpa using hb);clear k j hb;go_wp2_with fail;go_round
   case rel=>exact⟨d+1,by go_num,gO,a⟩
   case measure=>simp[intOf];omega
  obtain rfl:d=b.length:=gO;have a:=Zd<|l i;clear m l N i;go_wp2_with fail;exact a
def rX (b:bY w n T l)(a:Nat)(c:l.length<=a):aY w (.slice (S n) l.length a) l:=by refine⟨some (A n 0),a,rfl,c,λ_=>⟨_,rfl,λc a=>?_⟩⟩;rw[Addr.add_mid,WT];exact b.cell c a
def jD (a:L)(f:a.length=8)(b:W):Calls prog 202 #[.agg (aF a)] b (uJ b (.bool (cZ a))):=by
 have c:=Zd<|rX (bY.new b 50 a) 8 gO;rw[f]at c;have e:=Zd<|aj b (.cells (aF a) 50) none;have A:=Zd<|nT (.slice (some ⟨b.heap.size,0,none⟩) 8 8) a (-32767) 32767 _ c gO;rw[abr]at A;have d:=Zs (uJ b (.bool (cZ a)) (.returned (.bool (cZ a))) (b.alloc (.cells (aF a) 50))) (⟨rfl,e⟩);generalize uJ b (.bool (cZ a))=g at *
 generalize cZ a=i at *
 go_enter func202,ntmps202;go_wp2_with fail;refine A.mono ?_;rintro j k ⟨rfl,rfl⟩;go_wp2_with fail;exact d
def Ri (a:Int)(e:-4611686018427387904<=a)(f:a<=4611686018427387904)(b:W):Calls prog 203 #[I a,I 15] b (nQ b (I ((a+16384) / 32768))):=by
 have c:=Zs (nQ b (I ((a+16384) / 32768)) (.returned (I ((a+16384) / 32768))) b) (⟨rfl,rfl⟩);generalize nQ b (I ((a+16384) / 32768))=d at *
 go_enter func203,ntmps203;go_wp2_with fail;exact c
def ae2 (a:Int)(e:-4611686018427387904<=a)(f:a<=4611686018427387904)(b:W):Calls prog 203 #[I a,I 12] b (nQ b (I ((a+2048) / 4096))):=by
 have c:=Zs (nQ b (I ((a+2048) / 4096)) (.returned (I ((a+2048) / 4096))) b) (⟨rfl,rfl⟩);generalize nQ b (I ((a+2048) / 4096))=d at *
 go_enter func203,ntmps203;go_wp2_with fail;exact c
def zF (b:Int)(a:W):Calls prog 219 #[I b] a (nQ a (I (fA b))):=by
 have c:=Zs (nQ a (I (fA b)) (.returned (I (fA b))) a) (⟨rfl,rfl⟩);have S:=Zd<|tT b a;generalize nQ a (I (fA b))=d at *
 go_enter func219,ntmps219;go_wp2_with fail;refine S.mono ?_;rintro e f ⟨rfl,rfl⟩;go_wp2_with fail;exact c
def zG (a:Int)(e:-4611686018427387904<=a)(f:a<=4611686018427387904)(b:W):Calls prog 220 #[I a] b (nQ b (I ((a+2048) / 4096))):=by
 have c:=Zs (nQ b (I ((a+2048) / 4096)) (.returned (I ((a+2048) / 4096))) b) (⟨rfl,rfl⟩);generalize nQ b (I ((a+2048) / 4096))=d at *
 go_enter func220,ntmps220;go_wp2_with fail;exact c
def ajT (a:Int)(b:¬(-32768<=a/\a<=32767)):¬fA a=a:=by
 unfold fA;split
 .omega
 split<;>omega
def jv (q:V)(a:L)(d:W)(s:aY d q a)(E:a.length<=1000000000000000000):Calls prog 218 #[q] d (nQ d (.bool (aL a))):=by
 obtain⟨y,z,rfl,B,n⟩:=s;have m:=Zd λ(i:∀b,b<a.length->-32768<=aB a b/\aB a b<=32767)=>(show nQ d (.bool (aL a)) (.returned (.bool true)) d from⟨by rw[(bD a).2 i],rfl⟩);have N:=Zd (λb (t:b<a.length) (i:¬(-32768<=aB a b/\aB a b<=32767))=>(show nQ d (.bool (aL a)) (.returned (.bool false)) d from⟨by
  rcases hb:aL a with _|_
  .rfl
  exact absurd ((bD a).1 hb b t) i,rfl⟩))
 generalize nQ d (.bool (aL a))=w at *
 go_enter func218,ntmps218;go_wp2_with fail;go_loop [7] (λb=>∃c:Nat,b=I c/\c<=a.length/\Hid (∀b,b<c->-32768<=aB a b/\aB a b<=32767)) (λb=>a.length-(intOf b).toNat)
 case atStart=>exact⟨0,rfl,QN _,λb e=>gO⟩
 case round=>
  obtain⟨c,rfl,D,j⟩:=hrel;by_cases o:c<a.length
  .obtain⟨x,rfl,p⟩:=n gO;have C:=p c o;have l:=Zd<|N c o;have k:=Zd (λ(i:-32768<=aB a c/\aB a c<=32767)=>(show ∀b,b<c+1->-32768<=aB a b/\aB a b<=32767 from λb e=>by
    rcases WZ b c with e|e
    .exact j b e
    obtain rfl:b=c:=gO;exact i))
   clear n p m N j;generalize aB a c=b at *
   have G:(c:Int)<a.length:=gO;have g:=Zd<|zF b d;by_cases e:-32768<=b/\b<=32767
   .have f:=Zd<|k e;rw[JJ b e.1 e.2]at g;clear l k e;go_wp2_with fail;refine g.mono ?_;rintro r v ⟨rfl,rfl⟩;clear g;go_wp2_with fail;go_round
    case rel=>exact⟨c+1,by go_num,gO,f⟩
    case measure=>simp[intOf];omega
   have f:=Zd<|l e;have u:=ajT b e;have F:(fA b==b)=false:=by simpa using u
   generalize fA b=H at *
   clear l k e;go_wp2_with fail;refine g.mono ?_;rintro r v ⟨rfl,rfl⟩;clear g;go_wp2_with fail;exact f
  obtain rfl:c=a.length:=gO;have f:=Zd<|m j;clear n m N j;go_wp2_with fail;exact f
def XQ (a:L):Bool:=pY a&&decide (aB a 0=4096)
def adK (a c b:L):okF a c b=(XQ a&&aL c&&aL b):=rfl
def Bl (a:L)(k:a.length=9)(f:W):Calls prog 242 #[.agg (aF a)] f (uJ f (.bool (XQ a))):=by
 have i:=Zd<|bY.new f 69 a;have g:=Zd<|aj f (.cells (aF a) 69) none;have m:=Zd λc e=>gF a underlying69 c e k;go_enter func242,ntmps242;go_wp2_with (refine lA i (by rw[k];exact bZ) ?_);generalize f.alloc (.cells (aF a) 69)=o at *
 go_loop [6] (λf=>∃b:Nat,f=I b/\b<=9/\Hid (∀c,c<b->-1048576<=aB a c/\aB a c<=1048576)) (λf=>9-(intOf f).toNat)
 case atStart=>exact⟨0,rfl,QN _,λc e=>gO⟩
 case round=>
  obtain⟨b,rfl,q,j⟩:=hrel;by_cases r:b<9
  .have s:=m b gO;have p:(b:Int)<9:=gO;by_cases d:-1048576<=aB a b/\aB a b<=1048576
   .have l:=Zd (show ∀c,c<b+1->-1048576<=aB a c/\aB a c<=1048576 from λc e=>by
     by_cases e:c=b
     .subst e;exact d
     exact j c gO)
    have⟨e,n⟩:=d;generalize aB a b=c at *
    go_wp2_with fail;go_round
    case rel=>exact⟨b+1,by go_num,gO,l⟩
    case measure=>simp[intOf];omega
   have e:=Zd (show XQ a=false from by
    have:pY a=false:=by
     rcases hb:pY a with _|_
     .rfl
     exact absurd ((jZ a).1 hb b gO) d
    unfold XQ;rw[this];rfl)
   generalize aB a b=c at *
   by_cases l:c < -1048576
   .go_wp2_with fail;go_ret;exact⟨by rw[e.out];rfl,g⟩
   have n:1048576<c:=gO;go_wp2_with fail;go_ret;exact⟨by rw[e.out];rfl,g⟩
  obtain rfl:b=9:=gO;have n:=Zs (pY a=true) ((jZ a).2 (λf b=>j f gO));have p:=i.cell 0 gO;have e:=Zs (XQ a=decide (aB a 0=4096)) (by unfold XQ;rw[n.out];rfl);generalize aB a 0=c at *
  by_cases d:c=4096
  .subst d;go_wp2_with fail;go_ret;exact⟨by rw[e.out];rfl,g⟩
  have l:=Zd<|KF d;have s:(c==4096)=false:=by simpa using d
  go_wp2_with fail;go_ret;exact⟨by rw[e.out,l.out];rfl,g⟩
def yI (a b:L)(c:Nat):Int:=wJ a b c-2048
def abt (b c:L)(a:Nat):yI b c (a+1)=yI b c a+aB b (a+1)*aB c a:=by unfold yI;show wJ b c a+aB b (a+1)*aB c a-2048=_;omega
def aht (a b:L):(yI a b 8+2048) / 4096=gs a b:=by unfold yI gs;congr 1;omega
def abu (a b:L)(E:a.length=9)(hp:b.length=8)(j:W)(s:pY a=true)(r:aL b=true):Calls prog 243 #[.agg (aF a),.agg (aF b)] j (uJ j (I (gs a b))):=by
 have e:=Zd<|nI j 69 50 a b;have m:=Zd λd c=>gF b underlying50 d c hp;have d:=Zd<|kJ a (-1048576) 1048576 gO gO ((jZ a).1 s);have f:=Zd<|kJ b _ _ gO gO ((bD b).1 r);have i:=Zd<|Jh a b d f;have l:=Zd<|abt a b;have k:=Zd<|aht a b;have g:=Zd λc=>show yI a b c=wJ a b c-2048 from rfl;clear s r;generalize gs a b=B at *
 go_enter func243,ntmps243;go_wp2_with (refine lA e.2.1 (by rw[hp];exact bG) ?_);have t:=Zd e.1;have u:=Zd e.2.2;clear e;generalize (j.alloc (.cells (aF a) 69)).alloc _=C at *
 go_loop [5,9] (λj e=>∃c:Nat,e=I c/\j=I (yI a b c)/\c<=8) (λ_ e=>8-(intOf e).toNat)
 case atStart=>exact⟨0,rfl,rfl,QN _⟩
 case round=>
  obtain⟨c,rfl,rfl,F⟩:=hrel;by_cases G:c<8
  .have J:=m c gO;have D:=t.cell (c+1) gO;have⟨w,x⟩:=d (c+1);have⟨y,z⟩:=f c;have⟨p,q⟩:=i c;have o:=g c;have n:=l c;have v:=Zd n;have⟨K,M⟩:=JY _ _ w x y z;have H:(c:Int)<8:=gO;have O:-600000000000<=yI a b c:=gO;have P:yI a b c<=600000000000:=gO;clear n o p q m d f i l k g;generalize yI a b c=S at *
   generalize aB a (c+1)=Q at *
   generalize aB b c=R at *
   go_wp2_with fail;go_round
   case rel=>exact⟨c+1,by go_num,by rw[v.out],gO⟩
   case measure=>simp[intOf];omega
  obtain rfl:c=8:=gO;have⟨p,q⟩:=i 8;have o:=g 8;have n:=Zd λc=>zG (yI a b 8) gO gO c;rw[k.out]at n;clear o p q m d f i l k g;generalize yI a b 8=S at *
  go_wp2_with fail;refine(n _).mono ?_;rintro v w ⟨rfl,rfl⟩;clear n;go_wp2_with fail;go_ret;exact⟨rfl,u⟩
def Oi (b:W)(a:Nat)(c:Array V):b.grownBy (b.setRow a c) (some a):=
 ⟨rfl,rfl,rfl,by simp,λe _ d=>setRow_other b a e c (λa=>d (by rw[a]))⟩
def ahu (a:L)(hp:a.length=8):((aF a).toList.take 1++(a.take 7).map (Value.int .i64)++(aF a).toList.drop (1+((a.take 7).map (Value.int .i64)).length)).toArray=aF (aB a 0::a.take 7):=by
 match a,hp with
 | [b,c,d,e,f,g,h,i],_=>rfl
def Oj {k:Nat->Option Bool}{g:Act->W->Prop}{l:Prop}(p:o.guard=none)(h j:Operand)
 (q:o.op=Op.call { callee:=Callee.builtin Builtin.copy,args:=#[h,j],argTypes:=#[26,26] }) (c:Nat) (d:TypeId) (b:L) (e:bY w c d b) (hp:b.length=8)
 (n:a.eval h=.slice (some (A c 1)) 7 7) (r:a.eval j=.slice (S c) 8 8)
 (m:∀f,bY f c d (aB b 0::b.take 7)->w.grownBy f (some c)->g (a.put o.dst (goInt 7)) f):if Region.wanted o k=true then Oper.wp prog o a w g Q else l:=by
 have t:Region.wanted o k=true:=by simp[Region.wanted,p]
 rw[Q9 t];have s:(prog.info? 3).map (·.size)=some 1:=by kernel_rfl
 have i:=run_copy_row (P:=prog) w 26 26 o.type 3 c 1 7 7 (A c 0) 8 8 (aF b) d ((b.take 7).map (Value.int .i64)) underlying26 s e (by simp[hp])
  (λd g c=>by
   have f:d<7:=by
    by_cases f:d<7
    .exact f
    rw[U8 (by simp;omega)]at c;cases c
   rw[Addr.add_mid,WT,e.cell d gO];rw[List.getElem?_map,KC,Q9 f]at c;simpa [aB,List.getD,show d<b.length by omega] using c)
  (by simp[aF,hp]) (λg c=>by
   obtain⟨f,_,rfl⟩:=List.mem_map.1 c;rfl)
 rw[ahu b hp,show((b.take 7).map (Value.int .i64)).length=7 by simp[hp]]at i;unfold Oper.wp;simp[execOp,q,resolve,invoke,builtin,n,r,i,Result.andThen];exact m _ (setRow_heap _ _ _ _ _ _ e) (Oi _ _ _)
def ae3 (a:L)(b:Int):L:=b::a.take 7
def XU (a:L)(b:Int)(hp:a.length=8):(ae3 a b).length=8:=by simp[ae3,hp]
def ahv (c b:L)(g:Int):ae3 (qH c b) g=qH c (b++[g]):=by
 apply dL (XU _ _ (pX _ _));intro d f;rw[<-wI _ _ _ f,aeg _ _ _ _ f];by_cases e:d=0
 .subst e;rfl
 rw[X9 e];obtain⟨a,rfl⟩:∃a,d=a+1:=⟨d-1,gO⟩;show aB ((qH c b).take 7) a=aB (qH c b) (a+1-1);rw[ug _ _ _ gO,Nat.add_sub_cancel]
def ae4 (a:L)(hp:a.length=8)(c:Int)(b:W):Calls prog 244 #[.agg (aF a),I c] b (uJ b (.agg (aF (ae3 a c)))):=by
 have k:=Zd<|nI b 50 50 a (au 8);rw[uR]at k;go_enter func244,ntmps244;go_upto_region 1 with fail;have d:=Zs (jc b _ 50 50 a (au 8)) (k);clear k;generalize (b.alloc (.cells (aF a) 50)).alloc _=q at *
 refine wp_region_held_drew (S:=dB b) (by kernel_rfl) (bB d.2.2) λe=>?_;refine aV (v:=.slice (some ⟨b.heap.size,1,none⟩) 7 7) 0 e ?_;refine aV (v:=.slice (some ⟨b.heap.size,0,none⟩) 8 8) 1 e ?_;refine eU 2 λf j=>?_;(try simp only[sZ]);refine Oj rfl _ _ rfl b.heap.size 50 a (d.1.aC (aS q)) hp rfl rfl ?_;intro t r s;have f:=Zd r;have g:=Zd s;have w:=Zd d.1.lt;have m:=Zd<|(d.2.1.aC (aS q)).aH g gO;have i:=Zd<|aG e g (Q6 _);clear r s d g w e;refine j.out _ _ i λe=>?_;clear j;(try simp only[sZ]);refine jX ?_;have z:(aB a 0::a.take 7).length=8:=by simp[hp]
 have x:=f.cell 0 (by rw[z];omega);have y:=f.free 0;have o:=Zd<|f.set 0 c;have j:=Zd<|aD t ⟨b.heap.size,0,none⟩ (I c);have e:=XU a c hp;rw[show(aB a 0::a.take 7).set 0 c=ae3 a c from rfl]at o;clear f;generalize aB (aB a 0::a.take 7) 0=D at *
 generalize ae3 a c=l at *
 go_upto_region 3 with fail;have n:=Zd<|m.aH j (by simp);have v:=Zd<|aG i j (by simp);clear m i j x y;generalize t.setCell _ _=C at *
 go_wp2_with (first|refine lA o (by rw[e];exact bG) ?_|refine sA l n (by rw[e,ak]) (by rw[ak];exact bG) ?_);have p:=bF (rs':=l) n (by rw[e,ak]);have B:=kU p.1 (by rw[e];exact bG);have u:=Zd<|aG v p.2 gO;refine QB (v:=.agg (aF l)) ?_ rfl ⟨rfl,u⟩;simp[results,results244,asAddr,Act.put,B]
def Vk (a b:W)(d e:L)(c:Nat)(f:L):Prop:=bY b a.heap.size 69 d/\bY b (a.heap.size+1) 50 e/\bY b (a.heap.size+1+1) 50 (au 8)/\bY b c 3 f/\a.heap.size+1+1<c/\a.grownBy b none
def Vk.aC (a:Vk w w' l p n r)(b:w'.grownBy u none):Vk w u l p n r:=⟨a.1.aC b,a.2.1.aC b,a.2.2.1.aC b,a.2.2.2.1.aC b,a.2.2.2.2.1,ay a.2.2.2.2.2 b⟩
def Vk.anw (a:Vk w w' l p n r)(c:Nat)(d:Int):Vk w (w'.setCell (A n c) (I d)) l p n (r.set c d):=by have e:=a.2.2.2.2.1;have b:=aD w' (A n c) (I d);exact⟨a.1.aH b (by simp;omega),a.2.1.aH b (by simp;omega),a.2.2.1.aH b (by simp;omega),a.2.2.2.1.set c d,e,aG a.2.2.2.2.2 b (by simp;omega)⟩
def Vk.anx {q':L}(a:Vk w w' l p n r)(d:q'.length=p.length):Vk w (b_ w' (w.heap.size+1) q') l q' n r:=by have c:=a.2.2.2.2.1;have b:=bF (rs':=q') a.2.1 d;exact⟨a.1.aH b.2 gO,b.1,a.2.2.1.aH b.2 gO,a.2.2.2.1.aH b.2 gO,c,aG a.2.2.2.2.2 b.2 gO⟩
def adL {base:Nat}(a:bY w n 3 l)(b:base<=n)(c:l.length<=35184372088832):fO base w (.slice (S n) l.length l.length) l:=
 ⟨by simp,.inr ⟨n,l.length,aF l,rfl,b,a,Q6 _,by unfold maxLen;omega,by simp[aF],by simp[aF,K3]⟩⟩
def ahw (a:L):a=f_ a.length (λb=>aB a b):=dL rfl (λa _=>rfl)
def ajU (d b:L)(q:d.length=9)(hp:b.length=8)(s:V)(o:L)(c:W)(x:aY c s o)(C:o.length*8<=140737488351232)(r:okF d b o=false):Calls prog 206 #[.agg (aF d),.agg (aF b),s] c (aen c [] (au 8) 2):=by
 have g:=Zd<|oQ c 69 50 50 d b (au 8);rw[uR]at g;have B:=pU;have i:=Zd<|Bl d q;have p:=Zd λa (v:bY a (c.heap.size+1) 50 b)=>jv (.slice (S (c.heap.size+1)) 8 8) b a (by have:=rX v 8 gO;rw[hp]at this;exact this) gO;have t:=Zd λa (w:c.grownBy a none)=>jv s o a (aR x w) gO;rw[adK]at r;rcases pa:XQ d with _|_
 .rw[pa]at i;go_enter func206,ntmps206;go_wp2_with (first|refine lA g.1 (by rw[q];exact bZ) ?_);refine(i _).mono ?_;rintro l u ⟨rfl,m⟩;have a:=Zd<|iX.aC (show iX c _ 69 50 50 d b (au 8)from g) m;have e:=Zd a.2.2.1;have k:=Zd a.2.2.2;go_wp2_with (first|refine sA (au 8) e rfl (by rw[ak];exact bG) ?_);have f:=bF (rs':=au 8) e rfl;have n:=kU f.1 (by rw[ak];exact bG);have j:=Zd<|aG k f.2 gO;refine QB (v:=.tuple #[N,.agg (aF (au 8)),I 2]) ?_ rfl ⟨_,rfl,bN _ _,j⟩;simp[results,results206,asAddr,Act.put,n]
 rcases rp:aL b with _|_
 .rw[pa]at i;rw[rp]at p;go_enter func206,ntmps206;go_wp2_with (first|refine lA g.1 (by rw[q];exact bZ) ?_);refine(i _).mono ?_;rintro l u ⟨rfl,m⟩;have a:=Zd<|iX.aC (show iX c _ 69 50 50 d b (au 8)from g) m;go_wp2_with fail;refine(p _ a.2.1).mono ?_;rintro l z ⟨rfl,rfl⟩;have e:=Zd a.2.2.1;have k:=Zd a.2.2.2;go_wp2_with (first|refine sA (au 8) e rfl (by rw[ak];exact bG) ?_);have f:=bF (rs':=au 8) e rfl;have n:=kU f.1 (by rw[ak];exact bG);have j:=Zd<|aG k f.2 gO;refine QB (v:=.tuple #[N,.agg (aF (au 8)),I 2]) ?_ rfl ⟨_,rfl,bN _ _,j⟩;simp[results,results206,asAddr,Act.put,n]
 have y:aL o=false:=by rw[pa,rp]at r;simpa using r
 rw[pa]at i;rw[rp]at p;rw[y]at t;go_enter func206,ntmps206;go_wp2_with (first|refine lA g.1 (by rw[q];exact bZ) ?_);refine(i _).mono ?_;rintro l u ⟨rfl,m⟩;have a:=Zd<|iX.aC (show iX c _ 69 50 50 d b (au 8)from g) m;go_wp2_with fail;refine(p _ a.2.1).mono ?_;rintro l z ⟨rfl,rfl⟩;go_wp2_with fail;refine(t _ a.2.2.2).mono ?_;rintro l D ⟨rfl,rfl⟩;have e:=Zd a.2.2.1;have k:=Zd a.2.2.2;go_wp2_with (first|refine sA (au 8) e rfl (by rw[ak];exact bG) ?_);have f:=bF (rs':=au 8) e rfl;have n:=kU f.1 (by rw[ak];exact bG);have j:=Zd<|aG k f.2 gO;refine QB (v:=.tuple #[N,.agg (aF (au 8)),I 2]) ?_ rfl ⟨_,rfl,bN _ _,j⟩;simp[results,results206,asAddr,Act.put,n]
def ahx (c b:L)(y:c.length=9)(hp:b.length=8)(T:V)(a:L)(f:W)(x:aY f T a)(hl:a.length*8<=140737488351232)(z:okF c b a=true):Calls prog 206 #[.agg (aF c),.agg (aF b),T] f (aen f (oF c b a a.length) (qH b (oF c b a a.length)) 0):=by
 have v:=Zd<|oQ f 69 50 50 c b (au 8);rw[uR]at v;have H:=Zd<|Bl c y;have M:=Zd λwr (ag:bY wr (f.heap.size+1) 50 b)=>jv (.slice (some ⟨f.heap.size+1,0,none⟩) 8 8) b wr (by have:=rX ag 8 gO;rw[hp]at this;exact this) gO;have K:=Zd λwr (ah:f.grownBy wr none)=>jv T a wr (aR x ah) gO;rw[adK]at z;simp only[VL]at z;have⟨⟨m,R⟩,B⟩:=z;rw[m]at H;rw[R]at M;rw[B]at K;have U:pY c=true:=by unfold XQ at m;simp only[VL]at m;exact m.1
 have J:=Zd<|(bD a).1 B;have D:=Zd<|kJ c (-1048576) 1048576 gO gO ((jZ c).1 U);have O:=Zd U;have w:=Zd R;have RR:=Zd B;obtain⟨ad,al,rfl,hc,ab⟩:=x;have G:=Zd ab;have ai:=gU a.length gO;clear ab m U R B;go_enter func206,ntmps206;go_wp2_with (first|refine lA v.1 (by rw[y];exact bZ) ?_);refine(H _).mono ?_;rintro q w1 ⟨rfl,g1⟩;have g:=Zd<|iX.aC (show iX f _ 69 50 50 c b (au 8)from v) g1;clear v H g1;go_wp2_with fail;refine(M _ g.2.1).mono ?_;rintro q w2 ⟨rfl,rfl⟩;clear M;go_wp2_with fail;refine(K _ g.2.2.2).mono ?_;rintro q t ⟨rfl,rfl⟩;clear K;go_wp2_with fail;have M0:=Zd (show Vk f (t.alloc (.cells (aF (au a.length)) 3)) c b t.heap.size (au a.length)from
  ⟨g.1.aC (aj _ _ none),g.2.1.aC (aj _ _ none),g.2.2.1.aC (aj _ _ none),bY.new t 3 _,g.2.2.1.lt,ay g.2.2.2 (aj _ _ none)⟩)
 clear g ai;generalize t.alloc _=W0 at *
 generalize t.heap.size=X at *
 go_loopw [31] (λe wr=>∃(d:Nat) (l:L),e=I d/\d<=a.length/\Hid (jF a.length (λg=>aB (oF c b a a.length) g) d l)/\Hid (Vk f wr c (qH b (oF c b a d)) X l)) (λe _=>a.length-(intOf e).toNat)
 case atStart=>exact⟨0,au a.length,rfl,QN _,⟨ak _,λg e=>gO⟩,by rw[show qH b (oF c b a 0)=b from agc b hp];exact M0⟩
 case round=>
  obtain⟨d,l,rfl,z,o,n⟩:=hrel;clear M0;by_cases P:d<a.length
  .obtain⟨ax,rfl,hv⟩:=G gO;have cx:=aU n.2.2.2.2.2 (hv d P);have⟨x1,x2⟩:=J d P;have ac:l.length=a.length:=o.1;have Z:aB (oF c b a a.length) d=fA (aB a d-gs c (mE b (oF c b a d))):=by
    have:=ai_ c b a d (a.length-(d+1));rw[show d+1+(a.length-(d+1))=a.length by omega]at this;exact this
   have NF:=Zd<|eD o P;rw[Z]at NF;have i:=pX b (oF c b a d);have ae:=pX b (oF c b a (d+1));have F:=Zd λj=>abu c (qH b (oF c b a d)) y i j O (JZ b (oF c b a d) w (nC c b a d));rw[ai9]at F;have⟨b1,b2⟩:=ale c (mE b (oF c b a d)) D (xO b (oF c b a d) w (nC c b a d));have E:=Zd λj=>ae4 (qH b (oF c b a d)) i (fA (aB a d-gs c (mE b (oF c b a d)))) j;rw[ahv,show(oF c b a d)++[fA (aB a d-gs c (mE b (oF c b a d)))]=(oF c b a (d+1))from rfl]at E;clear o Z G D J w RR O hv;have Y:=Zd n.1;have u:=Zd n.2.1;generalize gs c (mE b (oF c b a d))=aa at *
   generalize s:qH b (oF c b a (d+1))=Q at *
   have HQ:=Zd s;clear s;generalize qH b (oF c b a d)=k at *
   generalize aB a d=af at *
   have ST:=Zd λj=>zF (af-aa) j;generalize fA (af-aa)=C at *
   have am:(d:Int)<a.length:=gO;go_wp2_with (first|refine lA Y (by rw[y];exact bZ) ?_|refine lA u (by rw[i];exact bG) ?_);refine(F _).mono ?_;rintro q w4 ⟨rfl,g4⟩;have p:=Zd<|n.aC g4;clear g4 n F Y u cx;go_wp2_with fail;refine(ST _).mono ?_;rintro q w5 ⟨rfl,rfl⟩;clear ST;have cd:=p.2.2.2.1.cell d gO;have fd:=p.2.2.2.1.free d;have M5:=Zd<|p.anw d C;clear p;generalize aB l d=an at *
   go_upto_region 8 with fail;clear cd fd;generalize w5.setCell _ _=W1 at *
   have e:=Zd<|M5.aC (aS W1);refine bW 6 (λj=>Vk f j c k X (l.set d C)) 7 (by rfl) _ rfl (by kernel_rfl) λg=>?_;refine iN (hy:=by intro j r;exact yA r.2.1 (by rw[i];exact bG)) (v:=.agg (aF k)) 0 e g λg=>?_;refine iN 1 e g λg=>?_;refine iN 2 e g λg=>?_;refine iN 3 e g λg=>?_;refine iN (hy:=by intro j r;have cz:=r.2.2.2.1.cell d (by rw[XB];omega);rw[oD l d C gO]at cz;go_simp;try with_reducible rfl) (v:=I C) 4 e g λg=>?_;refine jY 5 g λp m=>?_;(try simp only[sZ]);go_simp;refine(E _).mono ?_;rintro q w6 ⟨rfl,g6⟩;have e:=Zd<|Vk.aC e g6;clear g6 E;go_wp2_with fail;refine m.out _ _ (λ_=>e) λg=>?_;clear m;(try simp only[sZ]);refine jY 6 g λp m=>?_;(try simp only[sZ]);refine eH rfl 50 _ _ rfl (f.heap.size+1) k Q rfl rfl e.2.1 (by rw[ae,i]) (by rw[i];exact bG) ?_;have M8:=Zd<|e.anx (q':=Q) (by rw[ae,i]);refine m.out _ _ (λx=>by cases x) λg=>?_;clear m e M5;(try simp only[sZ]);generalize b_ w6 (f.heap.size+1) Q=w7 at *
   refine bI _ _ _ _ (by rfl) ?_;refine wm ?_;go_wp2_with fail;go_roundw
   case rel=>exact⟨d+1,_,by go_num,gO,NF,by rw[HQ.out];exact M8⟩
   case measure=>simp[intOf];omega
  obtain rfl:d=a.length:=gO;have F:=Zd (show l=oF c b a a.length from by
   have E:=fB o;have C:=ahw (oF c b a a.length);rw[nZ]at C;exact E.trans C.symm)
  have ac:l.length=a.length:=o.1;have i:=pX b (oF c b a a.length);clear o G D J w RR O;generalize s:qH b (oF c b a a.length)=k at *
  have HQ:=Zd s;clear s;go_upto_region 10 with fail;refine wp_region_held_drew (S:=λj=>bY j (f.heap.size+1) 50 k) (by kernel_rfl) (n.2.1.aC (aS _)) λa=>?_;refine aV 0 a ?_;refine aV (hy:=by intro j r;exact yA r (by rw[i];exact bG)) (v:=.agg (aF k)) 1 a ?_;refine aV 2 a ?_;refine eU 3 λp m=>?_;(try simp only[sZ]);have e:=Zd<|n.aC (aS _);refine eH rfl 50 _ _ rfl (f.heap.size+1+1) (au 8) k rfl rfl e.2.2.1 (by rw[i,ak]) (by rw[ak];exact bG) ?_;have p:=bF (rs':=k) e.2.2.1 (by rw[i,ak]);have E:=Zd p.1;have Q:=Zd<|aG e.2.2.2.2.2 p.2 gO;have Z:=e.2.2.2.2.1;have C:=Zd<|adL (base:=f.heap.size) (e.2.2.2.1.aH p.2 gO) gO gO;rw[ac,F.out]at C;have u:=Zd<|e.2.1.aH p.2 gO;clear e p n;generalize b_ _ (f.heap.size+1+1) k=w7 at *
  refine m.out _ _ u λa=>?_;clear m;(try simp only[sZ]);refine aV 4 a ?_;refine jX ?_;clear a;have Y:=kU E (by rw[i];exact bG);go_wp2_with fail;refine QB (v:=.tuple #[_,.agg (aF k),I 0]) ?_ rfl ⟨_,rfl,C,Q⟩;simp[results,results206,asAddr,Act.put,Y]
def XV (c b:L)(g:c.length=9)(hp:b.length=8)(d:V)(a:L)(e:W)(f:aY e d a)(i:rD d a)(h:a.length*8<=140737488351232):Calls prog 206 #[.agg (aF c),.agg (aF b),d] e (aen e (zn c b a) (GH c b a) (Nu c b a)):=by
 rcases hk:okF c b a with _|_
 .rw[show zn c b a=[] by unfold zn;rw[hk];rfl,show GH c b a=au 8 by unfold GH;rw[hk];rfl,show Nu c b a=2 by unfold Nu;rw[hk];rfl];exact ajU c b g hp d a e f h hk
 rw[show zn c b a=oF c b a a.length from Q9 hk,show GH c b a=qH b (oF c b a a.length)from Q9 hk,show Nu c b a=0 from Q9 hk];exact ahx c b g hp d a e f h hk
def ajV:(prog.info? 51).map (·.size)=some 80:=by kernel_rfl
def ahy (d:bY w n T l)(a b:Nat)(f:a<=l.length)(e:a<=b):aY w (.slice (S n) a b) (l.take a):=by
 have c:(l.take a).length=a:=by simp;omega
 refine⟨some (A n 0),b,by rw[c],by rw[c];exact e,λ_=>⟨_,rfl,λb a=>?_⟩⟩;rw[c]at a;rw[Addr.add_mid,WT,d.cell b gO,ug _ _ _ a]
def ae5 (a:Nat)(c:a<=80):(jV 80).take a=jV a:=by apply dL (by unfold jV;simp[cK];omega);intro d b;rw[ug _ _ _ b];unfold jV;rw[dP _ _ _ gO]
def RgS (a:W)(L:List Int)(c:Int)(d e:V)(b:W):Prop:=e=I c/\fO a.heap.size b d L/\a.grownBy b none
def ajW (d:L)(a:Int)(g:¬(0<=a/\a<=80))(b:W):Calls prog 178 #[.agg (aF d),I a] b (gP b [] 1):=by
 have c:=Zd<|aj b (.cells (aF d) 69) none;by_cases e:a<0
 .go_enter func178,ntmps178;go_wp2_with fail;go_ret2;exact⟨_,rfl,bN _ _,c⟩
 have f:80<a:=gO;go_enter func178,ntmps178;go_wp2_with fail;go_ret2;exact⟨_,rfl,bN _ _,c⟩
def ahz (d:List Int)(Z:d.length=9)(b:Nat)(D:b<=80)(f:W):Calls prog 178 #[.agg (aF d),I b] f (gP f (zn d (au 8) (jV b)) (Nu d (au 8) (jV b))):=by
 have F:=Zd<|bY.new f 69 d;have K:=Zd<|aj f (.cells (aF d) 69) none;have X:(jV b).length=b:=cK _ _;have C:(jV 80).length=80:=cK _ _;have ag:(aF (au 80)).setIfInBounds 0 (I 4096)=aF (jV 80):=by rw[wD,one_set 80 gO]
 have aa:=fT (T:=51) (n:=80) (by kernel_rfl);have v:=Zd λj E (B:aY j E (jV b)) (ah:rD E (jV b))=>XV d (au 8) Z (ak 8) E (jV b) j B ah (by rw[X];omega);have q:=sS d (au 8) (jV b);have M:=Zd λj o (B:bY j o 51 (jV 80))=>show aY j (.slice (some ⟨o,0,none⟩) b 80) (jV b)from by have:=ahy B b 80 (by rw[C];exact D) D;rw[ae5 b D]at this;exact this
 have O:=Zd λo=>show rD (.slice (some ⟨o,0,none⟩) b 80) (jV b)from .inr ⟨_,_,by rw[X]⟩;generalize zn d (au 8) (jV b)=L at *
 generalize Nu d (au 8) (jV b)=en at *
 generalize GH d (au 8) (jV b)=P at *
 generalize jV 80=x at *
 have i1:(b:Int)<=80:=gO;have i2:¬(b:Int)<0:=gO;have i3:¬(80:Int)<b:=gO;go_enter func178,ntmps178;obtain⟨y,z,p⟩:=dG (f.alloc (.cells (aF d) 69)) 51 80 x C;rw[show(f.alloc (.cells (aF d) 69)).heap.size=f.heap.size+1 by simp]at y z p;have J:=Zd y;have H:=Zd z;have G:=Zd<|F.aC p;have s:=Zd<|ay K p;clear y z p F K;go_upto_region 4 with(first|refine sA x J (by rw[C,ak]) (by rw[ak];exact ajV) ?_);clear J ag aa;generalize b_ _ (f.heap.size+1) x=e at *
 generalize f.heap.size+1=r at *
 have u:=Zd λj (af:dB e j)=>M j r (H.aC af);have w:=Zd<|O r;clear M O H;(try simp only[Act.put]);go_cut [7,9]from 10 (λs7 s9 wx=>RgS e L en s7 s9 wx)
 case first=>
  refine wp_region_held_drew (S:=dB e) (by kernel_rfl) (aS _) λa=>?_;refine aV (hy:=by intro w' Y;exact yA (G.aC Y) (by rw[Z];exact bZ)) (v:=.agg (aF d)) 0 a ?_;refine aV (hy:=by intro w' Y;go_simp;exact uR.symm) (v:=.agg (aF (au 8))) 1 a ?_;refine aV 2 a ?_;refine aV (v:=(.slice (some ⟨r,0,none⟩) b 80)) 3 a ?_;refine qN 4 9 (λl c=>?ab) λl c=>?ac
  case ab=>
   (try simp only[sZ]);go_simp;refine(v _ _ (u _ a) w).mono ?_;rintro ae k ⟨vx,rfl,n,T⟩;have ad:=Zd T;have i:=Zd<|n.base (b':=e.heap.size) (K4 a);clear T n;go_wp2_with fail;refine c.out _ _ (aX a ad) λa=>?_;clear c;(try simp only[sZ]);refine aV 5 a ?_;refine aV 6 a ?_;refine aV 7 a ?_;refine aV 8 a ?_;refine eU 9 λl c=>?_;(try simp only[sZ]);go_simp;go_wp2_with fail;have t:=Zs (e.heap.size<=k.heap.size) (by first|exact Q6 _|exact K4 a);refine c.out _ _ (dZ a (.cells #[I 0,I 0,I 0,I 0,I 0,I 0,I 0,I 0] 50)) λa=>?_;clear c;have g:=Zs (bY (k.alloc (.cells #[I 0,I 0,I 0,I 0,I 0,I 0,I 0,I 0] 50)) k.heap.size 50 (au 8)) (bY.new k 50 (au 8));have i:=Zd<|i.aC (aj k (.cells #[I 0,I 0,I 0,I 0,I 0,I 0,I 0,I 0] 50) none);generalize k.alloc (.cells #[I 0,I 0,I 0,I 0,I 0,I 0,I 0,I 0] 50)=ai at *
   (try simp only[sZ]);refine aV 10 a ?_;refine eU 11 λl c=>?_;(try simp only[sZ]);refine eH rfl 50 _ _ rfl (k.heap.size) (au 8) P rfl rfl g (by rw[q,ak]) (by rw[ak];exact bG) ?_;have m:=bF (rs':=P) g (by rw[q,ak]);refine c.out _ _ (jq a m.2 t) λa=>?_;clear c;have i:=Zd<|i.aH m.2 g (by decide);(try simp only[sZ]);refine aV 12 a ?_;refine jX ?_;go_wp2_with fail;go_meet;exact⟨rfl,i,a⟩
  case ac=>
   (try simp only[sZ]);go_simp;go_wp2_with fail;have t:=Zs (e.heap.size<=e.heap.size) (by first|exact Q6 _|exact K4 a);refine c.out _ _ (dZ a (.cells #[I 0,I 0,I 0,I 0,I 0,I 0,I 0,I 0] 50)) λa=>?_;clear c;have g:=Zs (bY ((e.alloc (.cells #[I 0,I 0,I 0,I 0,I 0,I 0,I 0,I 0] 50)).drew) e.heap.size 50 (au 8)) (bY.new e.drew 50 (au 8));generalize (e.alloc (.cells #[I 0,I 0,I 0,I 0,I 0,I 0,I 0,I 0] 50)).drew=al at *
   (try simp only[sZ]);refine eU 4 λl c=>?_;(try simp only[sZ]);go_simp;refine(v _ _ (u _ a) w).mono ?_;rintro ae am ⟨vx,rfl,n,Q⟩;have R:=Zd Q;have i:=Zd<|n.base (b':=e.heap.size) (K4 a);clear Q n;go_wp2_with fail;refine c.out _ _ (aX a R) λa=>?_;clear c;have g:=Zd<|g.aC R;(try simp only[sZ]);refine aV 5 a ?_;refine aV 6 a ?_;refine aV 7 a ?_;refine aV 8 a ?_;refine aV 10 a ?_;refine eU 11 λl c=>?_;(try simp only[sZ]);refine eH rfl 50 _ _ rfl (e.heap.size) (au 8) P rfl rfl g (by rw[q,ak]) (by rw[ak];exact bG) ?_;have m:=bF (rs':=P) g (by rw[q,ak]);refine c.out _ _ (jq a m.2 t) λa=>?_;clear c;have i:=Zd<|i.aH m.2 g (by decide);(try simp only[sZ]);refine aV 12 a ?_;refine jX ?_;go_wp2_with fail;go_meet;exact⟨rfl,i,a⟩
 case rest=>
 obtain⟨rfl,o1,U⟩:=hcut;have OO:=Zd<|o1.base (b':=f.heap.size) (K4 s);have GG:=Zd<|ay s U;clear o1 U G s v u w;go_wp2_with fail;go_ret2;exact⟨_,rfl,OO,GG⟩
def ahA (b:L)(f:b.length=9)(a:Int)(d:W):Calls prog 178 #[.agg (aF b),I a] d (gP d (Vm b a) (Vq b a)):=by
 by_cases c:0<=a/\a<=80
 .rw[show Vm b a=zn b (au 8) (jV a.toNat)from Q9 c,show Vq b a=Nu b (au 8) (jV a.toNat)from Q9 c];have e:a=(a.toNat:Int):=gO;have:=ahz b f a.toNat gO d;rw[<-e]at this;exact this
 rw[show Vm b a=[]from X9 c,show Vq b a=1 from X9 c];exact ajW b a c d
def fold_size (i g:V)(b a:L)(c:W)(l:aY c i b)(k:aY c g a)(f:yG b a=false)(p:b.length<=1000000000000000000)(o:a.length<=1000000000000000000):Calls prog 180 #[i,g] c (gP c [] 1):=by
 obtain⟨m,q,rfl,t,_⟩:=l;obtain⟨n,r,rfl,u,_⟩:=k;have d:=Zd<|aM c none;by_cases e:b.length=a.length
 .have s:¬a.length<=80:=by
   intro j;unfold yG at f;simp[e,j]at f
  have j:(80:Int)<a.length:=gO;rw[e];go_enter func180,ntmps180;go_wp2_with fail;go_ret2;exact⟨_,rfl,bN _ _,d⟩
 have j:¬(b.length:Int)=a.length:=gO;go_enter func180,ntmps180;go_wp2_with fail;go_ret2;exact⟨_,rfl,bN _ _,d⟩
def abv (g f:V)(d a:L)(b:W)(m:aY b g d)(l:aY b f a)(p:d.length=a.length)(u:a.length<=80)(e:okO d a=false):Calls prog 180 #[g,f] b (gP b [] 2):=by
 have c:=Zd<|jv g d b m gO;have j:=Zd<|jv f a b l gO;obtain⟨q,s,rfl,w,_⟩:=m;obtain⟨r,t,rfl,x,_⟩:=l;have i:=Zd<|aM b none;have v:(a.length:Int)<=80:=gO;rw[p]at c ⊢;rcases h:aL d with _|_
 .rw[h]at c;go_enter func180,ntmps180;go_wp2_with fail;refine c.mono ?_;rintro k n ⟨rfl,rfl⟩;go_wp2_with fail;go_ret2;exact⟨_,rfl,bN _ _,i⟩
 have o:aL a=false:=by unfold okO at e;rw[h]at e;simpa using e
 rw[h]at c;rw[o]at j;go_enter func180,ntmps180;go_wp2_with fail;refine c.mono ?_;rintro k n ⟨rfl,rfl⟩;go_wp2_with fail;refine j.mono ?_;rintro k n ⟨rfl,rfl⟩;go_wp2_with fail;go_ret2;exact⟨_,rfl,bN _ _,i⟩
def Vl (e b:L)(d c:Nat):Int:=fE (λa=>aB e a*aB b (d-a)) c
def ahB (d b:L)(c a:Nat):Vl d b c (a+1)=Vl d b c a+aB d a*aB b (c-a):=rfl
def ahC (c b:L)(g:∀a,-32768<=aB c a/\aB c a<=32767)(f:∀a,-32768<=aB b a/\aB b a<=32767)(e d:Nat)(h:d<=80):-90000000000<=Vl c b e d/\Vl c b e d<=90000000000:=by have:=Db (λa=>aB c a*aB b (e-a)) (λa=>sF _ _ (g a).1 (g a).2 (f _).1 (f _).2) d;unfold Vl;omega
def ahD (p o:V)(c b:L)(e:W)(n:aY e p c)(w:aY e o b)(u:c.length=b.length)(h2:b.length<=80)(C:aL c=true)(B:aL b=true):Calls prog 180 #[p,o] e (gP e (f_ b.length (PO c b)) 0):=by
 have l:=Zd<|jv p c e n gO;have t:=Zd<|jv o b e w gO;rw[C]at l;rw[B]at t;have RB:=Zd<|kJ c _ _ gO gO ((bD c).1 C);have k:=Zd<|kJ b _ _ gO gO ((bD b).1 B);have r:=Zd n;obtain⟨ad,R,rfl,U,Z⟩:=n;obtain⟨ah,c',rfl,ai,Y⟩:=w;have q:=Zd Z;have E:=Zd Y;have J:=Zs (agm e (e.alloc (.cells (aF (au b.length)) 3)) 3 (au b.length)) (⟨bY.new e 3 (au b.length),aj _ _ none⟩);have am:=gU b.length gO;have h3:(b.length:Int)<=80:=gO;have i:=Zd u;rw[u]at l U q r ⊢;generalize T:b.length=N at *
 have HN:=Zd T;go_enter func180,ntmps180;go_wp2_with fail;refine l.mono ?_;rintro m w1 ⟨rfl,rfl⟩;go_wp2_with fail;refine t.mono ?_;rintro m D ⟨rfl,rfl⟩;go_wp2_with fail;generalize D.alloc (.cells (aF (au N)) 3)=W0 at *
 go_loopw [34] (λd wr=>∃(a:Nat) (g:L),d=I a/\a<=N/\Hid (jF N (PO c b) a g)/\Hid (agm D wr 3 g)) (λd _=>N-(intOf d).toNat)
 case atStart=>exact⟨0,au N,rfl,QN _,⟨ak N,λd d=>gO⟩,J⟩
 case round=>
  obtain⟨a,g,rfl,hn,j,f⟩:=hrel;by_cases ac:a<N
  .obtain⟨al,rfl,hv⟩:=E gO;obtain⟨Q,rfl,an⟩:=q (by have:=i.out;omega);have H:=Zd hv;have n1:(a:Int)<N:=gO;have n2:(a:Int)+1<=N:=gO;have DI:decide ((a:Int)<N)=true:=by simp;omega
   have⟨vA,v,iA,sA⟩:=ac8 r (.inr ⟨Q,R,by rw[i.out]⟩) (a+1) (by have:=i.out;omega);rw[show((a+1:Nat):Int)=(a:Int)+1 by omega]at v;obtain⟨aA,cA,rfl,X,z⟩:=iA;have ab:(c.take (a+1)).length=a+1:=by have:=i.out;simp;omega
   rw[ab]at v X z;obtain⟨aa,rfl,ae⟩:=z gO;have G:=Zd ae;have P:=Zs ((0:Int)=Vl c b a 0) (rfl);go_wp2_with fail;go_loop [8,42] (λi e=>∃d:Nat,e=I d/\i=I (Vl c b a d)/\d<=a+1) (λ_ e=>a+1-(intOf e).toNat)
   case atStart=>exact⟨0,rfl,by rw[<-P.out],QN _⟩
   case round=>
    obtain⟨d,rfl,rfl,hm⟩:=hrel;by_cases y:d<a+1
    .have x:=aU f.2 (G d y);rw[ug _ _ _ y]at x;have cl:=aU f.2 (H (a-d) gO);have⟨F,K⟩:=RB d;have⟨M,O⟩:=k (a-d);have⟨p1,p2⟩:=sF _ _ F K M O;have⟨s1,s2⟩:=ahC c b RB k a d gO;have s:=Zd<|ahB c b a d;have m1:(d:Int)<a+1:=gO;have hJ:(a:Int)-(d:Int)=((a-d:Nat):Int):=gO;have j1:a-d<N:=gO;generalize aB c d=ap at *
     generalize aB b (a-d)=af at *
     generalize Vl c b a d=S at *
     generalize a-d=ag at *
     go_wp2_with fail;go_round
     case rel=>exact⟨d+1,by go_num,by rw[s.out],gO⟩
     case measure=>simp[intOf];omega
    obtain rfl:d=a+1:=gO;have⟨s1,s2⟩:=ahC c b RB k a (a+1) gO;have O:=Zd λd=>zG (Vl c b a (a+1)) gO gO d;have s:=Zd λd=>zF ((Vl c b a (a+1)+2048) / 4096) d;have F:fA ((Vl c b a (a+1)+2048) / 4096)=PO c b a:=rfl;rw[F]at s;have x:g.length=N:=j.1;have K:=Zd<|eD j ac;have cd:=f.1.cell a gO;have fd:=f.1.free a;have M:=Zd<|f.set a (PO c b a);generalize PO c b a=aq at *
    generalize (Vl c b a (a+1)+2048) / 4096=af at *
    generalize Vl c b a (a+1)=S at *
    generalize aB g a=ao at *
    go_wp2_with fail;refine(O _).mono ?_;rintro m w3 ⟨rfl,rfl⟩;go_wp2_with fail;refine(s _).mono ?_;rintro m w4 ⟨rfl,rfl⟩;go_wp2;go_roundw
    case rel=>exact⟨a+1,_,by go_num,gO,K,M⟩
    case measure=>simp[intOf];omega
  obtain rfl:a=N:=gO;have v:=Zs (g=f_ a (PO c b)) (fB j);have x:g.length=a:=j.1;have d:=adL f.1 (Q6 _) gO;rw[x]at d;have y:=Zd f.2;have s:=Zd d;go_wp2_with fail;go_ret2;rw[v.out]at s;exact⟨_,rfl,s,y⟩
def ahE (f e:V)(b a:L)(c:W)(h:aY c f b)(g:aY c e a)(j:b.length<=1000000000000000000)(i:a.length<=1000000000000000000):Calls prog 180 #[f,e] c (gP c (J9 b a) (Qu b a)):=by
 rcases hs:yG b a with _|_
 .rw[show J9 b a=[] by unfold J9;rw[hs];simp,show Qu b a=1 by unfold Qu;rw[hs];rfl];exact fold_size f e b a c h g hs j i
 have d:=hs;unfold yG at d;simp only[VL,decide_eq_true_eq]at d;rcases hk:okO b a with _|_
 .rw[show J9 b a=[] by unfold J9;rw[hk];simp,show Qu b a=2 by unfold Qu;rw[hs,hk];rfl];exact abv f e b a c h g d.1 d.2 hk
 rw[show J9 b a=f_ a.length (PO b a) by unfold J9;rw[Q9 ⟨hs,hk⟩],show Qu b a=0 by unfold Qu;rw[hs,hk];rfl];unfold okO at hk;simp only[VL]at hk;exact ahD f e b a c h g d.1 d.2 hk.1 hk.2


def o_own:ownKnob prog.godebug=none:=by kernel_rfl
def o_laidOut:laidOutB prog=true:=by kernel_rfl
def Cj:prog.cellsOf 3=1:=by kernel_rfl
def abw:prog.bytesOf 3=8:=by kernel_rfl
section
variable {P:Program} {ops:Array Oper} {Q:Exit→Act→World→Prop} {md:Region.Mode} {S:World→Prop} {g:Nat}
theorem Ut {i:Nat}{oi:Oper}{v:Value}(hi:ops[i]?=some oi)(hsel:∀(j:Nat) (o:Oper) cs b,ops[j]?=some o→o.op≠.select cs b)
 (hQ:∀c a w,Q (.panic c) (a.put oi.dst v) w→Q (.panic c) a w) (hgi:g≠i) (fuel:Nat) :
 ∀(listed:Array Bool) (a:Act) (w:World),Alone md ops i oi listed→i∈Region.ready md ops listed→YieldsIf P ops (fun _=>True) oi v a→(listed.getD g false=false→S w)→
  kI P md ops Q S g fuel (listed.setIfInBounds i true) (a.put oi.dst v) w→kI P md ops Q S g (fuel+1) listed a w:=by
 have here:∀(listed:Array Bool) (w:World),(listed.getD g false=false→S w)→((listed.setIfInBounds i true).getD g false=false→S w):=fun listed w h e=>h (by rw[getD_set_ne false (Ne.symm hgi)]at e;exact e)
 induction fuel with
 | zero=>
  intro listed a w _ hr hy hS H
  constructor
  ·intro h0;rw[h0]at hr;cases hr
  intro j hj
  rcases Nat.decEq j i with hji|rfl
  ·have hnone:=ready_mono hj hji
   rw[H.1]at hnone;cases hnone
  exact hy.wpOp hi trivial ⟨here _ _ hS,H⟩
 | succ fuel ih=>
  intro listed a w hal hr hy hS H
  have aon:=getD_both (mem_ready.1 hr).1
  constructor
  ·intro h0;rw[h0]at hr;cases hr
  intro j hj
  rcases Nat.decEq j i with hji|rfl
  ·obtain⟨hjun,oj,hoj,-⟩:=mem_ready.1 hj
   have step:=wpOp_putIf hoj (hal j oj hoj hji hjun (JF aon hj hoj)) (fun cs b=>hsel i oi cs b hi) (fun cs b=>hsel j oj cs b hoj) hQ hy (H.2 j (ready_mono hj hji))
   refine wpOp_mono (fun a' w' k=>?_) step
   obtain⟨ky,ks,kw⟩:=k
   rw[Array.setIfInBounds_comm _ _ (Ne.symm hji)]at kw ks
   have ks':(listed.setIfInBounds j true).getD g false=false→S w':=fun e=>ks (by rw[getD_set_ne false (Ne.symm hgi)];exact e)
   exact⟨ks',ih _ a' w' hal.more (ready_mono hr (Ne.symm hji)) ky ks' kw⟩
  exact hy.wpOp hi trivial ⟨here _ _ hS,H⟩
theorem iB {i:Nat}{oi:Oper}{v:Value}{fuel:Nat}{listed:Array Bool}{a:Act}{w:World}(hi:ops[i]?=some oi)
 (hst:(Region.noSelect ops&&Region.free md ops listed i&&(Region.ready md ops listed).contains i&&g != i)=true)
 (hcl:Closed md ops listed)
 (hQ:∀c a w,Q (.panic c) (a.put oi.dst v) w→Q (.panic c) a w) (hy:YieldsIf P ops (fun _=>True) oi v a) (hS:S w)
 (h:Closed md ops (listed.setIfInBounds i true)→kI P md ops Q S g fuel (listed.setIfInBounds i true) (a.put oi.dst v) w):kI P md ops Q S g (fuel+1) listed a w:=by
 simp only[Bool.and_eq_true,bne_iff_ne]at hst
 obtain⟨⟨⟨h1,h2⟩,h3⟩,h5⟩:=hst
 have h3':i∈Region.ready md ops listed:=by simpa using h3
 exact Ut hi (Region.noSelect_spec h1) hQ h5 fuel listed a w (Region.free_spec hi h2) h3' hy (fun _=>hS) (h (hcl.set h3'))
end
def abB:prog.cellsOf 5=1:=by kernel_rfl
def abC:prog.bytesOf 5=1:=by kernel_rfl
def al7 (a:(Lit.int .u8 i).wf=true):0<=i/\i<256:=by simp[Lit.wf,IntKind.has,IntKind.min,IntKind.max,IntKind.signed,IntKind.bits]at a;omega
def kT (a:W)(c:L)(d:Bool)(b:W):Prop:=bU b a.heap.size c d/\bU b (a.heap.size+1) (au 101) false/\a.grownBy b none
def kT.new (c:W)(a:L)(b:Bool):kT c a b ((c.alloc (.cells (aP a b).toArray 53)).alloc (.cells (aP (au 101) false).toArray 53)):=by refine⟨(bU.new c a b).aC (aj _ _ none),?_,ay (aj _ _ none) (aj _ _ none)⟩;have:=bU.new (c.alloc (.cells (aP a b).toArray 53)) (au 101) false;simpa using this
def kT.aC (b:kT w l s w')(a:w'.grownBy u none):kT w l s u:=⟨b.1.aC a,b.2.1.aC a,ay b.2.2 a⟩
def kT.set (b:kT w l s w')(a:Nat)(c:Int)(d:a<l.length):kT w (l.set a c) s (w'.setCell (A w.heap.size a) (I c)):=
 ⟨b.1.set a c d,b.2.1.aH (aD w' (A w.heap.size a) _) (by simp),aG b.2.2 (aD w' (A w.heap.size a) _) (Q6 _)⟩
def kT.put (c:kT w l s w')(b:Nat)(a:L)(d:b+a.length<=l.length):kT w (jd l b a) s (dz w' w.heap.size b (aQ a)):=by have:=c.1.put b a d;exact⟨this.1,c.2.1.aH this.2 gO,aG c.2.2 this.2 (Q6 _)⟩
def kT.fin (c:kT w l s w')(a:L)(b:Bool)(d:a.length=101):bU (dz w' (w.heap.size+1) 0 (aP a b)) (w.heap.size+1) a b/\w.grownBy (dz w' (w.heap.size+1) 0 (aP a b)) none:=by have:=c.2.1.dQ (m:=a) (t:=b) (ak 101) d;exact⟨this.1,aG c.2.2 this.2 gO⟩
def set_self (b:L)(a:Nat)(d:a<b.length):b.set a (aB b a)=b:=by
 apply List.ext_getElem?;intro e;rw[WB];by_cases c:a=e
 .subst c;simp[d,aB,List.getD]
 simp[c]
def iZ (c:L)(a:Nat)(f:Int)(b d:Nat)(e:a<c.length)(g:a<b\/b+d<=a):bM (c.set a f) b d=bM c b d:=by refine dL (aT _ _ _) λa a=>?_;rw[fV _ _ _ _ a,iM _ _ _ e,nO]
def qD (b:aL l=true):iI l:=λa=>by
 by_cases c:a<l.length
 .have:=(bD l).1 b a c;omega
 rw[dI _ a gO];omega
def Gc (b:W)(e:List Int)(f:Bool)(L:List Int)(d:Ending)(c:W):Prop:=∃a,d=.returned (.tuple #[bL e f,a])/\fO b.heap.size c a L/\b.grownBy c none
def oO (c:L)(b a:Nat)(d:b+a<=c.length):((aQ c).drop b).take a=aQ (bM c b a):=by have:=tH c [] b a d;unfold mI at this;rwa [F3]at this
def tX (b:L)(a:Nat)(c:a<b.length):(aQ b)[a]?=some (I (aB b a)):=by have:=rH b [] a c;unfold mI at this;rwa [F3]at this
def ae_ (c a:L)(b:Nat)(d:b+a.length<=c.length):lu (aQ c) b (aQ a)=aQ (jd c b a):=by have:=rJ c [] b a d;unfold mI at this;rwa [F3,F3]at this
def amb (c:aW w n T (aQ l))(b:Nat)(a:L)(d:b+a.length<=l.length):aW (dz w n b (aQ a)) n T (aQ (jd l b a))/\w.grownBy (dz w n b (aQ a)) (some n):=by have:=qM c b (aQ a) (by rw[aN,aN];omega);rw[ae_ _ _ _ d]at this;exact this
def aW.alj (a:bY w n T l):aW w n T (aQ l):=a
def aW.alk (a:aW w n T (aQ l)):bY w n T l:=a
def bU.own (c:bU w n l s)(b:w.grownBy w' z)(d:∀a,z=some a->n≠a):bU w' n l s:=by
 rcases z with _|a
 .exact c.aC b
 exact c.aH b (d a rfl)
def aW.own (c:aW w n T y)(b:w.grownBy w' z)(d:∀a,z=some a->n≠a):aW w' n T y:=by
 rcases z with _|a
 .exact c.aC b
 exact c.aH b (d a rfl)
def Rk (a:W)(c:TypeId)(f:L)(d:L)(e:Bool)(b:W):Prop:=bU b a.heap.size d e/\aW b (a.heap.size+1) c (aQ f)/\bU b (a.heap.size+1+1) (au 101) false/\a.grownBy b none
def Rk.new (c:W)(d:TypeId)(e a:L)(b:Bool):Rk c d e a b (((c.alloc (.cells (aP a b).toArray 53)).alloc (.cells (aF e) d)).alloc (.cells (aP (au 101) false).toArray 53)):=by
 refine⟨((bU.new c a b).aC (aj _ _ none)).aC (aj _ _ none),?_,?_,ay (ay (aj _ _ none) (aj _ _ none)) (aj _ _ none)⟩
 .have:=(aW.new (c.alloc (.cells (aP a b).toArray 53)) d (aQ e)).aC (aj _ (.cells (aP (au 101) false).toArray 53) none);rw[tF]at this;simpa using this
 have:=bU.new ((c.alloc (.cells (aP a b).toArray 53)).alloc (.cells (aF e) d)) (au 101) false;simpa using this
def Rk.aC (b:Rk w T l p s w')(a:w'.grownBy u none):Rk w T l p s u:=⟨b.1.aC a,b.2.1.aC a,b.2.2.1.aC a,ay b.2.2.2 a⟩
def Rk.own (b:Rk w T l p s w')(a:w'.grownBy u z)(d:∀c,z=some c->w.heap.size+1+1+1<=c):Rk w T l p s u:=by
 rcases z with _|c
 .exact b.aC a
 have:=d c rfl;exact⟨b.1.aH a gO,b.2.1.aH a gO,b.2.2.1.aH a gO,aG b.2.2.2 a gO⟩
def Rk.mem {c:Bool}(b:Rk w T l p s w')(d:bU u w.heap.size r c)(a:w'.grownBy u (some w.heap.size)):Rk w T l r c u:=⟨d,b.2.1.aH a gO,b.2.2.1.aH a gO,aG b.2.2.2 a (Q6 _)⟩
def Rk.all {m:L}{t:Bool}(a:Rk w T l p s w')(b:p.length=101)(c:m.length=101):Rk w T l m t (dz w' w.heap.size 0 (aP m t))/\w'.grownBy (dz w' w.heap.size 0 (aP m t)) (some w.heap.size):=by have:=a.1.dQ (m:=m) (t:=t) b c;exact⟨a.mem this.1 this.2,this.2⟩
def Rk.put (c:Rk w T l p s w')(b:Nat)(a:L)(d:b+a.length<=p.length):Rk w T l (jd p b a) s (dz w' w.heap.size b (aQ a))/\w'.grownBy (dz w' w.heap.size b (aQ a)) (some w.heap.size):=by have:=c.1.put b a d;exact⟨c.mem this.1 this.2,this.2⟩
def Rk.fin (c:Rk w T l p s w')(a:L)(b:Bool)(d:a.length=101):bU (dz w' (w.heap.size+1+1) 0 (aP a b)) (w.heap.size+1+1) a b/\w.grownBy (dz w' (w.heap.size+1+1) 0 (aP a b)) none/\w'.grownBy (dz w' (w.heap.size+1+1) 0 (aP a b)) (some (w.heap.size+1+1)):=by have:=c.2.2.1.dQ (m:=a) (t:=b) (ak 101) d;exact⟨this.1,aG c.2.2.2 this.2 gO,this.2⟩
def ahU (S:Int)(c:-262144<=S)(d:S<=262144):-262144<=S.tdiv 4/\S.tdiv 4<=262144:=by
 rcases Int.le_total 0 S with a|a
 .rw[YS a];omega
 have b:S.tdiv 4=-((-S).tdiv 4):=by rw[Int.neg_tdiv];omega
 rw[b,YS gO];omega
def akd (c d:L)(g:c.length=8)(x:d.length=8)(a:Int)(P:0<=a)(Q:a<=4)(n:cZ c=true)(o:cZ d=true)(j:World):Calls prog 177 #[.agg (aF c),.agg (aF d),I a] j (qP j (pR c d a) (CP c d a)):=by
 have l:=Zd<|oQ j 50 50 50 c d (au 8);rw[uR]at l;have W:=Zd<|lT a 0 4;rw[show(decide (0<=a)&&decide (a<=4))=true by simp;omega]at W;have u:=Zd<|jD c g;have v:=Zd<|jD d x;rw[n]at u;rw[o]at v;have E:=Zd λk i=>gF c underlying50 k i g;go_enter func177,ntmps177;go_wp2_with fail;refine(W _).mono ?_;rintro w y ⟨rfl,rfl⟩;go_wp2_with (first|refine fD (by first|rfl|(simp[Region.wanted,yielded];omega)) 50 _ rfl _ rfl _ l.1 _ underlying50 rfl (by rw[g];exact bG) ?_);refine(u _).mono ?_;rintro w y ⟨rfl,J⟩;have r:=Zs (iX j y 50 50 50 c d (au 8)) (iX.aC l J);go_wp2_with (first|refine fD (by first|rfl|(simp[Region.wanted,yielded];omega)) 50 _ rfl _ rfl _ r.2.1 _ underlying50 rfl (by rw[x];exact bG) ?_);refine(v _).mono ?_;rintro w w2 ⟨rfl,K⟩;have s:=Zd<|r.aC K;go_wp2_with (refine lA s.1 (by rw[g];exact bG) ?_);have F:=Zd<|(iO c).1 n;have G:=Zd<|(iO d).1 o;have t:=Zs (V_ c d a=true) (by unfold V_;simp[P,Q,n,o]);go_loopw [25] (λf wr=>∃(b:Nat) (e:L),f=I b/\b<=8/\Hid (jF 8 (Iq c d a) b e)/\Hid (iX j wr 50 50 50 e d (au 8))) (λf _=>8-(intOf f).toNat)
 case atStart=>exact⟨0,c,rfl,QN _,⟨g,λk i=>gO⟩,s⟩
 case round=>
  obtain⟨b,e,rfl,hm,k,f⟩:=hrel;by_cases M:b<8
  .have ix:=E b gO;have Y:=f.2.1.cell b gO;have⟨R,T⟩:=F b gO;have⟨U,X⟩:=G b gO;have i:e.length=8:=k.1;have B:=Zd<|eD k M;have z:=Zs (Iq c d a b=(aB c b*(4-a)+aB d b*a).tdiv 4) (rfl);have Z:=f.1.cell b gO;have fd:=f.1.free b;have C:=Zd<|f.set b (Iq c d a b);generalize Iq c d a b=ae at *
   generalize aB c b=p at *
   generalize aB d b=q at *
   generalize aB e b=y' at *
   have i0:(0:Int)<=b:=gO;have i1:(b:Int)<8:=gO;have D:-131072<=p*(4-a)/\p*(4-a)<=131072:=by
    have m:a=0\/a=1\/a=2\/a=3\/a=4:=gO;rcases m with rfl|rfl|rfl|rfl|rfl<;>omega
   have H:-131072<=q*a/\q*a<=131072:=by
    have m:a=0\/a=1\/a=2\/a=3\/a=4:=gO;rcases m with rfl|rfl|rfl|rfl|rfl<;>omega
   have⟨aa,ab⟩:=D;have⟨ac,ad⟩:=H;have O:=ahU (p*(4-a)+q*a) gO gO;have⟨q1,q2⟩:=O;go_wp2_with fail;rw[<-z.out];go_roundw
   case rel=>exact⟨b+1,_,by go_num,gO,B,C⟩
   case measure=>simp[intOf];omega
  obtain rfl:b=8:=gO;have i:e.length=8:=k.1;have B:=Zs (pR c d a=e) (by rw[fB k.out];simp[pR,t.out]);have z:=Zs (CP c d a=0) (by simp[CP,t.out]);have q:=Zd f.1;have m:=Zd f.2.2.1;have D:=Zd f.2.2.2;go_wp2_with (first|refine lA q (by rw[i];exact bG) ?_|refine sA e m (by rw[i,ak]) (by rw[ak];exact bG) ?_);have p:=bF (rs':=e) m (by rw[i,ak]);have H:=kU p.1 (by rw[i];exact bG);have C:=Zd<|aG D p.2 gO;refine QB (v:=.tuple #[.agg (aF e),I 0]) ?_ rfl ?_
  .simp[results,results177,asAddr,Act.put,H]
  rw[B.out,z.out];exact⟨rfl,C⟩
def abI (c:L)(k:c.length=9)(b:Int)(u:0<=b)(v:b<=32768)(n:Bf c=true)(e:World):Calls prog 156 #[.agg (aF c),I b] e (qP e (wF c b) (Bu c b)):=by
 have i:=Zd<|nI e 69 69 c (au 9);rw[oV]at i;have W:=Zd<|lT b 0 32768;rw[show(decide (0<=b)&&decide (b<=32768))=true by simp;omega]at W;have q:=Zd<|rX i.1 9 gO;rw[k]at q;have A:=Zd<|nT (.slice (some ⟨e.heap.size,0,none⟩) 9 9) c (-1073741824) 1073741824 _ q gO;rw[XO,n]at A;have C:=Zd λj g=>gF c underlying69 j g k;have z:=Zd<|Sy b u v;have r:=Zs (OH c b=true) (by unfold OH;simp[u,v,n]);have F:=Zd<|(zX c).1 n;go_enter func156,ntmps156;go_wp2_with fail;refine(W _).mono ?_;rintro l w ⟨rfl,rfl⟩;go_wp2_with fail;refine A.mono ?_;rintro l w ⟨rfl,rfl⟩;go_wp2_with (refine lA i.1 (by rw[k];exact bZ) ?_);have D:=Zs (jc e _ 69 69 c (au 9)) (i);generalize (e.alloc (.cells (aF c) 69)).alloc _=M at *
 go_loopw [6,19] (λm f wr=>∃(a:Nat) (d:L),m=I (Er b a)/\f=I a/\a<=9/\Hid (jF 9 (JM c b) a d)/\Hid (jc e wr 69 69 d (au 9))) (λ_ f _=>9-(intOf f).toNat)
 case atStart=>exact⟨0,c,rfl,rfl,QN _,⟨k,λj g=>gO⟩,D⟩
 case round=>
  obtain⟨a,d,rfl,rfl,R,j,f⟩:=hrel;by_cases J:a<9
  .have U:=C a gO;have⟨G,H⟩:=F a gO;have⟨s,t⟩:=z a;have⟨X,Y⟩:=zY _ _ G H s t;have⟨K,p4⟩:=zY b (Er b a) gO gO s t;rw[V7]at K p4;have o:=Zd λe=>Ri (aB c a*Er b a) gO gO e;have p:=Zd λe=>Ri (Er b a*b) gO gO e;have x:=Zs ((aB c a*Er b a+16384) / 32768=JM c b a) (rfl);have y:=Zs ((Er b a*b+16384) / 32768=Er b (a+1)) (rfl);rw[x.out]at o;rw[y.out]at p;have E:=Zd<|eD j J;have g:d.length=9:=j.1;have P:=f.1.cell a gO;have Q:=f.1.free a;have B:=Zd<|f.set a (JM c b a);generalize JM c b a=aa at *
   generalize aB c a=O at *
   generalize Er b a=m at *
   generalize aB d a=y' at *
   have T:(a:Int)<9:=gO;go_wp2_with fail;refine(o _).mono ?_;rintro l w ⟨rfl,rfl⟩;go_wp2_with fail;refine(p _).mono ?_;rintro l Z ⟨rfl,rfl⟩;go_wp2;go_roundw
   case rel=>exact⟨a+1,_,rfl,by go_num,gO,E,B⟩
   case measure=>simp[intOf];omega
  obtain rfl:a=9:=gO;have x:=Zs (wF c b=d) (by rw[fB j.out];simp[wF,r.out]);have t:=Zs (Bu c b=0) (by simp[Bu,r.out]);have g:d.length=9:=j.1;have s:=Zd f.1;have o:=Zd f.2.1;have B:=Zd f.2.2;generalize Er b 9=m at *
  go_wp2_with (first|refine lA s (by rw[g];exact bZ) ?_|refine sA d o (by rw[g,ak]) (by rw[ak];exact bZ) ?_);have p:=bF (rs':=d) o (by rw[g,ak]);have E:=kU p.1 (by rw[g];exact bZ);have y:=Zd<|aG B p.2 gO;refine QB (v:=.tuple #[.agg (aF d),I 0]) ?_ rfl ?_
  .simp[results,results156,asAddr,Act.put,E]
  rw[x.out,t.out];exact⟨rfl,y⟩
def Yk (A:L)(d:Nat)(e:Int)(c:Nat)(b:L):Prop:=b.length=9/\∀a,aB b a=if a<c then gr (aB A) d e a else aB A a
def abK {A:L}(c:Yk A n i b l)(g:1<=b)(h:b<=n)(a:n<=8):Yk A n i (b+1) (l.set b (aB A b+i*aB A (n-b) / 32768)):=by
 refine⟨by simpa using c.1,λa=>?_⟩;by_cases e:a=b
 .subst e;have d:=c.1;rw[pO];unfold gr;rw[Q9 ⟨g,h⟩];simp[aB,List.getD,show a<l.length by omega]
 have f:aB (l.set b (aB A b+i*aB A (n-b) / 32768)) a=aB l a:=by simp[aB,List.getD,WB,Ne.symm e]
 rw[f,c.2 a];by_cases d:a<b
 .rw[Q9 d,pO]
 rw[X9 d,nO]
def Yl (A:L)(b:A.length=9)(c:Nat)(d:Int):Yk A c d 1 A:=⟨b,λb=>by
 by_cases a:b<1
 .rw[Q9 a];unfold gr;rw[nO]
 rw[X9 a]⟩
def afa {A:L}(b:Yk A n i (n+1) l):l=f_ 9 (gr (aB A) n i):=dL b.1 (λc _=>by
 rw[b.2 c];by_cases a:c<n+1
 .rw[Q9 a]
 rw[X9 a];unfold gr;rw[nO])
def akf (b c:W)(A a:L):Prop:=iX b c 69 69 69 A (au 9) a
def ahV {A:L}(b:akf w w' A l)(a:Nat)(c:Int):akf w (w'.setCell ⟨w.heap.size+1+1,a,none⟩ (I c)) A (l.set a c):=
 ⟨b.1.aH (aD _ ⟨w.heap.size+1+1,a,none⟩ _) (by simp;omega),b.2.1.aH (aD _ ⟨w.heap.size+1+1,a,none⟩ _) (by simp),b.2.2.1.set a c,aG b.2.2.2 (aD _ ⟨w.heap.size+1+1,a,none⟩ _) (by simp;omega)⟩
def abL (b:W)(A:L)(g:A.length=9):akf b (b_ (((b.alloc (.cells (aF A) 69)).alloc (.cells (aF (au 9)) 69)).alloc (.cells (aF (au 9)) 69)) (b.heap.size+1+1) A) A A:=by have⟨c,d,e,f⟩:=oQ b 69 69 69 A (au 9) (au 9);have a:=bF (rs':=A) e (by rw[g,ak]);exact⟨c.aH a.2 gO,d.aH a.2 gO,a.1,aG f a.2 gO⟩
def Rn (A:L)(p:A.length=9)(d:Nat)(J:d<=8)(j:Int)(P:-32768<=j)(Q:j<=32768)(z:Wi (aB A) 4294967296)(b:W):Calls prog 173 #[.agg (aF A),I d,I j] b (uJ b (.agg (aF (f_ 9 (gr (aB A) d j))))):=by
 have s:=Zd<|oQ b 69 69 69 A (au 9) (au 9);rw[oV]at s;have q:=Zd<|bY.new b 69 A;have r:=Zd<|nI b 69 69 A (au 9);rw[oV]at r;have u:=Zd s.2.2.1;have t:=Zd<|abL b A p;rw[oV]at t;have o:=Zd z;clear s z q;go_enter func173,ntmps173;go_wp2_with (first|refine lA r.1 (by rw[p];exact bZ) ?_|refine sA A u (by rw[p,ak]) (by rw[ak];exact bZ) ?_);clear r u;generalize b_ _ (b.heap.size+1+1) A=Y at *
 go_loopw [8] (λc wr=>∃(a:Nat) (l:L),c=I a/\1<=a/\a<=d+1/\Hid (Yk A d j a l)/\Hid (akf b wr A l)) (λc _=>9-(intOf c).toNat)
 case atStart=>exact⟨1,A,rfl,gO,gO,Yl A p d j,t⟩
 case round=>
  obtain⟨a,l,rfl,G,aa,m,k⟩:=hrel;clear t;by_cases H:a<=d
  .have n:l.length=9:=m.1;have x:=k.2.2.1.cell a gO;have Z:=k.2.2.1.free a;have F:=k.1.cell (d-a) gO;have y:aB l a=aB A a:=by rw[m.out.2 a,X9 gO]
   rw[y]at x;have D:=Zd<|abK m G H J;have E:=Zd<|ahV k a (aB A a+j*aB A (d-a) / 32768);have⟨z1,z2⟩:=o a;have⟨R,T⟩:=o (d-a);have⟨p1,p2⟩:=CQ j _ _ P Q R T;have v:=Zs (IntKind.i64.wrap ((d:Int)-(a:Int))=((d-a:Nat):Int)) (by rw[eG _ gO gO];omega);have j8:((d-a:Nat):Int)<9:=gO;have j0:(0:Int)<=((d-a:Nat):Int):=gO;clear m k o y;have w:=Zd<|eG (j*aB A (d-a)) gO gO;have X:=Zd<|eG (aB A a+j*aB A (d-a) / 32768) gO gO;generalize K:aB A (d-a)=C at *
   generalize M:aB A a=U at *
   clear K M;generalize d-a=B at *
   have k9:(a:Int)<9:=gO;have k0:(0:Int)<=a:=gO;have O:(a:Int)<=d:=gO;have f:=And.intro x F;go_wp2_with fail;refine bW 13 ((λe=>e.cell? ⟨b.heap.size+1+1,a,none⟩=some (I U)/\e.cell? ⟨b.heap.size,B,none⟩=some (I C))) 14 (by rfl) _ rfl (by kernel_rfl) λb=>?_;refine iN (hy:=by intro e c;have⟨g,i⟩:=c;go_simp;try with_reducible rfl) 0 f b λb=>?_;refine iN (hy:=by intro e c;have⟨g,i⟩:=c;go_simp;try with_reducible rfl) 1 f b λb=>?_;refine iN (hy:=by intro e c;have⟨g,i⟩:=c;go_simp;try with_reducible rfl) 2 f b λb=>?_;refine iN (hy:=by intro e c;have⟨g,i⟩:=c;go_simp;try with_reducible rfl) 3 f b λb=>?_;refine iN (hy:=by intro e c;have⟨g,i⟩:=c;go_simp;try with_reducible rfl) 4 f b λb=>?_;refine iN (hy:=by intro e c;have⟨g,i⟩:=c;go_simp;try with_reducible rfl) 5 f b λb=>?_;refine iN (hy:=by intro e c;have⟨g,i⟩:=c;go_simp;(first|exact v|rw[v.out]|(simp;omega))) (v:=I (B:Int)) 6 f b λb=>?_;refine iN (hy:=by intro e c;have⟨g,i⟩:=c;go_simp;try with_reducible rfl) 7 f b λb=>?_;refine iN (hy:=by intro e c;have⟨g,i⟩:=c;go_simp;try with_reducible rfl) 8 f b λb=>?_;refine iN (hy:=by intro e c;have⟨g,i⟩:=c;go_simp;(first|exact w|rw[w.out]|(simp;omega))) (v:=I (j*C)) 9 f b λb=>?_;refine iN (hy:=by intro e c;have⟨g,i⟩:=c;go_simp;try with_reducible rfl) 10 f b λb=>?_;refine iN (hy:=by intro e c;have⟨g,i⟩:=c;go_simp;try with_reducible rfl) 11 f b λb=>?_;refine iN (hy:=by intro e c;have⟨g,i⟩:=c;go_simp;try with_reducible rfl) 12 f b λb=>?_;refine jY 13 b λc c=>?_;(try simp only[sZ]);go_simp;go_wp2_with fail;refine c.out _ _ (λe=>by cases e) λb=>?_;clear c;(try simp only[sZ]);refine bI _ _ _ _ (by rfl) ?_;refine wm ?_;go_wp2_with fail;go_roundw
   case rel=>exact⟨a+1,_,by go_num,gO,gO,D,iX.aC E (bB (aM _ none))⟩
   case measure=>simp[intOf];omega
  obtain rfl:a=d+1:=gO;have n:l.length=9:=m.1;have f:=Zd<|afa m;have q:=Zd k.2.2.1;have c:=Zd k.2.1;have i:=Zd k.2.2.2;clear m k o;have O:¬((d+1:Nat):Int)<=d:=gO;go_wp2_with (first|refine lA q (by rw[n];exact bZ) ?_|refine sA l c (by rw[n,ak]) (by rw[ak];exact bZ) ?_);have e:=bF (rs':=l) c (by rw[n,ak]);have v:=kU e.1 (by rw[n];exact bZ);have g:=Zd<|aG i e.2 gO;refine QB (v:=.agg (aF l)) ?_ rfl ?_
  .simp[results,results173,asAddr,Act.put,v]
  rw[<-f.out];exact⟨rfl,g⟩
def abM (A c:L)(y:A.length=9)(z:c.length=9)(a:Nat)(w:1<=a)(x:a<=8)(i:Wi (aB A) 4294967296)(g:RB (aB c))(d:W):Calls prog 171 #[.agg (aF A),.agg (aF c),I a] d (uJ d (I (mis (aB A) (aB c) a a))):=by
 have e:=Zd<|nI d 69 69 A c;have k:=Zs (∀b,b=mis (aB A) (aB c) a a->uJ d (I (mis (aB A) (aB c) a a)) (.returned (I b)) ((d.alloc (.cells (aF A) 69)).alloc (.cells (aF c) 69))) (λb b=>⟨by rw[b],e.2.2⟩);generalize uJ d (I (mis (aB A) (aB c) a a))=s at *
 have m:=Zd i;have l:=Zd g;have n:=Zd<|SF i g a;have E:(0:Int)<=a:=gO;have F:(a:Int)<=9:=gO;go_enter func171,ntmps171;go_wp2_with fail;generalize (d.alloc (.cells (aF A) 69)).alloc _=t at *
 go_loop [7,13] (λf d=>∃b:Nat,f=I (mis (aB A) (aB c) a b)/\d=I b/\b<=a) (λ_ d=>a-(intOf d).toNat)
 case atStart=>exact⟨0,rfl,rfl,QN _⟩
 case round=>
  obtain⟨b,rfl,rfl,B⟩:=hrel;by_cases C:b<a
  .have u:=e.1.cell b gO;have v:=e.2.1.cell (a-b) gO;have⟨o,p⟩:=m b;have⟨q,r⟩:=l (a-b);have⟨⟨G,H⟩,J,p4⟩:=JO _ _ o p q r;have⟨K,M⟩:=n b;have j:=Zs (mis (aB A) (aB c) a (b+1)=mis (aB A) (aB c) a b+(aB A b / 512*aB c (a-b)) / 32768) (rfl);have D:((a:Int)-(b:Int)).toNat=a-b:=gO;have O:(0:Int)<=(a:Int)-b:=gO;have P:(a:Int)-b<9:=gO;generalize mis (aB A) (aB c) a b=f at *
   generalize aB A b=Q at *
   generalize aB c (a-b)=R at *
   go_wp2_with fail;go_round
   case rel=>exact⟨b+1,by rw[j.out],by go_num,gO⟩
   case measure=>simp[intOf];omega
  obtain rfl:b=a:=gO;have j:=Zd<|k _ rfl;generalize mis (aB A) (aB c) b b=f at *
  go_wp2_with fail;exact j
def ahW (c:Nat->Int)(a:Nat)(f:a<=8)(d:Int):f_ 9 (gr (aB (f_ 9 c)) a d)=f_ 9 (gr c a d):=by apply dL (cK _ _);intro e b;rw[dP _ _ _ b];unfold gr;rw[dP _ _ _ b,dP _ _ _ (show a-e<9 by omega)]
def ahX (c:Wi f i)(a:0<=i)(b:Nat):Wi (aB (f_ b f)) i:=λa=>by
 by_cases d:a<b
 .rw[dP _ _ _ d];exact c a
 rw[dI _ a (by rw[cK];omega)];omega
def Ro {d c:Nat->Int}:∀a,(∀b,b<a->f b=d b)->mis f c n a=mis d c n a
 | 0,_=>rfl
 | a+1,e=>by
  show mis f c n a+_=mis d c n a+_;rw[Ro a (λb c=>e b gO),e a gO]
def akg (b c:Nat->Int)(a:Nat)(d:a<=9):mis (aB (f_ 9 b)) c a a=mis b c a a:=Ro a (λa a=>dP _ _ _ gO)
def akh:L:=[16777216,0,0,0,0,0,0,0,0]
def Ym:akh=f_ 9 CU:=by decide
def Yn:aF akh=#[I 16777216,I 0,I 0,I 0,I 0,I 0,I 0,I 0,I 0]:=rfl
def Uz (a b:W)(d:L)(c:Nat)(A:L):Prop:=
 bY b a.heap.size 50 d/\bY b (a.heap.size+1) 69 (au 9)/\bY b c 69 A/\a.heap.size+1<c/\a.grownBy b none
def afb {A:L}(a:Uz w w' l n A)(b:w'.grownBy u none):Uz w u l n A:=
 ⟨a.1.aC b,a.2.1.aC b,a.2.2.1.aC b,a.2.2.2.1,ay a.2.2.2.2 b⟩
def ahY {A:L}(a:Uz w w' l n A)(b:L)(e:b.length=A.length):Uz w (b_ w' n b) l n b:=by have c:=bF (rs':=b) a.2.2.1 e;have d:=a.2.2.2.1;exact⟨a.1.aH c.2 gO,a.2.1.aH c.2 gO,c.1,d,aG a.2.2.2.2 c.2 gO⟩
def ahZ {A:L}(a:Uz w w' l n A)(b:Nat)(c:Int):Uz w (w'.setCell ⟨n,b,none⟩ (I c)) l n (A.set b c):=by have d:=aD w' ⟨n,b,none⟩ (I c);have e:=a.2.2.2.1;exact⟨a.1.aH d (by simp;omega),a.2.1.aH d (by simp;omega),a.2.2.1.set b c,e,aG a.2.2.2.2 d (by simp;omega)⟩
def abN (a:jc w w' 50 69 l (au 9))(L:List Int)(d:L.length=9):Uz w (b_ (w'.alloc (.cells (aF (au 9)) 69)) w'.heap.size L) l w'.heap.size L:=by have⟨e,c,b⟩:=dG w' 69 9 L d;exact⟨a.1.aC b,a.2.1.aC b,c,a.2.1.lt,ay a.2.2 b⟩
def afc (a:L)(i:a.length=8)(m:cZ a=false)(c:W):Calls prog 155 #[.agg (aF a)] c (qP c (au 9) 2):=by have b:=Zd<|nI c 50 69 a (au 9);rw[oV]at b;have o:=JN;have f:=Zd<|jD a i;rw[m]at f;go_enter func155,ntmps155;go_wp2_with (refine lA b.1 (by rw[i];exact bG) ?_);refine(f _).mono ?_;rintro n p ⟨rfl,g⟩;have d:=Zd<|b.2.1.aC g;have k:=Zd<|ay b.2.2 g;go_wp2_with (first|refine sA (au 9) d rfl (by rw[ak];exact bZ) ?_);have e:=bF (rs':=au 9) d rfl;have l:=kU e.1 (by rw[ak];exact bZ);have j:=Zd<|aG k e.2 gO;refine QB (v:=.tuple #[.agg (aF (au 9)),I 2]) ?_ rfl ⟨rfl,j⟩;simp[results,results155,asAddr,Act.put,l]
def abO (b:List Int)(n:b.length=8)(p:cZ b=true)(k:W):Calls prog 155 #[.agg (aF b)] k (qP k (pG b) (zh b)):=by
 have q:=Zd<|nI k 50 69 b (au 9);rw[oV]at q;have C:=Zd<|jD b n;rw[p]at C;have m:=Zd<|Fb n p;have y:=Zs (pG b=f_ 9 (Fa (aB b))) (by simp[pG,p]);have x:=Zs (zh b=0) (by simp[zh,p]);have g:=Zd λt o=>gF b underlying50 t o n;clear p;go_enter func155,ntmps155;go_wp2_with (refine lA q.1 (by rw[n];exact bG) ?_);refine(C _).mono ?_;rintro K u ⟨rfl,M⟩;have F:=Zs (jc k u 50 69 b (au 9)) (jc.aC q M);have v:=Zd<|bY.new u 69 (au 9);rw[oV]at v;obtain⟨L,s⟩:∃L,L=akh:=⟨_,rfl⟩;have O:L.length=9:=by subst s;rfl
 have G:=Zs (aF L=_) (by subst s;exact Yn);have l:=Zd<|abN F L O;rw[oV]at l;have E:=Zd s;clear q M C F s;go_wp2_with (first|(refine qO rfl 69 _ _ rfl _ (au 9) L rfl (by rw[G.out];rfl) v (by rw[O,ak]) (by rw[ak];exact bZ) ?_;generalize b_ _ u.heap.size L=W0 at *)|refine lA l.1 (by rw[n];exact bG) ?_);rw[E.out,Ym]at l;clear v G E;generalize u.heap.size=J at *
 go_loopw [15] (λc wr=>∃a:Nat,c=I a/\a<=8/\Hid (Uz k wr b J (f_ 9 (zZ (aB b) a)))) (λc _=>8-(intOf c).toNat)
 case atStart=>exact⟨0,rfl,QN _,l⟩
 case round=>
  obtain⟨a,rfl,hm,j⟩:=hrel;clear l;by_cases Z:a<8
  .have Q:=g a gO;have⟨U,X⟩:=m a Z;have e:=cK 9 (zZ (aB b) a);have d:=Zd<|Rn (f_ 9 (zZ (aB b) a)) e (a+1) gO (aB b a) U X (ahX ((zf (aB b) m a gO).le (by decide)) (by decide) 9);rw[ahW _ _ gO]at d;have z:=Zs (f_ 9 (gr (zZ (aB b) a) (a+1) (aB b a))=f_ 9 (zZ (aB b) (a+1))) (rfl);rw[z.out]at d;have r:=cK 9 (zZ (aB b) (a+1));have f:=Zd j.2.2.1;clear z g y x m;obtain⟨i,w⟩:∃i,i=f_ 9 (zZ (aB b) (a+1)):=⟨_,rfl⟩;rw[<-w]at d r;have P:=Zd w;clear w;generalize f_ 9 (zZ (aB b) a)=A at *
   generalize T:aB b a=Y at *
   clear T;rw[show((a+1:Nat):Int)=(a:Int)+1 from rfl]at d;go_wp2_with (refine lA f (by rw[e];exact bZ) ?_);refine(d _).mono ?_;rintro K w2 ⟨rfl,D⟩;have B:=Zd<|afb j D;have H:=Zd B.2.2.1;clear j D f d;go_wp2_with (refine sA i H (by rw[e,r]) (by rw[e];exact bZ) ?_);have R:=Zd<|ahY B i (by rw[e,r]);go_roundw
   case rel=>exact⟨a+1,by go_num,gO,by rw[<-P.out];exact R⟩
   case measure=>simp[intOf];omega
  obtain rfl:a=8:=gO;have e:=cK 9 (zZ (aB b) 8);have z:=Zd λc d=>dP 9 (zZ (aB b) 8) c d;have B:=Zd<|zf (aB b) m 8 gO;have w:=Zs (∀c,Fa (aB b) c=(zZ (aB b) 8 c+2048) / 4096) (λc=>rfl);have f:=Zd j.2.2.1;generalize Fa (aB b)=r at *
  generalize zZ (aB b) 8=D at *
  generalize X:f_ 9 D=A at *
  clear X g m;have g:=Zd λt o=>gF A underlying69 t o e;go_wp2_with (refine lA f (by rw[e];exact bZ) ?_);clear f;go_loopw [26] (λc wr=>∃(a:Nat) (d:List Int),c=I a/\a<=9/\Hid (jF 9 r a d)/\Hid (Uz k wr b J d)) (λc _=>9-(intOf c).toNat)
  case atStart=>exact⟨0,A,rfl,QN _,⟨e,λt o=>gO⟩,j⟩
  case round=>
   obtain⟨a,d,rfl,aa,i,c⟩:=hrel;clear j;by_cases P:a<9
   .have Q:=g a gO;rw[z.out a P]at Q;have⟨T,U⟩:=B a;have t:=Zd<|ae2 (D a) gO gO;rw[<-w.out a]at t;have o:d.length=9:=i.1;have H:=Zd<|eD i P;have R:=Zd<|ahZ c a (r a);have Y:=c.2.2.1.cell a gO;have fd:=c.2.2.1.free a;clear i c g z B w y x;generalize r a=ac at *
    generalize D a=ab at *
    generalize aB d a=y' at *
    have i1:(a:Int)<9:=gO;go_wp2_with fail;refine(t _).mono ?_;rintro K w3 ⟨rfl,rfl⟩;clear t;go_wp2_with fail;go_roundw
    case rel=>exact⟨a+1,_,by go_num,gO,H,R⟩
    case measure=>simp[intOf];omega
   obtain rfl:a=9:=gO;have o:d.length=9:=i.1;have R:=Zs (d=f_ 9 r) (fB i);have f:=Zd c.2.2.1;have t:=Zd c.2.1;have U:=Zd c.2.2.2.2;clear i c g z B w;go_wp2_with (first|refine lA f (by rw[o];exact bZ) ?_|refine sA d t (by rw[o,ak]) (by rw[ak];exact bZ) ?_);have H:=bF (rs':=d) t (by rw[o,ak]);have Y:=kU H.1 (by rw[o];exact bZ);have T:=Zd<|aG U H.2 gO;refine QB (v:=.tuple #[.agg (aF d),I 0]) ?_ rfl ?_
   .simp[results,results155,asAddr,Act.put,Y]
   rw[y.out,x.out,<-R.out];exact⟨rfl,T⟩
def LC (a:L)(c:a.length=8)(b:W):Calls prog 155 #[.agg (aF a)] b (qP b (pG a) (zh a)):=by
 rcases sk:cZ a with _|_
 .rw[show pG a=au 9 by simp[pG,sk],show zh a=2 by simp[zh,sk]];exact afc a c sk b
 exact abO a c sk b
def vW (a b c:Int)(d:W):Calls prog 227 #[I a,I b,I c] d (nQ d (.bool (decide (b<=a/\a<=c)))):=by
 by_cases e:b<=a
 .by_cases f:a<=c
  .rw[KN (show b<=a/\a<=c from⟨e,f⟩)];go_enter func227,ntmps227;go_wp2_with fail;go_ret;exact⟨rfl,rfl⟩
  rw[KF (show ¬(b<=a/\a<=c)from λd=>f d.2)];go_enter func227,ntmps227;go_wp2_with fail;go_ret;exact⟨rfl,rfl⟩
 rw[KF (show ¬(b<=a/\a<=c)from λd=>e d.1)];go_enter func227,ntmps227;go_wp2_with fail;go_ret;exact⟨rfl,rfl⟩
def mY (q:V)(a:L)(d:W)(s:aY d q a)(D:a.length<=1000000000000000000):Calls prog 222 #[q] d (nQ d (.bool (aL a))):=by
 obtain⟨x,y,rfl,z,m⟩:=s;have l:=Zd λ(g:∀b,b<a.length->-32768<=aB a b/\aB a b<=32767)=>(show nQ d (.bool (aL a)) (.returned (.bool true)) d from⟨by rw[(bD a).2 g],rfl⟩);have N:=Zd (λb (t:b<a.length) (g:¬(-32768<=aB a b/\aB a b<=32767))=>(show nQ d (.bool (aL a)) (.returned (.bool false)) d from⟨by
  rcases hb:aL a with _|_
  .rfl
  exact absurd ((bD a).1 hb b t) g,rfl⟩))
 generalize nQ d (.bool (aL a))=v at *
 go_enter func222,ntmps222;go_wp2_with fail;go_loop [7] (λb=>∃c:Nat,b=I c/\c<=a.length/\Hid (∀b,b<c->-32768<=aB a b/\aB a b<=32767)) (λb=>a.length-(intOf b).toNat)
 case atStart=>exact⟨0,rfl,QN _,λb e=>gO⟩
 case round=>
  obtain⟨c,rfl,C,i⟩:=hrel;by_cases o:c<a.length
  .obtain⟨w,rfl,p⟩:=m gO;have B:=p c o;have k:=Zd<|N c o;have j:=Zd (λ(g:-32768<=aB a c/\aB a c<=32767)=>(show ∀b,b<c+1->-32768<=aB a b/\aB a b<=32767 from λb e=>by
    rcases WZ b c with e|e
    .exact i b e
    obtain rfl:b=c:=gO;exact g))
   clear m p l N i;generalize aB a c=n at *
   have E:(c:Int)<a.length:=gO;have b:=Zd<|vW n (-32768) 32767 d;by_cases e:-32768<=n/\n<=32767
   .have f:=Zd<|j e;rw[KN e]at b;clear k j e;go_wp2_with fail;refine b.mono ?_;rintro r u ⟨rfl,rfl⟩;clear b;go_wp2_with fail;go_round
    case rel=>exact⟨c+1,by go_num,gO,f⟩
    case measure=>simp[intOf];omega
   have f:=Zd<|k e;rw[KF e]at b;clear k j e;go_wp2_with fail;refine b.mono ?_;rintro r u ⟨rfl,rfl⟩;clear b;go_wp2_with fail;exact f
  obtain rfl:c=a.length:=gO;have f:=Zd<|l i;clear m l N i;go_wp2_with fail;exact f
def Rp (b c:L)(a:Nat):fU b c (a+1)=fU b c a+aB b a*aB c a:=rfl
def zK (t s:V)(a c:L)(d:W)(y:aY d t a)(z:aY d s c)(Y:a.length<=c.length)(hn:a.length<=100)(j:aL a=true)(k:aL c=true):Calls prog 248 #[t,s] d (nQ d (I (fU a c a.length))):=by
 have m:=Zs (nQ d (I (fU a c a.length)) (.returned (I (fU a c a.length))) d) (⟨rfl,rfl⟩);have e:=Zd<|n_ a c j k;have f:=Zd<|kJ a (-32768) 32767 gO gO ((bD a).1 j);have RB:=Zd<|kJ c (-32768) 32767 gO gO ((bD c).1 k);obtain⟨J,M,rfl,U,q⟩:=y;obtain⟨K,Q,rfl,X,r⟩:=z;have g:=Zd q;have i:=Zd r;clear q r j k;generalize nQ d (I (fU a c a.length))=H at *
 go_enter func248,ntmps248;go_wp2_with fail;go_loop [5,10] (λl d=>∃b:Nat,d=I b/\l=I (fU a c b)/\b<=a.length) (λ_ d=>a.length-(intOf d).toNat)
 case atStart=>exact⟨0,rfl,rfl,QN _⟩
 case round=>
  obtain⟨b,rfl,rfl,Z⟩:=hrel;by_cases B:b<a.length
  .obtain⟨pa,rfl,o⟩:=g gO;obtain⟨pb,rfl,p⟩:=i gO;have O:=o b B;have P:=p b gO;have⟨D,E⟩:=f b;have⟨F,G⟩:=RB b;have C:=sF _ _ D E F G;have x:=e b;have n:=Rp a c b;have i1:(b:Int)<a.length:=gO;have i2:(b:Int)<c.length:=gO;have u:=Zd n;clear o p e f RB g i n m;have⟨p1,p2⟩:=C;have⟨v,w⟩:=x;have R:-107374182400<=fU a c b:=gO;have T:fU a c b<=107374182400:=gO;clear v w;generalize fU a c b=l at *
   generalize aB a b=aa at *
   generalize aB c b=ab at *
   go_wp2_with fail;go_round
   case rel=>exact⟨b+1,by go_num,by rw[u.out],gO⟩
   case measure=>simp[intOf];omega
  obtain rfl:b=a.length:=gO;clear g i f RB e;generalize fU a c a.length=l at *
  go_wp2_with fail;exact m
def LH {base:Nat}(a:bY w n 3 l)(b:base<=n)(c:l.length<=35184372088832):fO base w (.slice (S n) l.length l.length) l:=
 ⟨by simp,.inr ⟨n,l.length,aF l,rfl,b,a,Q6 _,by unfold maxLen;omega,by simp[aF],by simp[aF,K3]⟩⟩
def aki:(prog.info? 51).map (·.size)=some 80:=by kernel_rfl
def akj (c a:Nat)(e:a<=79)(b:W):Sem.run prog (Instr.sliceAt 51 (.pointer (S c)) (some (I (a:Int))) none none) b=.ok (.slice (some (A c a)) (80-a) (80-a)) b:=by
 have d:prog.arrayLen 51=80:=by kernel_rfl
 have⟨k,f,g,i,j⟩:=info_parts nY;rw[run_sliceAt_array_l (P:=prog) b 51 _ (by kernel_rfl) .i64 a gO gO,d];simp[go_sem,slicedAt];omega
def jc.set2 {d:TypeId}(c:jc w w' T d l p)(a:Nat)(b:Int):jc w (w'.setCell (A (w.heap.size+1) a) (I b)) T d l (p.set a b):=
 ⟨c.1.aH (aD w' (A (w.heap.size+1) a) (I b)) (by simp),c.2.1.set a b,aG c.2.2 (aD w' (A (w.heap.size+1) a) (I b)) (by simp)⟩
def ah0 (a L:Nat):(a:Int).tmod (L:Int)=((a % L:Nat):Int):=by rw[V3 gO];exact(Int.natCast_emod a L).symm
def vG (b:List Int)(J:b.length=80)(c:Int)(d:W):Calls prog 184 #[.agg (aF b),I c] d (gP d (lW b c) (Fj c)):=by
 have i:=Zd λa=>vW c 20 79 a;have p:=Zd<|aj d (.cells (aF b) 51) none;by_cases g:20<=c/\c<=79
 .rw[KN g]at i;obtain⟨L,rfl⟩:∃L:Nat,c=(L:Int):=⟨c.toNat,gO⟩;have⟨v,w⟩:=uh b L gO gO;rw[v,w];have⟨T,U⟩:=g;have s:=Zs (jc d ((d.alloc (.cells (aF b) 51)).alloc (.cells (aF (au 40)) 3)) 51 3 b (au 40)) (nI d 51 3 b (au 40));have B:=akj d.heap.size (80-L) gO;have H:(80:Int)-(L:Int)=((80-L:Nat):Int):=gO;have x:80-(80-L)=L:=gO;rw[x]at B;have z:=gU 40 gO;rw[show((40:Nat):Int)=40 from rfl]at z;have D:=Zs (∀f,80-L+f=(80-L)+f) (λ_=>rfl);generalize y:80-L=k at *
  have r:=Zd y;have R:k+L=80:=gO;go_enter func184,ntmps184;go_wp2_with fail;refine(i _).mono ?_;rintro u C ⟨rfl,rfl⟩;go_wp2_with fail;generalize (d.alloc (.cells (aF b) 51)).alloc _=E at *
  go_loopw [18] (λf wr=>∃(a:Nat) (e:List Int),f=I a/\a<=40/\Hid (jF 40 (BG b L) a e)/\Hid (jc d wr 51 3 b e)) (λf _=>40-(intOf f).toNat)
  case atStart=>exact⟨0,au 40,rfl,QN _,iP 40 _,s⟩
  case round=>
   obtain⟨a,e,rfl,K,j,f⟩:=hrel;by_cases t:a<40
   .have n:e.length=40:=j.1;have M:a % L<L:=Nat.mod_lt a gO;have o:=f.1.cell (k+a % L) gO;rw[show aB b (k+a % L)=BG b L a by unfold BG;rw[r.out]]at o;have F:=f.2.1.cell a gO;have G:=f.2.1.free a;have l:=Zd<|eD j t;have m:=Zd<|f.set2 a (BG b L a);have Y:=ah0 a L;have O:(a:Int)<40:=gO;have P:¬(L:Int)=0:=gO;have Q:((a % L:Nat):Int)<L:=gO;generalize BG b L a=Z at *
    generalize aB e a=X at *
    generalize a % L=q at *
    go_wp2;go_roundw
    case rel=>exact⟨a+1,_,by go_num,gO,l,m⟩
    case measure=>simp[intOf];omega
   obtain rfl:a=40:=gO;have o:=Zs (e=kW b L) (fB j);have n:e.length=40:=j.1;have l:=LH (base:=d.heap.size) f.2.1 gO gO;rw[n]at l;have q:=Zd f.2.2;have m:=Zd l;go_wp2_with fail;go_ret2;rw[o.out]at m;exact⟨_,rfl,m,q⟩
 rw[show lW b c=[]from X9 g,show Fj c=2 from X9 g];rw[KF g]at i;go_enter func184,ntmps184;go_wp2_with fail;refine(i _).mono ?_;rintro u C ⟨rfl,rfl⟩;go_wp2_with fail;go_ret2;exact⟨_,rfl,bN _ _,p⟩
def H9 (a:Int)(e:W)(i:TabA e 3 gains 8):Calls prog 191 #[I a] e (nQ e (.tuple #[I (Es a),I (gaE a)])):=by
 have d:=Zd<|vW a 0 7 e;by_cases c:0<=a/\a<=7
 .rw[KN c]at d;rw[show Es a=jG a.toNat from Q9 c,show gaE a=0 from Q9 c];obtain⟨b,rfl⟩:∃b:Nat,a=(b:Int):=⟨a.toNat,gO⟩;rw[Int.toNat_natCast];have f:=i b gO;rw[show gains.getD b 0=jG b from rfl]at f;have k:(b:Int)<8:=gO;generalize jG b=l at *
  go_enter func191,ntmps191;go_wp2_with fail;refine d.mono ?_;rintro g j ⟨rfl,rfl⟩;go_wp2_with fail;go_ret2;exact⟨rfl,rfl⟩
 rw[KF c]at d;rw[show Es a=0 from X9 c,show gaE a=2 from X9 c];go_enter func191,ntmps191;go_wp2_with fail;refine d.mono ?_;rintro g j ⟨rfl,rfl⟩;go_wp2_with fail;go_ret2;exact⟨rfl,rfl⟩
def akk (b c:Int)(a:Nat)(d:a+1<8)(e:(jG (a+1)+jG a)*c<32768*b):IW b c (a+1)=a+1:=Q9 ⟨d,gO⟩
def amd (b c:Int)(a:Nat)(d:¬(jG (a+1)+jG a)*c<32768*b):IW b c (a+1)=IW b c a:=X9 (λa=>d (by have:=a.2;omega))
def Yo (c d:Int)(j:W)(w:TabA j 3 gains 8)(s:0<c)(C:c<=9223372036854775807)(v:0<d)(H:d<=9223372036854775807):Calls prog 183 #[I c,I d] j (uJ j (I (IW (jH c) (jH d) 7:Int))):=by
 have p:=Zd w;have D:min c 1099511627776=jH c:=by unfold jH;split<;>omega
 have E:min d 1099511627776=jH d:=by unfold jH;split<;>omega
 have F:(if 1099511627776<c then 1099511627776 else c)=jH c:=rfl;have G:(if 1099511627776<d then 1099511627776 else d)=jH d:=rfl;have⟨x,y⟩:=Dc c s;have⟨z,B⟩:=Dc d v;go_enter func183,ntmps183;go_upto_region 4 with fail;generalize jH c=e at *
 generalize jH d=b at *
 go_wp2_with fail;go_loopw [5,6] (λl c wr=>∃a:Nat,c=I ((a+1:Nat):Int)/\l=I (IW e b a:Int)/\a<=7/\Hid (dB j wr)) (λ_ c _=>9-(intOf c).toNat)
 case atStart=>exact⟨0,rfl,rfl,gO,aM _ _⟩
 case round=>
  obtain⟨a,rfl,rfl,R,i⟩:=hrel;by_cases T:a<7
  .have o:=eY p i;have t:=o (a+1) gO;have u:=o a gO;rw[show gains.getD (a+1) 0=jG (a+1)from rfl]at t;rw[show gains.getD a 0=jG a from rfl]at u;have r:=Zd<|akk e b a gO;have q:=Zd<|amd e b a;have⟨J,K⟩:=wK (a+1);have⟨M,O⟩:=wK a;generalize IW e b a=l at *
   generalize jG (a+1)=f at *
   generalize jG a=g at *
   have Z:0<=(f+g)*b:=ZA gO gO;have q2:(f+g)*b<=36044*1099511627776:=Int.mul_le_mul gO gO gO gO;have U:((a+1:Nat):Int)<8:=gO;have X:((a+1:Nat):Int)-1=(a:Int):=gO;have Y:(a:Int)<8:=gO;have w1:wrap64 (32768*e)=32768*e:=by simp only[wrap64];omega
   have w2:wrap64 ((f+g)*b)=(f+g)*b:=by simp only[wrap64];omega
   generalize P:a+1=m at *
   by_cases n:(f+g)*b<32768*e
   .have k:=Zd<|r n;go_wp2_with fail;go_big_quiet (fail);go_wp2;go_roundw
    case rel=>exact⟨m,by go_num,by rw[k.out],gO,aX i (by first|exact dY _ _ none|exact bB (aM _ none))⟩
    case measure=>simp[intOf];omega
   have k:=Zd<|q n;have Q:32768*e<=(f+g)*b:=gO;go_wp2_with fail;go_big_quiet (fail);go_wp2;go_roundw
   case rel=>exact⟨m,by go_num,by rw[k.out],gO,aX i (by first|exact dY _ _ none|exact bB (aM _ none))⟩
   case measure=>simp[intOf];omega
  obtain rfl:a=7:=gO;rw[show((7+1:Nat):Int)=8 from rfl];generalize IW e b 7=l at *
  go_wp2_with fail;go_ret;exact⟨rfl,i⟩
def Yp (a b:Int)(c:W)(i:TabA c 3 gains 8)(f:a<=9223372036854775807)(g:b<=9223372036854775807):Calls prog 183 #[I a,I b] c (uJ c (I (PW a b))):=by
 by_cases d:a<=0
 .rw[show PW a b=0 from Q9 (.inl d)];go_enter func183,ntmps183;go_wp2_with fail;go_ret;exact⟨rfl,aM _ _⟩
 by_cases e:b<=0
 .rw[show PW a b=0 from Q9 (.inr e)];go_enter func183,ntmps183;go_wp2_with fail;go_ret;exact⟨rfl,aM _ _⟩
 rw[show PW a b=(IW (jH a) (jH b) 7:Int)from X9 (λj=>j.elim d e)];exact Yo a b c i gO f gO g
def ab6 (e:W)(a:L)(b:Int)(d:Bool)(c:Ending)(f:W):Prop:=c=.returned (.tuple #[.agg (aF a),I b,.bool d])/\e.grownBy f none
def yD (a b:W)(c d A:L):Prop:=
 bY b a.heap.size 69 c/\bY b (a.heap.size+1) 50 (au 8)/\bY b (a.heap.size+1+1) 50 d/\bY b (a.heap.size+1+1+1) 69 A/\a.grownBy b none
def Rx {A:L}(b:yD w w' l p A)(a:w'.grownBy u none):yD w u l p A:=
 ⟨b.1.aC a,b.2.1.aC a,b.2.2.1.aC a,b.2.2.2.1.aC a,ay b.2.2.2.2 a⟩
def aik {A:L}(b:yD w w' l p A)(c:L)(d:c.length=A.length):yD w (b_ w' (w.heap.size+1+1+1) c) l p c:=by have a:=bF (rs':=c) b.2.2.2.1 d;exact⟨b.1.aH a.2 gO,b.2.1.aH a.2 gO,b.2.2.1.aH a.2 gO,a.1,aG b.2.2.2.2 a.2 gO⟩
def ail {A:L}(a:yD w w' l p A)(c:Nat)(d:Int):yD w (w'.setCell ⟨w.heap.size+1+1,c,none⟩ (I d)) l (p.set c d) A:=by have b:=aD w' ⟨w.heap.size+1+1,c,none⟩ (I d);exact⟨a.1.aH b (by simp;omega),a.2.1.aH b (by simp),a.2.2.1.set c d,a.2.2.2.1.aH b (by simp),aG a.2.2.2.2 b (by simp;omega)⟩
def ain (S a:Int)(e:0<a)(h:-144115188075855872<=S)(d:S<=144115188075855872):-144115188075855872<=S.tdiv a/\S.tdiv a<=144115188075855872:=by
 have c:∀b:Int,0<=b->b<=144115188075855872->0<=b.tdiv a/\b.tdiv a<=144115188075855872:=λb b f=>by
  rw[YS b];have f:=F7 b (VR e);have g:=Int.ediv_le_self a b;omega
 rcases Int.le_total 0 S with b|b
 .have:=c S b d;omega
 have f:S.tdiv a=-((-S).tdiv a):=by rw[Int.neg_tdiv];omega
 have:=c (-S) gO gO;omega
def ab7 (a:Nat->Int):f_ 8 (iC a 0).k=au 8:=(E_ 8).symm
def YN (a:L)(n:a.length=9)(c:Px a=false)(d:W):Calls prog 139 #[.agg (aF a)] d (ab6 d (au 8) 0 false):=by
 have b:=Zd<|oQ d 69 50 50 a (au 8) (au 8);have f:=Zd<|rX b.1 9 gO;rw[n,uR]at f;rw[uR]at b;have A:=Zd<|nT (.slice (some ⟨d.heap.size,0,none⟩) 9 9) a (-2147483647) 2147483647 _ f gO;rw[adJ]at A;have p:=b.1.cell 0 gO;have m:=Zd (show NC a=false\/(NC a=true/\aB a 0<=0)from by
  unfold Px at c;rcases hb:NC a with _|_
  .exact .inl rfl
  right;rw[hb]at c;simp at c;exact⟨rfl,c⟩)
 have j:=Zd b.2.2.1;have e:=Zd b.2.1;have l:=Zd b.2.2.2;generalize aB a 0=s at *
 rcases m with i|⟨i,r⟩
 all_goals
  rw[i]at A;go_enter func139,ntmps139;go_wp2_with fail;refine A.mono ?_;rintro q t ⟨rfl,rfl⟩;go_wp2_with (first|refine lA j (by rw[ak];exact bG) ?_|refine sA (au 8) e rfl (by rw[ak];exact bG) ?_);have g:=bF (rs':=au 8) e rfl;have o:=kU g.1 (by rw[ak];exact bG);have k:=Zd<|aG l g.2 gO;refine QB (v:=.tuple #[.agg (aF (au 8)),I 0,.bool false]) ?_ rfl ⟨rfl,k⟩;simp[results,results139,asAddr,Act.put,o]
def UR (a:List Int)(hR:a.length=9)(H:Px a=true)(d:W):Calls prog 139 #[.agg (aF a)] d (ab6 d (nL a) (yK a) (yL a)):=by
 have l:=Zd<|oQ d 69 50 50 a (au 8) (au 8);have IB:=Zd<|rX l.1 9 gO;rw[hR,uR]at IB;rw[uR]at l;have A:=Zd<|nT (.slice (some ⟨d.heap.size,0,none⟩) 9 9) a (-2147483647) 2147483647 _ IB gO;have c0:=l.1.cell 0 gO;have ad:=H;unfold Px at ad;simp only[VL,decide_eq_true_eq]at ad;have⟨hB,h0⟩:=ad;rw[adJ,hB]at A;have C:=Zd<|alc hB;have⟨b1,b2⟩:=C 0;have y:=Zs (nL a=f_ 8 (iC (aB a) 8).k) (by simp[nL,H]);have w:=Zs (yK a=(iC (aB a) 8).e) (by simp[yK,H]);have x:=Zs (yL a=(iC (aB a) 8).go) (by simp[yL,H]);have IS:=Zd<|Fg (aB a) h0;clear IB H hB;have aq:¬aB a 0<=0:=gO;have G0:=Zd l.2.2.2;have r:=Zd l.2.2.1;have j:=Zd l.2.1;have v:=Zd l.1;have E0:=Zs ((iC (aB a) 0).e=aB a 0) (rfl);clear l;generalize al:aB a 0=r0 at *
 have ao:=Zd al;clear al;go_enter func139,ntmps139;go_wp2_with fail;refine A.mono ?_;rintro f w1 ⟨rfl,rfl⟩;clear A;go_upto_region 4 with fail;have Q:(((d.alloc (.cells (aF a) 69)).alloc (.cells (aF (au 8)) 50)).alloc (.cells (aF (au 8)) 50)).heap.size=d.heap.size+1+1+1:=by simp
 rw[uR]at Q;generalize ((d.alloc (.cells (aF a) 69)).alloc _).alloc _=g at *
 obtain⟨L,P⟩:∃L,L=akh:=⟨_,rfl⟩;have hl:L.length=9:=by subst P;rfl
 have OA:=Zs (aF L=_) (by subst P;exact Yn);have HL:=Zd P;clear P;have z:=Zd<|dG g.drew 69 9 L hl;have gd:g.grownBy g.drew none:=bB (aM _ none);have s:=Zd (show yD d (b_ (g.drew.alloc (.cells (aF (au 9)) 69)) g.drew.heap.size L) a (au 8) L from by
  have b:=ay gd z.2.2;refine⟨v.aC b,j.aC b,r.aC b,?_,ay G0 b⟩;have:=z.2.1;rw[show g.drew.heap.size=d.heap.size+1+1+1 from Q]at this ⊢;exact this)
 have B:=Zs (dB g (b_ (g.drew.alloc (.cells (aF (au 9)) 69)) g.drew.heap.size L)) (ay gd z.2.2);have u:=Zd z.1;rw[show g.drew.heap.size=d.heap.size+1+1+1 from Q]at s B u;rw[show g.drew.alloc (.cells (aF (au 9)) 69)=(g.alloc (.cells (aF (au 9)) 69)).drew from rfl]at s B u;clear z gd r j v G0;rw[oV]at s B u;refine wp_region_held_drew (S:=dB g) (by kernel_rfl) (aS _) λb=>?_;refine vL 0 b ?_;refine vL 1 b ?_;refine aV (hy:=by intro w' ap;have q0:=aU ap c0;go_simp;(try with_reducible rfl)) 2 b ?_;refine eU 3 λg c=>?_;(try simp only[sZ]);go_simp;go_wp2_with fail;refine c.out _ _ (dZ b _) λb=>?_;clear c;(try simp only[sZ]);refine eU 4 λg c=>?_;(try simp only[sZ]);refine eH rfl 69 _ _ rfl (d.heap.size+1+1+1) (au 9) L rfl (by rw[OA.out];rfl) u (by rw[hl,ak]) (by rw[ak];exact bZ) ?_;refine c.out _ _ B λb=>?_;clear c;generalize b_ _ (d.heap.size+1+1+1) L=W1 at *
 (try simp only[sZ]);refine vL 5 b ?_;refine jX ?_;go_wp2_with fail;clear B u OA;rw[HL.out,Ym]at s;have M0:=Zs (yD d W1 a (f_ 8 (iC (aB a) 0).k) (f_ 9 (iC (aB a) 0).p)) (by rw[ab7];exact s);clear s HL hl b c0 Q;go_loopw [7,8] (λf c wr=>∃b:Nat,f=I (iC (aB a) b).e/\c=I ((b:Int)+1)/\b<=8/\Hid ((iC (aB a) b).go=true)/\Hid (Wh (aB a) b (iC (aB a) b))/\Hid (yD d wr a (f_ 8 (iC (aB a) b).k) (f_ 9 (iC (aB a) b).p))) (λ_ c _=>9-(intOf c).toNat)
 case atStart=>exact⟨0,by rw[E0.out],rfl,QN _,rfl,IS,M0⟩
 case round=>
  obtain⟨b,rfl,rfl,hm,F,o,n⟩:=hrel;clear M0 IS E0;by_cases ai:b<8
  .have am:=λhq=>Wj F hq ai;have ab:=Zd am;have aa:=Zd λR T=>JQ o F R T;have⟨e0,e1⟩:=And.intro o.e0 o.e1;rw[ao.out]at e1;have WP:=Zd<|ahX (o.pb' gO) (by decide) 9;have M:=Zd<|abM (f_ 9 (iC (aB a) b).p) a (cK _ _) hR (b+1) gO gO WP C;have EM:=Zs (mis (aB (f_ 9 (iC (aB a) b).p)) (aB a) (b+1) (b+1)=mis (iC (aB a) b).p (aB a) (b+1) (b+1)) (akg _ _ _ gO);rw[EM.out]at M;have MB:=SF (o.pb' gO) C (b+1) (b+1);have J:=Zs (vN (aB a) b (iC (aB a) b)=(-(mis (iC (aB a) b).p (aB a) (b+1) (b+1))*32768).tdiv (iC (aB a) b).e) (rfl);have Z:=Zd λc R T=>Rn (f_ 9 (iC (aB a) b).p) (cK _ _) (b+1) gO c R T WP;have G:=cK 9 (iC (aB a) b).p;have i:=cK 8 (iC (aB a) b).k;have v:=Zd n.1;have t:=Zd n.2.2.2.1;rw[show((b+1:Nat):Int)=(b:Int)+1 from rfl]at M;clear EM am o F WP C;have ST:=Zd λc=>acU 8 (iC (aB a) b).k b c ai;have TG:=Zd λc=>ahW (iC (aB a) b).p (b+1) gO c;generalize mis (iC (aB a) b).p (aB a) (b+1) (b+1)=af at *
   generalize vN (aB a) b (iC (aB a) b)=c at *
   generalize (iC (aB a) b).e=f at *
   generalize (iC (aB a) b).p=ae at *
   generalize (iC (aB a) b).k=kf at *
   have s1:-4398046511104<=af:=gO;have s2:af<=4398046511104:=gO;clear MB;have⟨d1,d2⟩:=ain (-af*32768) f e0 gO gO;have ne:f≠0:=gO;go_wp2_with (first|refine lA t (by rw[G];exact bZ) ?_|refine lA v (by rw[hR];exact bZ) ?_);refine(M _).mono ?_;rintro E w1 ⟨rfl,g1⟩;have m:=Zd<|Rx n g1;clear n g1 v t M;go_wp2_with fail;rw[<-J.out];rw[<-J.out]at d1 d2;refine(lT c (-31999) 31999 _).mono ?_;rintro E w2 ⟨rfl,rfl⟩;rcases hb:(decide (-31999<=c)&&decide (c<=31999))with _|_
   .have K:=Zd (ab (λg=>by
     have:(decide (-31999<=c)&&decide (c<=31999))=true:=by simp;omega
     rw[hb]at this;cases this))
    have r:=Zd m.2.2.1;have j:=Zd m.2.1;have Y:=Zd m.2.2.2.2;clear ab aa Z TG ST hb J m;have U:=Zs (ab6 d (nL a) (yK a) (yL a)=ab6 d (f_ 8 kf) f false) (by rw[y.out,w.out,x.out,K.out]);clear y w x K;generalize f_ 8 kf=q at *
    go_wp2_with (first|refine lA r (by rw[i];exact bG) ?_|refine sA q j (by rw[i,ak]) (by rw[ak];exact bG) ?_);have D:=bF (rs':=q) j (by rw[i,ak]);have ac:=kU D.1 (by rw[i];exact bG);have X:=Zd<|aG Y D.2 gO;refine QB (v:=.tuple #[.agg (aF q),I f,.bool false]) ?_ rfl ?_
    .simp[results,results139,asAddr,Act.put,ac]
    rw[U.out];exact⟨rfl,X⟩
   have hq:-31999<=c/\c<=31999:=by simpa using hb
   have⟨R,T⟩:=hq;have E:=af7 f c e0 gO gO;have HN:=Zs (eN f c=f-(f*c / 32768)*c / 32768) (rfl);unfold eN at E;have⟨f1,f2,⟨f3,f4⟩,f5,f6⟩:=E;have O:=Zd<|aa gO gO;have K:=Zd<|Z c gO gO;rw[TG.out c]at K;rw[show((b+1:Nat):Int)=(b:Int)+1 from rfl]at K;have ah:=cK 9 (gr ae (b+1) c);have cd:=m.2.2.1.cell b gO;have fd:=m.2.2.1.free b;have M2:=Zd<|ail m b c;have t:=Zd M2.2.2.2.1;clear ab aa Z TG hb J m y w x;have f7:¬f-(f*c / 32768)*c / 32768<=0:=gO;have m0:(0:Int)<=b:=gO;have m8:(b:Int)<8:=gO;generalize aB (f_ 8 kf) b=y' at *
   generalize ag:f_ 9 (gr ae (b+1) c)=A' at *
   have an:=Zd ag;clear ag;generalize f_ 9 ae=A at *
   go_wp2_with (first|refine lA t (by rw[G];exact bZ) ?_);refine(K _).mono ?_;rintro E w3 ⟨rfl,g3⟩;have M3:=Zd<|Rx M2 g3;have B3:=Zd M3.2.2.2.1;clear M2 g3 t K cd fd;go_wp2_with (first|refine sA A' B3 (by rw[G,ah]) (by rw[G];exact bZ) ?_);have M4:=Zd<|aik M3 A' (by rw[G,ah]);clear M3 B3;go_roundw
   case rel=>
    refine⟨b+1,?_,by go_num,gO,?_,O.2,?_⟩
    .rw[O.out.1];exact congrArg (Value.int .i64) HN.symm
    .rw[O.out.1];exact rfl
    rw[O.out.1,an.out,<-ST.out c];exact M4
   case measure=>simp[intOf];omega
  obtain rfl:b=8:=gO;have i:=cK 8 (iC (aB a) 8).k;have U:=Zs (ab6 d (nL a) (yK a) (yL a)=ab6 d (f_ 8 (iC (aB a) 8).k) (iC (aB a) 8).e true) (by rw[y.out,w.out,x.out,F.out]);have r:=Zd n.2.2.1;have j:=Zd n.2.1;have Y:=Zd n.2.2.2.2;clear y w x n o F C;generalize f_ 8 (iC (aB a) 8).k=q at *
  generalize (iC (aB a) 8).e=f at *
  go_wp2_with (first|refine lA r (by rw[i];exact bG) ?_|refine sA q j (by rw[i,ak]) (by rw[ak];exact bG) ?_);have D:=bF (rs':=q) j (by rw[i,ak]);have ac:=kU D.1 (by rw[i];exact bG);have X:=Zd<|aG Y D.2 gO;refine QB (v:=.tuple #[.agg (aF q),I f,.bool true]) ?_ rfl ?_
  .simp[results,results139,asAddr,Act.put,ac]
  rw[U.out];exact⟨rfl,X⟩
def UU (a:L)(c:a.length=9)(b:W):Calls prog 139 #[.agg (aF a)] b (ab6 b (nL a) (yK a) (yL a)):=by
 rcases ho:Px a with _|_
 .rw[show nL a=au 8 by simp[nL,ho],show yK a=0 by simp[yK,ho],show yL a=false by simp[yL,ho]];exact YN a c ho b
 exact UR a c ho b
end Go.Proofs.YtmpfdogdinhhcaaGreatDoor
