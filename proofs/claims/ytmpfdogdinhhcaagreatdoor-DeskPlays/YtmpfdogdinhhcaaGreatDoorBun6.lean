import Derived.Shelf.Small.Bits
import Derived.Deep.DrawnRows
import Derived.Test.YtmpfdogdinhhcaaGreatDoorBun2
import Derived.OwnWalk
import Derived.Deep.Cut
import Derived.Maps.OwnSet
import Derived.Maps.AppendAt
import Derived.Deep.Slices
namespace Go.Proofs.YtmpfdogdinhhcaaGreatDoor
open Go.RowKit
open Tryz
set_option linter.unusedSimpArgs false
set_option linter.unusedVariables false
set_option maxHeartbeats 4000000
set_option maxRecDepth 100000
set_option linter.defProp false
variable {w w' u:World}{n b k j:Nat}{l p r:List Int}{x v':Value}{T:TypeId}{s:Bool}{y:List Value}{z:Option Nat}{i:Int}{Q:Exit→Act→World→Prop}{a:Act}{o:Oper}{Z:Nat→Prop}{f:Nat→Int}
def ajp {b:IntKind}{a:Int}(c:i=a):Ending.returned (.int b i)=.returned (.int b a):=by rw[c]
def Xc (a:Int)(d:W):Calls prog 210 #[I a] d λb c=>b=.returned (I (lI a))/\c=d:=by
 unfold lI;by_cases e:a<0
 .rw[Q9 (.inl e)];go_enter func210,ntmps210;go_wp2_with fail;go_ret;exact⟨rfl,rfl⟩
 by_cases i:120<=a
 .rw[Q9 (.inr gO)];go_enter func210,ntmps210;go_wp2_with fail;go_ret;exact⟨rfl,rfl⟩
 rw[nO];by_cases c:59<a
 .rw[Q9 c];have f:min a (119-a)=119-a:=gO;have g:(if 119-a<a then 119-a else a)=119-a:=by rw[pO]
  have b:=Zs ((32767*(2*(119-a)+1)).tdiv 119=32767*(2*(119-a)+1) / 119) (YS gO);go_enter func210,ntmps210;go_wp2_with fail;go_ret;exact⟨by first|rfl|(rw[<-b.out]),rfl⟩
 rw[X9 c];have f:min a (119-a)=a:=gO;have g:(if 119-a<a then 119-a else a)=a:=by rw[nO]
 have b:=Zs ((32767*(2*a+1)).tdiv 119=32767*(2*a+1) / 119) (YS gO);go_enter func210,ntmps210;go_wp2_with fail;go_ret;exact⟨by first|rfl|(rw[<-b.out]),rfl⟩
def N_ (a:Int)(c:-4611686018427387904<=a)(d:a<=4611686018427387904)(b:W):Calls prog 209 #[I a,I 12] b λc d=>c=.returned (I ((a+2048) / 4096))/\d=b:=by go_enter func209,ntmps209;go_wp2_with fail;go_ret;exact⟨rfl,rfl⟩
def Oa (a:Int)(c:-4611686018427387904<=a)(d:a<=4611686018427387904)(b:W):Calls prog 209 #[I a,I 15] b λc d=>c=.returned (I ((a+16384) / 32768))/\d=b:=by go_enter func209,ntmps209;go_wp2_with fail;go_ret;exact⟨rfl,rfl⟩
def iE (t:V)(a:L)(q:W)(u:aY q t a)(E:a.length<=1000000000000000000):Calls prog 164 #[t] q λj b=>j=.returned (.bool (aL a))/\b=q:=by
 obtain⟨y,z,rfl,B,o⟩:=u;have n:=Zd λ(g:∀b,b<a.length->-32768<=aB a b/\aB a b<=32767)=>(show aL a=true from(bD a).2 g);have N:=Zd (λb (p:b<a.length) (g:¬(-32768<=aB a b/\aB a b<=32767))=>(show aL a=false from by
  rcases hb:aL a with _|_
  .rfl
  exact absurd ((bD a).1 hb b p) g))
 generalize aL a=w at *
 go_enter func164,ntmps164;go_wp2_with fail;go_loop [9] (λb=>∃c:Nat,b=I c/\c<=a.length/\Hid (∀b,b<c->-32768<=aB a b/\aB a b<=32767)) (λb=>a.length-(intOf b).toNat)
 case atStart=>exact⟨0,rfl,QN _,λb p=>gO⟩
 case round=>
  obtain⟨c,rfl,D,k⟩:=hrel;by_cases r:c<a.length
  .obtain⟨x,rfl,s⟩:=o gO;have C:=s c r;have m:=Zd<|N c r;have l:=Zd (λ(g:-32768<=aB a c/\aB a c<=32767)=>(show ∀b,b<c+1->-32768<=aB a b/\aB a b<=32767 from λb p=>by
    rcases WZ b c with d|d
    .exact k b d
    obtain rfl:b=c:=gO;exact g))
   clear o s n N k;generalize aB a c=b at *
   have d:=Zd<|tT b;by_cases e:-32768<=b/\b<=32767
   .have f:=Zd<|l e;have i:o16 b=false:=by unfold o16;rw[JJ b e.1 e.2];simp
    rw[i]at d;clear m l e i;go_wp2_with fail;refine(d _).mono ?_;rintro j v ⟨rfl,rfl⟩;clear d;go_wp2_with fail;go_round
    case rel=>exact⟨c+1,by go_num,gO,f⟩
    case measure=>simp[intOf];omega
   have f:=Zd<|m e;have i:o16 b=true:=by
    have:fA b≠b:=λj=>by have:=mq b;omega
    unfold o16;simpa using this
   rw[i]at d;clear m l e i;go_wp2_with fail;refine(d _).mono ?_;rintro j v ⟨rfl,rfl⟩;clear d;go_wp2_with fail;go_ret;exact⟨by rw[f.out];rfl,rfl⟩
  obtain rfl:c=a.length:=gO;have f:=Zd<|n k;clear o n N k;go_wp2_with fail;go_ret;exact⟨by rw[f.out];rfl,rfl⟩
def aaS (a b c d e:Int)(o:-32768<=a)(p:a<=32767)(q:-32768<=b)(r:b<=32767)(s:-32768<=c)(t:c<=32767)(u:-32768<=d)(v:d<=32767)(w:-32768<=e)(x:e<=32767)(i:W):Calls prog 165 #[.agg #[I a,I b,I c,I d],I e] i λf g=>f=.returned (I (zQ e a b c d))/\g=i.alloc (.cells #[I a,I b,I c,I d] 48):=by
 obtain⟨S,g⟩:∃S,S=3798*e-7596*a+3798*b+7807*c-3733*d:=⟨_,rfl⟩;have j:=Zd (show zQ e a b c d=fA ((S+2048) / 4096) by
  unfold zQ;rw[show 3798*(e-2*a+b)+7807*c-3733*d+2048=S+2048 by omega])
 have l:=Zd<|N_ S gO gO;have m:=Zd<|tT ((S+2048) / 4096);have k:=Zd g;clear g;go_enter func165,ntmps165;go_wp2_with fail;rw[<-k.out];refine(l _).mono ?_;rintro f n ⟨rfl,rfl⟩;go_wp2_with fail;refine(m _).mono ?_;rintro f n ⟨rfl,rfl⟩;go_wp2_with fail;go_ret;exact⟨ajp (by rw[j.out]),rfl⟩
def adn:(prog.info? 49).bind (·.zero)=some (.agg (aF (au 120))):=by kernel_rfl
def Jq:(prog.info? 49).map (·.size)=some 120:=by kernel_rfl
def sO (a:L):L:=(List.range 120).map (wN a)
def Al (a:L):(sO a).length=120:=by simp[sO]
def QK (b:L)(a:Nat)(c:a<120):aB (sO b) a=wN b a:=by simp[sO,aB,List.getD,c]
def agU (a:KG l 120 p):p=sO l:=by
 apply List.ext_getElem
 .rw[Al];exact a.1
 intro b c d;have:=a.2 b (by have:=a.1;omega);rw[<-QK l b (by have:=a.1;omega)]at this;simpa [aB,List.getD,c,d] using this
def T_ (p:V)(c:L)(b:W)(n:aY b p c)(o:c.length=120)(z:aL c=true):Calls prog 166 #[p] b λi a=>i=.returned (.agg (aF (sO c)))/\b.grownBy a none:=by
 have w:=Zd n;have m:=Zd<|(bD c).1 z;obtain⟨M,O,rfl,T,y⟩:=n;obtain⟨K,rfl,B⟩:=y gO;have k:=Zd B;have H:=Zd o;rw[o]at w k m ⊢;have X:=λa=>fT adn a;go_enter func166,ntmps166;go_wp2_with fail;have q:=Zs (bY ((b.alloc (.cells (aF (au 120)) 49)).alloc (.cells (aF (au 120)) 49)) b.heap.size 49 (au 120)) ((bY.new b _ _).aC (aj _ _ none));have r:=Zs (bY ((b.alloc (.cells (aF (au 120)) 49)).alloc (.cells (aF (au 120)) 49)) (b.heap.size+1) 49 (au 120)) (by simpa using bY.new (b.alloc (.cells (aF (au 120)) 49)) 49 (au 120));have u:=Zd<|ay (aj b (.cells (aF (au 120)) 49) none) (aj _ (.cells (aF (au 120)) 49) none);generalize (b.alloc (.cells (aF (au 120)) 49)).alloc (.cells (aF (au 120)) 49)=J at *
 go_loopw [8] (λd wr=>∃(a:Nat) (e:L),d=I a/\a<=120/\Hid (KG c a e)/\Hid (bY wr b.heap.size 49 (au 120)/\bY wr (b.heap.size+1) 49 e/\b.grownBy wr none)) (λd _=>120-(intOf d).toNat)
 case atStart=>exact⟨0,au 120,rfl,QN _,⟨ak _,λd d=>gO⟩,q,r,u⟩
 case round=>
  obtain⟨a,e,rfl,U,g,d⟩:=hrel;by_cases j:a<120
  .have Q:=aU d.2.2 (k a j);have⟨E,F⟩:=m a j;have l:=Zd<|Xc (a:Int);have⟨C,D⟩:=Cg a;have⟨Y,Z⟩:=TY _ _ E F C D;have v:=Zd<|Oa (aB c a*lI a) gO gO;have x:=Zs ((aB c a*lI a+16384) / 32768=wN c a) (rfl);have t:=Zd<|QG c e a g j;have f:e.length=120:=g.1;have P:=d.2.1.cell a gO;have R:=d.2.1.free a;have s:=Zd (show bY (wr.setCell (A (b.heap.size+1) a) (I (wN c a))) b.heap.size 49 (au 120)/\bY (wr.setCell (A (b.heap.size+1) a) (I (wN c a))) (b.heap.size+1) 49 (e.set a (wN c a))/\b.grownBy (wr.setCell (A (b.heap.size+1) a) (I (wN c a))) none from
    ⟨d.1.aH (aD _ (A (b.heap.size+1) a) _) (by simp),d.2.1.set a _,aG d.2.2 (aD _ (A (b.heap.size+1) a) _) (by simp)⟩)
   generalize lI (a:Int)=aa at *
   generalize aB c a=ac at *
   generalize aB e a=ab at *
   go_wp2_with fail;refine(l _).mono ?_;rintro i G ⟨rfl,rfl⟩;go_wp2_with fail;refine(v _).mono ?_;rintro i G ⟨rfl,rfl⟩;rw[x.out];go_wp2;go_roundw
   case rel=>exact⟨a+1,_,by go_num,gO,t,s⟩
   case measure=>simp[intOf];omega
  obtain rfl:a=120:=gO;have f:e.length=120:=g.1;obtain rfl:=agU g;have s:=Zd d.2.1;have t:=Zd d.1;have l:=bF (rs':=sO c) d.1 (by rw[f,ak]);have x:=kU l.1 (by rw[f];exact Jq);have v:=Zd<|aG d.2.2 l.2 (Q6 _);go_wp2_with (first|refine lA s (by rw[f];exact Jq) ?_|refine sA (sO c) t (by rw[f,ak]) (by rw[ak];exact Jq) ?_);refine QB (v:=.agg (aF (sO c))) ?_ rfl ⟨rfl,v⟩;simp[results,results166,asAddr,Act.put,x]
def Hf (c:∀a,-32768<=f a/\f a<=32768)(b a:Nat)(g:a<=120):-200000000000<=gZ f b a/\gZ f b a<=200000000000:=by have⟨d,e⟩:=wU f b c a;omega
def Xd (c:Nat->Int)(g:∀d,-32768<=c d/\c d<=32768)(e b m n:Nat)(x:b<=120)(i:W)(o:∀d,d<120->i.cell? ⟨e,d,none⟩=some (I (c d)))(v:120-b<=m)(w:120-b<=n):Calls prog 167 #[.slice (some ⟨e,b,none⟩) (120-b) m,.slice (some ⟨e,0,none⟩) (120-b) n] i λa f=>a=.returned (I (oM c b))/\f=i:=by
 have l:=Zd o;have u:=Zd<|Hf g b;have k:=Zd g;have j:=Zs (oM c b=gZ c b (120-b)) (rfl);obtain⟨f,p⟩:∃f,f=120-b:=⟨_,rfl⟩;rw[<-p]at v w j ⊢;have F:f+b=120:=gO;clear o p x g;go_enter func167,ntmps167;go_wp2_with fail;go_loop [5,10] (λg d=>∃a:Nat,d=I a/\a<=f/\g=I (gZ c b a)) (λ_ d=>f-(intOf d).toNat)
 case atStart=>exact⟨0,rfl,QN _,rfl⟩
 case round=>
  obtain⟨a,rfl,D,rfl⟩:=hrel;by_cases E:a<f
  .have B:=l (b+a) gO;have C:=l a gO;have⟨J,K⟩:=u a gO;have⟨d,q⟩:=k (b+a);have⟨r,s⟩:=k a;have⟨G,H⟩:=Jp _ _ d q r s;have t:=Zd (show gZ c b (a+1)=gZ c b a+c (b+a)*c a by
    show gZ c b a+c a*c (a+b)=_;rw[Nat.add_comm a b,V7])
   have y:(⟨e,b,none⟩:Addr).add a=⟨e,b+a,none⟩:=Addr.add_mid _ _ _;have z:(⟨e,0,none⟩:Addr).add a=⟨e,a,none⟩:=by rw[Addr.add_mid,WT]
   clear d q r s;generalize gZ c b a=S at *
   generalize c (b+a)=M at *
   generalize c a=O at *
   go_wp2_with fail;go_round
   case rel=>exact⟨a+1,by go_num,gO,by rw[t.out]⟩
   case measure=>simp[intOf];omega
  obtain rfl:a=f:=gO;go_wp2_with fail;go_ret;exact⟨ajp (by rw[j.out]),rfl⟩
def aeB (a:Nat)(m:a<=37)(b:Int)(j:-274877906944<=b)(k:b<=274877906944)(d:-9223372036854775808<=QF a b)(e:QF a b<=9223372036854775807)(f:W):Calls prog 169 #[I b,I ((a:Int)-31)] f λc g=>c=.returned (I (QF a b))/\g=f:=by
 unfold QF at d e ⊢;by_cases i:a<31
 .rw[nO]at d e ⊢;have c:(-((a:Int)-31)).toNat=31-a:=gO;have g:(a:Int)-31<0:=gO;go_enter func169,ntmps169;go_wp2_with fail;go_ret;exact⟨ajp (by first|rfl|(rw[c])|(simp[c])),rfl⟩
 have l:¬(a:Int)-31<0:=gO;have c:((a:Int)-31).toNat=a-31:=gO;have g:=Zd (show(if 31<a then b / 2^(a-31)else b*2^(31-a))=b / 2^(a-31) by
  split
  .rfl
  rw[show a-31=0 by omega,show 31-a=0 by omega];simp)
 rw[g.out]at d e ⊢;go_enter func169,ntmps169;go_wp2_with fail;go_ret;exact⟨ajp (by first|rfl|(rw[c])|(simp[c])),rfl⟩
def ajq:Go.Shelf.Ren:=⟨λa=>if a=125 then 168 else if a=128 then 211 else 212,λa=>if a=3 then 3 else if a=4 then 4 else if a=5 then 5 else if a=9 then 9 else if a=46 then 108 else if a=51 then 160 else 161,λa=>a⟩
def agV:Go.Proofs.Lays.n125 prog ajq where
 mixed:=by kernel_rfl
 f125:=by kernel_rfl
 f128:=by kernel_rfl
 f129:=by kernel_rfl
 t3:=by kernel_rfl
 a3:=λ_=>by kernel_rfl
 z3:=λ_=>by kernel_rfl
 v3:=λ_=>by kernel_rfl
 t4:=by kernel_rfl
 a4:=λ_=>by kernel_rfl
 z4:=λ_=>by kernel_rfl
 v4:=λ_=>by kernel_rfl
 t5:=by kernel_rfl
 a5:=λ_=>by kernel_rfl
 z5:=λ_=>by kernel_rfl
 v5:=λ_=>by kernel_rfl
 t9:=by kernel_rfl
 a9:=λ_=>by kernel_rfl
 z9:=λ_=>by kernel_rfl
 v9:=λ_=>by kernel_rfl
 t46:=by kernel_rfl
 a46:=λ_=>by kernel_rfl
 z46:=λ_=>by kernel_rfl
 v46:=λ_=>by kernel_rfl
 t51:=by kernel_rfl
 a51:=λ_=>by kernel_rfl
 z51:=λ_=>by kernel_rfl
 v51:=λ_=>by kernel_rfl
 t53:=by kernel_rfl
 a53:=λ_=>by kernel_rfl
 z53:=λ_=>by kernel_rfl
 v53:=λ_=>by kernel_rfl
def ajr (a:Int)(b:W)(d:0<=a)(e:a<=18446744073709551615):Calls prog 168 #[.int .u64 a] b λc f=>c=.returned (I (Lib.bitLen a.toNat))/\f=b:=
 Any.bits_Len agV a b d e
def KJ:∀(b a:Nat),2^b<=a->a<2^(b+1)->a<2^64->Lib.bitLen a=b+1
 | 0,a,c,d,_=>by
  have:a=1:=gO;subst this;decide
 | b+1,a,c,d,e=>by
  have f:1<=2^b:=Nat.one_le_two_pow;rw[Nat.pow_succ]at c d;rw[Lib.bitLen_half a gO e,KJ b (a / 2) gO gO gO];omega
def ado:∀(b:Nat) (a:Nat),1<=a->a<2^b->∃c,c<b/\2^c<=a/\a<2^(c+1)
 | 0,a,d,e=>gO
 | b+1,a,d,e=>by
  by_cases g:a<2^b
  .have⟨c,h,f⟩:=ado b a d g;exact⟨c,gO,f⟩
  exact⟨b,gO,gO,e⟩
def KQ:(prog.info? 69).map (·.size)=some 9:=by kernel_rfl
def KR (a:Int)(g:0<a)(h:a<9223372036854775808):Bits a (Lib.bitLen a.toNat):=by
 have⟨b,i,c,d⟩:=ado 63 a.toNat gO gO;rw[KJ b a.toNat c d gO];have e:((2^b:Nat):Int)=(2:Int)^b:=by simp
 have f:((2^(b+1):Nat):Int)=(2:Int)^(b+1):=by simp
 exact⟨gO,λa=>gO,λ_=>⟨gO,by rw[Nat.add_sub_cancel];omega⟩⟩
def z9:aF (au 9)=#[I 0,I 0,I 0,I 0,I 0,I 0,I 0,I 0,I 0]:=rfl
def ajs (c:Nat->Int)(d:Nat)(b:L):Prop:=b.length=9/\∀a,a<d->aB b a=oM c a
def agW (c:ajs f n l)(e:n<9):ajs f (n+1) (l.set n (oM f n)):=by
 have⟨b,d⟩:=c;refine⟨by simpa using b,λc a=>?_⟩;by_cases a:c=n
 .subst a;simp[aB,List.getD,b,e]
 have:=d c gO;simpa [aB,List.getD,WB,Ne.symm a] using this
def aeC (c:ajs f 9 l)(a:Nat)(g:a<9):aB (l.set 0 (oM f 0+1)) a=eO f a:=by
 have⟨d,e⟩:=c;unfold eO;by_cases b:a=0
 .subst b;simp[aB,List.getD,d]
 have:=e a g;rw[X9 b];simpa [aB,List.getD,WB,Ne.symm b] using this
def agX (m:QI f n 9 l):Value.agg (aF l)=uY f n:=by
 have⟨o,a⟩:=m
 match l,o with
 | [p,q,r,s,t,u,v,w,a8],_=>
  have b:=a 0 gO;have c:=a 1 gO;have d:=a 2 gO;have e:=a 3 gO;have g:=a 4 gO;have h:=a 5 gO;have i:=a 6 gO;have j:=a 7 gO;have k:=a 8 gO;simp[aB]at b c d e g h i j k;unfold uY;rw[<-b,<-c,<-d,<-e,<-g,<-h,<-i,<-j,<-k];rfl
def ajt (b:Int)(a:Nat)(d:-2147483648<=b)(e:b<=2147483648)(f:a<=8):(-17179869184<=b*a/\b*a<=17179869184)/\(-137438953472<=b*a*a/\b*a*a<=137438953472):=by have c:a=0\/a=1\/a=2\/a=3\/a=4\/a=5\/a=6\/a=7\/a=8:=gO;rcases c with rfl|rfl|rfl|rfl|rfl|rfl|rfl|rfl|rfl<;>(simp;try omega)
def aaT (b a:W)(c:Nat)(d e:L):Prop:=
 bY a b.heap.size 69 (au 9)/\bY a (b.heap.size+1) 69 d/\bY a c 49 e/\b.grownBy a none
def KS (b:aaT w w' n l p)(d:w.heap.size+1<n)(a:Nat)(c:Int):aaT w (w'.setCell (A (w.heap.size+1) a) (I c)) n (l.set a c) p:=
 ⟨b.1.aH (aD _ (A (w.heap.size+1) a) _) (by simp),b.2.1.set a c,b.2.2.1.aH (aD _ (A (w.heap.size+1) a) _) (by simp;omega),aG b.2.2.2 (aD _ (A (w.heap.size+1) a) _) (by simp)⟩
def aeD (a:aaT w w' n l p):aaT w w'.drew n l p:=
 ⟨a.1,a.2.1,a.2.2.1,bB a.2.2.2⟩
def aeE (B:V)(b:L)(f:W)(aa:aY f B b)(q:b.length=120)(s:aL b=true):Calls prog 138 #[B] f λm M=>∃d:Nat,Bits (eO (wN b) 0) d/\m=.returned (.tuple #[uY (wN b) d,I ((d:Int)-31),I 0])/\f.grownBy M none:=by
 have u:=Zd aa;have x:=Zd<|iE B b;rw[s]at x;have J:=Zd λt a=>T_ B b t a q s;have w:=Zd<|T9 b q s;have HL:=Zd q;have HR:=Zd s;obtain⟨ad,an,rfl,hc,ag⟩:=aa;rw[q]at u x J ⊢;have hz:=λt=>fT adn t;clear ag s hc q;go_enter func138,ntmps138;go_wp2_with fail;refine(x _ (aR u (ay (aj _ _ none) (aj _ _ none))) gO).mono ?_;rintro m e ⟨rfl,rfl⟩;clear x;go_wp2_with fail;refine(J _ (aR u (ay (aj _ _ none) (aj _ _ none)))).mono ?_;rintro m e ⟨rfl,y⟩;have P:=Zs (bY e f.heap.size 69 (au 9)) (bY.aC (bY.aC (bY.new f 69 (au 9)) (aj _ _ none)) y);have C:=Zs (bY e (f.heap.size+1) 69 (au 9)) (bY.aC (bY.new1 f _ 69 (au 9)) y);have E:=Zd<|ay (ay (aj _ _ none) (aj _ _ none)) y;have O:f.heap.size+1<e.heap.size:=C.lt;have D:=Zd<|bY.new e 49 (au 120);have i:=bF (rs':=sO b) D (by rw[Al,ak]);have z:=aj e (.cells (aF (au 120)) 49) none;have X:=Zd (show aaT f (b_ (e.alloc (.cells (aF (au 120)) 49)) e.heap.size (sO b)) e.heap.size (au 9) (sO b)from
  ⟨(P.aC z).aH i.2 gO,(C.aC z).aH i.2 gO,i.1,aG (ay E z) i.2 (by have:=E.size;omega)⟩)
 clear y J u z i P C E HR;go_wp2_with (refine sA (sO b) D (by rw[Al,ak]) (by rw[ak];exact Jq) ?_);generalize b_ (e.alloc (.cells (aF (au 120)) 49)) e.heap.size (sO b)=W1 at *
 generalize e.heap.size=p at *
 clear D hz;go_loopw [21] (λg wr=>∃(a:Nat) (k:L),g=I a/\a<=9/\Hid (ajs (wN b) a k)/\Hid (aaT f wr p k (sO b))) (λg _=>9-(intOf g).toNat)
 case atStart=>exact⟨0,au 9,rfl,QN _,⟨ak _,λr q=>gO⟩,X⟩
 case round=>
  obtain⟨a,k,rfl,hk,l,c⟩:=hrel;clear X;by_cases n:a<9
  .have j:=aeD c;have F:=Zd<|Xd (wN b) w p a (120-a) 120 gO wr.drew (λg o=>by rw[j.2.2.1.cell g (by rw[Al];exact o),QK b g o]) gO gO;have ab:k.length=9:=l.1;have cd:=c.2.1.cell a gO;have fd:=c.2.1.free a;have G:=Zd<|agW l n;have v:=Zd<|KS j O a (oM (wN b) a);clear l c j;generalize aB k a=am at *
   have k0:(0:Int)<=a:=gO;have R:(a:Int)<=120:=gO;have k2:(a:Int)<9:=gO;have Q:=eG (120-(a:Int)) gO gO;have H:¬120=a:=gO;have K:(120-(a:Int)).toNat=120-a:=gO;have T:(0:Int)<=120-a:=gO;have U:(120:Int)-a<=120:=gO;go_wp2_with fail;refine wp_region_held_drew (S:=λ_=>True) (by kernel_rfl) trivial λj=>?_;refine vL 0 j ?_;refine vL 1 j ?_;refine aV (hy:=by intro M o;(try dsimp only at o);go_simp;(try simp[H])) (v:=(.slice (some ⟨p,a,none⟩) (120-a) (120-a))) 2 j ?_;refine vL 3 j ?_;refine vL (v:=(I (120-(a:Int)))) 4 j ?_;refine aV (hy:=by intro M o;(try dsimp only at o);go_simp;(try simp[K])) (v:=(.slice (some ⟨p,0,none⟩) (120-a) 120)) 5 j ?_;refine eU 6 λs o=>?_;(try simp only[sZ]);go_simp;refine F.mono ?_;rintro m e ⟨rfl,rfl⟩;clear F;go_wp2_with fail;refine o.out _ _ trivial λj=>?_;clear o;(try simp only[sZ]);refine vL 7 j ?_;refine eU 8 λs o=>?_;(try simp only[sZ]);go_simp;go_wp2_with fail;refine o.out _ _ trivial λj=>?_;clear o;(try simp only[sZ]);refine jX ?_;go_wp2_with fail;go_roundw
   case rel=>exact⟨a+1,_,by go_num,gO,G,v⟩
   case measure=>simp[intOf];omega
  obtain rfl:a=9:=gO;have ab:k.length=9:=l.1;have hp:0<=oM (wN b) 0:=sq_nonneg (wN b) 120;have⟨hq,ac⟩:=Hf w 0 120 gO;have ae:aB k 0=oM (wN b) 0:=l.2 0 gO;have ai:oM (wN b) 0<=200000000000:=ac;have c0:=c.2.1.cell 0 gO;have f0:=c.2.1.free 0;rw[ae]at c0;have G:=Zd<|KS c O 0 (oM (wN b) 0+1);have F_:=Zd<|aeC l;have T:=Zs (eO (wN b) 0=oM (wN b) 0+1) (by unfold eO;rw[Q9 rfl]);have F:=Zd λt=>ajr (oM (wN b) 0+1) t gO gO;have o:=Zd<|KR (oM (wN b) 0+1) gO gO;clear l c hq ac ae;obtain⟨d,hn⟩:∃d,d=Lib.bitLen (oM (wN b) 0+1).toNat:=⟨_,rfl⟩;rw[<-hn]at F o;rw[<-T.out]at o;have ah:=KH w o;have H:=Zd λr q=>agT o r q;have t:=Zd λr q=>wV w r q;clear hn;have K:(k.set 0 (oM (wN b) 0+1)).length=9:=by simpa using ab
  generalize k.set 0 (oM (wN b) 0+1)=r2 at *
  generalize oM (wN b) 0=s0 at *
  go_wp2_with fail;refine(F _).mono ?_;rintro m w5 ⟨rfl,rfl⟩;clear F c0 f0 T;have Q:=Zd G.2.1;generalize wr.setCell _ _=w5 at *
  go_wp2_with (refine lA Q (by rw[K];exact KQ) ?_);clear Q hp ai;go_loopw [43] (λg e=>∃(a:Nat) (j:L),g=I a/\a<=9/\Hid (QI (wN b) d a j)/\Hid (aaT f e p j (sO b))) (λg _=>9-(intOf g).toNat)
  case atStart=>exact⟨0,r2,rfl,QN _,⟨K,λr q=>gO⟩,G⟩
  case round=>
   obtain⟨a,j,rfl,hk,g,c⟩:=hrel;clear G;by_cases n:a<9
   .have U:=gF r2 underlying69 a gO K;rw[F_.out a n]at U;have⟨m1,m2⟩:=H a n;have⟨m3,m4⟩:=t a n;have Y:=Zd<|aeB d ah.2 (eO (wN b) a) gO gO gO gO;have R:=Zs (iD (wN b) d a=QF d (eO (wN b) a)-QF d (eO (wN b) a)*a*a / 8192) (rfl);have r:j.length=9:=g.1;have cd:=c.2.1.cell a gO;have fd:=c.2.1.free a;have Z:=Zd<|QJ g n;have v:=Zd<|KS c O a (iD (wN b) d a);rw[R.out]at v Z;clear g c H t F_ m3 m4 R;generalize aB j a=am at *
    generalize eO (wN b) a=al at *
    generalize QF d al=af at *
    have⟨d1,d2⟩:=ajt af a m1 m2 gO;have k0:(0:Int)<=a:=gO;have k2:(a:Int)<9:=gO;go_wp2_with fail;refine(Y _).mono ?_;rintro m w6 ⟨rfl,rfl⟩;clear Y U;go_wp2_with fail;go_roundw
    case rel=>exact⟨a+1,_,by go_num,gO,Z,v⟩
    case measure=>simp[intOf];omega
   obtain rfl:a=9:=gO;have r:j.length=9:=g.1;have U:=Zd c.2.1;have Y:=Zd c.1;have i:=bF (rs':=j) c.1 (by rw[r,ak]);have R:=kU i.1 (by rw[r];exact KQ);rw[agX g.out]at R;have Z:=Zd<|aG c.2.2.2 i.2 (Q6 _);clear g c i H t F_;go_wp2_with (first|refine lA U (by rw[r];exact KQ) ?_|refine sA j Y (by rw[r,ak]) (by rw[ak];exact KQ) ?_);refine QB (v:=.tuple #[uY (wN b) d,I ((d:Int)-31),I 0]) ?_ rfl ⟨d,o,rfl,Z⟩;simp[results,results138,asAddr,Act.put,R]
def adp (a:Nat->Int)(b:Nat):L:=(List.range 9).map (iD a b)
def aeF (a:Nat->Int)(b:Nat):(adp a b).length=9:=by simp[adp]
def QM (a:Nat->Int)(b:Nat):uY a b=.agg (aF (adp a b)):=rfl
def hp (a b c d:Int):Obj:=.cells #[I a,I b,I c,I d] 48
def aeG (c d:W)(b:L)(g h:Int)(e a:Nat)(f:L):Prop:=
 d.heap[c.heap.size]?=some (hp (aB b (a+1)) (aB b a) (aB (lC b [h,g] a) (a+1)) (aB (lC b [h,g] a) a))/\
 d.heap[c.heap.size+1]?=some (hp 0 0 0 0)/\
 d.heap[c.heap.size+1+1]?=some (.cells (aF f) 3 (0,0))/\(f.length=e/\∀e,e<a->aB f e=aB (lC b [h,g] a) (e+2))/\c.grownBy d none
def adq (c h:L)(d e:Int)(a b:Nat)(f:b<a+2):aB (lC c [e,d] (a+1)) b=aB (lC c [e,d] a) b:=by have g:=uV c d e a;show aB (lC c [e,d] a++[_]) b=_;simp[aB,List.getD,H6,g,f]
def Xf (b:L)(c d:Int)(a:Nat):aB (lC b [d,c] (a+1)) (a+2)=zQ (aB b (a+2)) (aB b (a+1)) (aB b a) (aB (lC b [d,c] a) (a+1)) (aB (lC b [d,c] a) a):=by have e:=uV b c d a;show aB (lC b [d,c] a++[_]) (a+2)=_;simp[aB,List.getD,H6,e]
def Xg (a:W)(b c d e:Int)(f:L):aeG a (((a.alloc (hp b c d e)).alloc (hp 0 0 0 0)).alloc (.cells (aF (List.replicate f.length 0)) 3)) ([c,b]++f) d e f.length 0 (List.replicate f.length 0):=by
 have h:=aj (a.alloc (hp b c d e)) (hp 0 0 0 0) none;have i:=aj ((a.alloc (hp b c d e)).alloc (hp 0 0 0 0)) (.cells (aF (List.replicate f.length 0)) 3) none;have g:=dF a (hp b c d e);have j:=dF (a.alloc (hp b c d e)) (hp 0 0 0 0);have k:=dF ((a.alloc (hp b c d e)).alloc (hp 0 0 0 0)) (.cells (aF (List.replicate f.length 0)) 3);refine⟨?_,?_,?_,⟨by simp,λf f=>gO⟩,ay (ay (aj _ _ none) h) i⟩
 .rw[i.block _ (aO ((h.block _ (aO g) (by simp)).trans g)) (by simp),h.block _ (aO g) (by simp)];exact g
 .rw[show a.heap.size+1=(a.alloc (hp b c d e)).heap.size by simp,i.block _ (aO j) (by simp)];exact j
 rw[show a.heap.size+1+1=((a.alloc (hp b c d e)).alloc (hp 0 0 0 0)).heap.size by simp];exact k
def aaU {c:Int}(aa:aeG w w' l i c n b p)(hk:b<n)(q:Obj)(d:Int)
 (K:zQ (aB l (b+2)) (aB l (b+1)) (aB l b) (aB (lC l [c,i] b) (b+1)) (aB (lC l [c,i] b) b)=d) :
 aeG w ((((((w'.alloc q).setCell (A w.heap.size 0) (I (aB l (b+2)))).setCell (A w.heap.size 1) (I (aB l (b+1)))).setCell (A w.heap.size 2) (I d)).setCell (A w.heap.size 3) (I (aB (lC l [c,i] b) (b+1)))).setCell (A (w.heap.size+1+1) b) (I d)) l i c n (b+1) (p.set b d):=by
 have⟨F,G,H,⟨J,h4⟩,h5⟩:=aa;have f:=aj w' q none;have T:=(f.block _ (aO F) (by simp)).trans F;have s:=(f.block _ (aO G) (by simp)).trans G;have t:=(f.block _ (aO H) (by simp)).trans H;generalize w'.alloc q=r at *
 have h:=aD r (A w.heap.size 0) (I (aB l (b+2)));have U:=heap_setCell (k:=0) T (I (aB l (b+2)));have u:=(h.block _ (aO s) (by simp)).trans s;have v:=(h.block _ (aO t) (by simp;omega)).trans t;generalize r.setCell (A w.heap.size 0) (I (aB l (b+2)))=M at *
 have j:=aD M (A w.heap.size 1) (I (aB l (b+1)));have X:=heap_setCell (k:=1) U (I (aB l (b+1)));have x:=(j.block _ (aO u) (by simp)).trans u;have y:=(j.block _ (aO v) (by simp;omega)).trans v;generalize M.setCell (A w.heap.size 1) (I (aB l (b+1)))=O at *
 have k:=aD O (A w.heap.size 2) (I d);have Y:=heap_setCell (k:=2) X (I d);have z:=(k.block _ (aO x) (by simp)).trans x;have B:=(k.block _ (aO y) (by simp;omega)).trans y;generalize O.setCell (A w.heap.size 2) (I d)=P at *
 have m:=aD P (A w.heap.size 3) (I (aB (lC l [c,i] b) (b+1)));have C:=heap_setCell (k:=3) Y (I (aB (lC l [c,i] b) (b+1)));have D:=(m.block _ (aO z) (by simp)).trans z;have Z:=(m.block _ (aO B) (by simp;omega)).trans B;generalize P.setCell (A w.heap.size 3) (I (aB (lC l [c,i] b) (b+1)))=g at *
 have o:=aD g (A (w.heap.size+1+1) b) (I d);have f0:=(o.block _ (aO C) (by simp;omega)).trans C;have f1:=(o.block _ (aO D) (by simp)).trans D;have E:=heap_setCell (k:=b) Z (I d);rw[wD]at E;generalize g.setCell (A (w.heap.size+1+1) b) (I d)=wf at *
 have Q:r.grownBy g (some w.heap.size):=bT (bT (bT h j _ (λd a _=>a) (λd a _=>a)) k _ (λd a _=>a) (λd a _=>a)) m _ (λd a _=>a) (λd a _=>a);have R:w.grownBy g none:=aG (ay h5 f) Q (Q6 _);refine⟨?_,f1,E,⟨by simpa using J,λd e=>?_⟩,aG R o (by simp;omega)⟩
 .rw[f0];have q1:=adq l [] i c b (b+1) gO;have e:=Xf l i c b;rw[K]at e;show _=some (hp (aB l (b+2)) (aB l (b+1)) (aB (lC l [c,i] (b+1)) (b+2)) (aB (lC l [c,i] (b+1)) (b+1)));rw[q1,e];rfl
 by_cases a:d=b
 .subst a;have e:=Xf l i c d;rw[K]at e;rw[e];simp[aB,List.getD,J,hk]
 have:=h4 d gO;rw[adq l [] i c b (d+2) gO,<-this];simp[aB,List.getD,WB,Ne.symm a]
def aaV {e:Int}(k:aeG w w' l i e n b p)(a:Obj)(d:Nat)(s:d<n):(w'.alloc a).cell? (A w.heap.size 0)=some (I (aB l (b+1)))/\(w'.alloc a).cell? (A w.heap.size 1)=some (I (aB l b))/\(w'.alloc a).cell? (A w.heap.size 2)=some (I (aB (lC l [e,i] b) (b+1)))/\(w'.alloc a).cell? (A w.heap.size 3)=some (I (aB (lC l [e,i] b) b))/\
 (w'.alloc a).frozen? (A w.heap.size 0)=false/\(w'.alloc a).frozen? (A w.heap.size 1)=false/\(w'.alloc a).frozen? (A w.heap.size 2)=false/\(w'.alloc a).frozen? (A w.heap.size 3)=false/\
 (w'.alloc a).cell? (A (w.heap.size+1+1) d)=some (I (aB p d))/\(w'.alloc a).frozen? (A (w.heap.size+1+1) d)=false:=by
 have⟨h,m,j,⟨o,q⟩,r⟩:=k;have g:=aj w' a none;have c:=(g.block _ (aO h) (by simp)).trans h;have f:=(g.block _ (aO j) (by simp)).trans j;exact⟨aI c 0,aI c 1,aI c 2,aI c 3,bA c 0,bA c 1,bA c 2,bA c 3,(aI f d).trans (pQ p d gO),bA f d⟩
def aaW (g:W)(b c d e:Int)(a:L)(i:Ending)(h:W):Prop:=
 ∃f,i=.returned (.tuple #[f,.agg #[I (aB ([c,b]++a) (a.length+1)),I (aB ([c,b]++a) a.length),I (aB (lC ([c,b]++a) [e,d] a.length) (a.length+1)),I (aB (lC ([c,b]++a) [e,d] a.length) a.length)],I 0])/\
  h.ownsRow g.heap.size 3 1 f a.length (((lC ([c,b]++a) [e,d] a.length).drop 2).map (Value.int .i64))/\g.grownBy h none
def aeH {f:Int}(y:aeG w w' l i f n n p)(M:n<=35184372088832)(b c d e:Int)(W:World)
 (O:aB l (n+1)=b) (P:aB l n=c) (Q:aB (lC l [f,i] n) (n+1)=d) (R:aB (lC l [f,i] n) n=e)
 (m:W=((((w'.setCell (A (w.heap.size+1) 0) (I b)).setCell (A (w.heap.size+1) 1) (I c)).setCell (A (w.heap.size+1) 2) (I d)).setCell (A (w.heap.size+1) 3) (I e))) :
 W.drew.cell? (A (w.heap.size+1) 0)=some (I b)/\W.drew.cell? (A (w.heap.size+1) 1)=some (I c)/\W.drew.cell? (A (w.heap.size+1) 2)=some (I d)/\W.drew.cell? (A (w.heap.size+1) 3)=some (I e)/\w.grownBy W.drew none/\
  W.drew.ownsRow w.heap.size 3 1 (.slice (S (w.heap.size+1+1)) n n) n (((lC l [f,i] n).drop 2).map (Value.int .i64)):=by
 have⟨K,z,j,⟨k,B⟩,C⟩:=y;have E:=heap_setCell (k:=0) z (I b);have F:=heap_setCell (k:=1) E (I c);have G:=heap_setCell (k:=2) F (I d);have o:=heap_setCell (k:=3) G (I e);have t:=aD w' (A (w.heap.size+1) 0) (I b);have u:=aD (w'.setCell (A (w.heap.size+1) 0) (I b)) (A (w.heap.size+1) 1) (I c);have v:=aD ((w'.setCell (A (w.heap.size+1) 0) (I b)).setCell (A (w.heap.size+1) 1) (I c)) (A (w.heap.size+1) 2) (I d);have x:=aD (((w'.setCell (A (w.heap.size+1) 0) (I b)).setCell (A (w.heap.size+1) 1) (I c)).setCell (A (w.heap.size+1) 2) (I d)) (A (w.heap.size+1) 3) (I e);have r:((((#[Value.int .i64 0,I 0,I 0,I 0].setIfInBounds 0 (I b)).setIfInBounds 1 (I c)).setIfInBounds 2 (I d)).setIfInBounds 3 (I e))=#[I b,I c,I d,I e]:=rfl;rw[r]at o;have h:w'.grownBy W.drew (some (w.heap.size+1)):=by
  have:=bT (bT (bT t u _ (λg a _=>a) (λg a _=>a)) v _ (λg a _=>a) (λg a _=>a)) x (some (w.heap.size+1)) (λg a _=>a) (λg a _=>a);rw[<-m]at this;exact bB this
 have a:W.drew.heap[w.heap.size+1]?=some (.cells #[I b,I c,I d,I e] 48 (0,0)):=by rw[m];exact o
 have H:=(h.block _ (aO j) (by simp)).trans j;have g:=uV l i f n;have s:p=(lC l [f,i] n).drop 2:=by
  apply List.ext_getElem
  .rw[DN,g];omega
  intro D q J;have:=B D gO;rw[List.getElem_drop];simp only[aB,List.getD]at this;rw[KM q,KM gO]at this;simp only[Option.getD_some]at this;rw[this];congr 1;omega
 refine⟨(aI a 0),(aI a 1),(aI a 2),(aI a 3),aG C h gO,?_,.inr ⟨w.heap.size+1+1,n,aF p,rfl,gO,H,Q6 _,by unfold maxLen;omega,?_,?_⟩⟩
 .rw[GK,DN,g];omega
 .simp[aF,k]
 rw[<-s];simp only[aF,List.toList_toArray];rw[K3 (by simp[k])]
def u_ (b:W)(a:Ending)(c:W):Prop:=a=.returned (.tuple #[N,.agg #[I 0,I 0,I 0,I 0],I 2])/\b.grownBy c none
def agY (i j d e:Int)(r:V)(b:L)(g:W)(z:aY g r b)(hl:b.length*8<=281474976710656)(C:aL b=true)(D:aL [i,j]=true)(E:aL [d,e]=true):Calls prog 137 #[.agg #[I i,I j,I d,I e],r] g (aaW g i j d e b):=by
 have P:=Zd z;have RB:=Zd<|iE r b;rw[C]at RB;obtain⟨ad,ae,rfl,hc,Y⟩:=z;have Q:=Zd Y;have aa:=λa=>JK b.length gO gO a;rw[Int.toNat_natCast]at aa;go_enter func137,ntmps137;have B:((g.alloc (hp i j d e)).alloc (hp 0 0 0 0)).heap[g.heap.size]?=some (hp i j d e):=mo (aj _ _ none);have w:=Zd<|iE (.slice (S g.heap.size) 2 2) [i,j] _ (iG B 0 i j rfl rfl) (by simp);have x:=Zd<|iE (.slice (some (A g.heap.size 2)) 2 2) [d,e] _ (iG B 2 d e rfl rfl) (by simp);rw[D]at w;rw[E]at x;go_wp2_with fail;refine w.mono ?_;rintro k O ⟨rfl,rfl⟩;go_wp2_with fail;refine x.mono ?_;rintro k O ⟨rfl,rfl⟩;go_wp2_with fail;refine(RB _ (aR P (ay (aj _ _ none) (aj _ _ none))) gO).mono ?_;rintro k O ⟨rfl,rfl⟩;go_wp2_with fail;have T:=Zd<|Xg g i j d e b;have l:=Zd<|JL i j b D C;have y:=Zd<|ze ([j,i]++b) d e E;have X:=Zs (∀a,aB b a=aB ([j,i]++b) (a+2)) (λa=>rfl);generalize ab:[j,i]++b=c at *
 have R:=Zd ab;go_loopw [32] (λf wr=>∃(a:Nat) (J:L),f=I a/\a<=b.length/\Hid (aeG g wr c d e b.length a J)) (λf _=>b.length-(intOf f).toNat)
 case atStart=>exact⟨0,_,rfl,QN _,T⟩
 case round=>
  obtain⟨a,J,rfl,hk,f⟩:=hrel;by_cases q:a<b.length
  .obtain⟨ac,rfl,hv⟩:=Q gO;have ck:=aU f.2.2.2.2 (hv a q);rw[X.out]at ck;have m:=aI f.1 0;have n:=aI f.1 1;have o:=aI f.1 2;have p:=aI f.1 3;simp at m n o p;have⟨U,b2⟩:=l (a+2);have⟨b3,b4⟩:=l (a+1);have⟨b5,b6⟩:=l a;have⟨b7,b8⟩:=y a (a+1);have⟨b9,Z⟩:=y a a;have v:=Zd<|aaS _ _ _ _ _ b3 b4 b5 b6 b7 b8 b9 Z U b2;obtain⟨s,F⟩:∃s,zQ (aB c (a+2)) (aB c (a+1)) (aB c a) (aB (lC c [e,d] a) (a+1)) (aB (lC c [e,d] a) a)=s:=⟨_,rfl⟩;rw[F]at v;have u:=Zd<|aaU f q (hp (aB c (a+1)) (aB c a) (aB (lC c [e,d] a) (a+1)) (aB (lC c [e,d] a) a)) s F;have t:=Zd<|aaV f (hp (aB c (a+1)) (aB c a) (aB (lC c [e,d] a) (a+1)) (aB (lC c [e,d] a) a)) a q;simp only[hp]at u t;generalize aB c (a+2)=G at *
   generalize aB c (a+1)=H at *
   generalize aB c a=af at *
   generalize aB (lC c [e,d] a) (a+1)=K at *
   generalize aB (lC c [e,d] a) a=M at *
   go_wp2_with fail;refine(v _).mono ?_;rintro k w3 ⟨rfl,rfl⟩;have⟨d0,d1,d2,d3,f0,f1,f2,f3,d4,f4⟩:=t;generalize wr.alloc _=w3 at *
   go_wp2;go_roundw
   case rel=>exact⟨a+1,_,by go_num,gO,u⟩
   case measure=>simp[intOf];omega
  obtain rfl:a=b.length:=gO;have m:=aI f.1 0;have n:=aI f.1 1;have o:=aI f.1 2;have p:=aI f.1 3;have r0:=aI f.2.1 0;have r1:=aI f.2.1 1;have r2:=aI f.2.1 2;have r3:=aI f.2.1 3;have t0:=bA f.2.1 0;have t1:=bA f.2.1 1;have t2:=bA f.2.1 2;have t3:=bA f.2.1 3;simp at m n o p r0 r1 r2 r3;have v:=Zd (show aaW g i j d e b=λk i=>∃a,k=.returned (.tuple #[a,.agg #[I (aB c (b.length+1)),I (aB c b.length),I (aB (lC c [e,d] b.length) (b.length+1)),I (aB (lC c [e,d] b.length) b.length)],I 0])/\
   i.ownsRow g.heap.size 3 1 a b.length (((lC c [e,d] b.length).drop 2).map (Value.int .i64))/\g.grownBy i none from by
   unfold aaW;rw[R.out])
  have s:=Zd<|aeH f gO _ _ _ _ _ rfl rfl rfl rfl rfl;generalize aB c (b.length+1)=G at *
  generalize aB c b.length=H at *
  generalize aB (lC c [e,d] b.length) (b.length+1)=K at *
  generalize aB (lC c [e,d] b.length) b.length=M at *
  have⟨Z,o1,o2,o3,u,U⟩:=s;have t:=Zd u;have F:=Zd U;go_wp2_with fail;go_region;go_wp2;refine QB (v:=.tuple #[.slice (S (g.heap.size+1+1)) b.length b.length,.agg #[I G,I H,I K,I M],I 0]) ?_ rfl ?_
  .simp[results,results137,go_sem,Z,o1,o2,o3]
  rw[v.out];exact⟨_,rfl,F,t⟩
def agZ (b c d e:Int)(i:V)(g:L)(a:W)(j:aY a i g)(t:g.length*8<=281474976710656)(m:aL [b,c]=false):Calls prog 137 #[.agg #[I b,I c,I d,I e],i] a (u_ a):=by
 have n:=Zd j;have RB:=Zd<|iE i g;obtain⟨o,q,rfl,s,p⟩:=j;have k:((a.alloc (hp b c d e)).alloc (hp 0 0 0 0)).heap[a.heap.size]?=some (hp b c d e):=mo (aj _ _ none);have f:=Zd<|iE (.slice (S a.heap.size) 2 2) [b,c] _ (iG k 0 b c rfl rfl) (by simp);have l:=Zd<|iE (.slice (some (A a.heap.size 2)) 2 2) [d,e] _ (iG k 2 d e rfl rfl) (by simp);rw[m]at f;simp only[hp]at f l;go_enter func137,ntmps137;go_wp2_with fail;refine f.mono ?_;rintro r u ⟨rfl,rfl⟩;go_wp2;refine QB (v:=.tuple #[N,.agg #[I 0,I 0,I 0,I 0],I 2]) ?_ rfl ?_
 .simp[results,results137,go_sem]
 exact⟨rfl,ay (aj _ _ none) (aj _ _ none)⟩
def ag0 (b c d e:Int)(j:V)(i:L)(a:W)(k:aY a j i)(v:i.length*8<=281474976710656)(n:aL [b,c]=true)(o:aL [d,e]=false):Calls prog 137 #[.agg #[I b,I c,I d,I e],j] a (u_ a):=by
 have q:=Zd k;have RB:=Zd<|iE j i;obtain⟨r,t,rfl,u,s⟩:=k;have l:((a.alloc (hp b c d e)).alloc (hp 0 0 0 0)).heap[a.heap.size]?=some (hp b c d e):=mo (aj _ _ none);have f:=Zd<|iE (.slice (S a.heap.size) 2 2) [b,c] _ (iG l 0 b c rfl rfl) (by simp);have g:=Zd<|iE (.slice (some (A a.heap.size 2)) 2 2) [d,e] _ (iG l 2 d e rfl rfl) (by simp);rw[n]at f;rw[o]at g;simp only[hp]at f g;go_enter func137,ntmps137;go_wp2_with fail;refine f.mono ?_;rintro m p ⟨rfl,rfl⟩;go_wp2_with fail;refine g.mono ?_;rintro m p ⟨rfl,rfl⟩;go_wp2;refine QB (v:=.tuple #[N,.agg #[I 0,I 0,I 0,I 0],I 2]) ?_ rfl ?_
 .simp[results,results137,go_sem]
 exact⟨rfl,ay (aj _ _ none) (aj _ _ none)⟩
def ag1 (b c d e:Int)(j:V)(f:L)(a:W)(l:aY a j f)(w:f.length*8<=281474976710656)(q:aL [b,c]=true)(r:aL [d,e]=true)(p:aL f=false):Calls prog 137 #[.agg #[I b,I c,I d,I e],j] a (u_ a):=by
 have o:=Zd l;have RB:=Zd<|iE j f;obtain⟨s,u,rfl,v,t⟩:=l;have m:((a.alloc (hp b c d e)).alloc (hp 0 0 0 0)).heap[a.heap.size]?=some (hp b c d e):=mo (aj _ _ none);have g:=Zd<|iE (.slice (S a.heap.size) 2 2) [b,c] _ (iG m 0 b c rfl rfl) (by simp);have i:=Zd<|iE (.slice (some (A a.heap.size 2)) 2 2) [d,e] _ (iG m 2 d e rfl rfl) (by simp);rw[q]at g;rw[r]at i;rw[p]at RB;simp only[hp]at g i;go_enter func137,ntmps137;go_wp2_with fail;refine g.mono ?_;rintro k n ⟨rfl,rfl⟩;go_wp2_with fail;refine i.mono ?_;rintro k n ⟨rfl,rfl⟩;go_wp2_with fail;refine(RB _ (aR o (ay (aj _ _ none) (aj _ _ none))) gO).mono ?_;rintro k n ⟨rfl,rfl⟩;go_wp2;refine QB (v:=.tuple #[N,.agg #[I 0,I 0,I 0,I 0],I 2]) ?_ rfl ?_
 .simp[results,results137,go_sem]
 exact⟨rfl,ay (aj _ _ none) (aj _ _ none)⟩
def aju (c d e f:Int)(g:V)(a:L)(b:W)(h:aY b g a)(i:a.length*8<=281474976710656)(j:(aL [c,d]&&aL [e,f]&&aL a)=false):Calls prog 137 #[.agg #[I c,I d,I e,I f],g] b (u_ b):=by
 rcases hx:aL [c,d]with _|_
 .exact agZ c d e f g a b h i hx
 rcases hy:aL [e,f]with _|_
 .exact ag0 c d e f g a b h i hx hy
 exact ag1 c d e f g a b h i hx hy (by rw[hx,hy]at j;simpa using j)
def P_ (b c d e:Int)(a:L):Bool:=aL [b,c]&&aL [d,e]&&aL a
def hiX (b c:Int)(a:L):L:=[c,b]++a
def Yv (b c d e:Int)(a:L):L:=lC (hiX b c a) [e,d] a.length
def Xh (b c d e:Int)(a:L):Int:=if P_ b c d e a=true then 0 else 2
def hiM (b c d e:Int)(a:L)(f:Nat):Int:=if P_ b c d e a=true then
 (match f with|0=>aB (hiX b c a) (a.length+1)|1=>aB (hiX b c a) a.length|2=>aB (Yv b c d e a) (a.length+1)|_=>aB (Yv b c d e a) a.length)else 0
def Vd (b c d e:Int)(a:L):L:=if P_ b c d e a=true then(Yv b c d e a).drop 2 else[]
def hiT (b c d e:Int)(a:L)(f:V):V:=.tuple #[f,.agg #[I (hiM b c d e a 0),I (hiM b c d e a 1),I (hiM b c d e a 2),I (hiM b c d e a 3)],I (Xh b c d e a)]
def adr (b c d e:Int)(a:L):(Vd b c d e a).length=if P_ b c d e a=true then a.length else 0:=by
 unfold Vd;split
 .rw[DN,Yv,uV];omega
 rfl
def KT (b c d e:Int)(h:V)(a:L)(f:W)(n:aY f h a)(o:a.length*8<=281474976710656):Calls prog 137 #[.agg #[I b,I c,I d,I e],h] f λk j=>∃i,k=.returned (hiT b c d e a i)/\fO f.heap.size j i (Vd b c d e a)/\f.grownBy j none:=by
 rcases hk:P_ b c d e a with _|_
 .refine(aju b c d e h a f n o hk).mono λk j ⟨l,m⟩=>⟨N,?_,?_,m⟩
  .rw[l];simp[hiT,hiM,Xh,hk]
  simp[Vd,hk];exact bN _ _
 have g:=hk;unfold P_ at g;simp only[VL]at g;refine(agY b c d e h a f n o g.2 g.1.1 g.1.2).mono λk j ⟨i,l,f,m⟩=>⟨i,?_,?_,m⟩
 .rw[l];simp[hiT,hiM,Xh,hk,hiX,Yv]
 have i:=adr b c d e a;rw[Q9 hk]at i;unfold fO;rw[i];simpa [Vd,hk,Yv,hiX] using f
def aa7 (a:L):Nat:=Lib.bitLen (eO (wN a) 0).toNat
def qZ (a:L):L:=adp (wN a) (aa7 a)
def Dy (a:L):(qZ a).length=9:=aeF _ _
def ady (b:L):∀a,a<8->-32768<=aB (nL b) a/\aB (nL b) a<=32768:=λa _=>by have:=ai6 b a;omega
def wB (b d c:L):Nat->L
 | 0=>d
 | a+1=>qR (iF (bM (wB b d c a) 0 8) b a) (Cb (wB b d c a) (WW (wB b d c a) (iF (bM (wB b d c a) 0 8) b a) (bM c (40*a) 40))) (tQ (wB b d c a) (WW (wB b d c a) (iF (bM (wB b d c a) 0 8) b a) (bM c (40*a) 40)))
def D8 (b c d:L)(a:Nat):L:=iF (bM (wB b c d a) 0 8) b a
def sJ (d c b:L)(a:Nat):L:=WW (wB d c b a) (D8 d c b a) (bM b (40*a) 40)
def Dz (c b d:L)(a:Nat):wB c b d (a+1)=qR (D8 c b d a) (Cb (wB c b d a) (sJ c b d a)) (tQ (wB c b d a) (sJ c b d a)):=rfl
def rE (c d:L)(b:l.length=101):∀a,(wB c l d a).length=101
 | 0=>b
 | a+1=>by rw[Dz,wP,Ah];exact rE c d b a
def zB (b:L)(e:p.length=101)(d:bJ p=true)(f:l.length=8)(h:cZ l=true):∀a,bJ (wB l p b a)=true
 | 0=>d
 | a+1=>by
  have c:=zB b e d f h a;have j:=tO (bM (wB l p b a) 0 8) l a (aT _ _ _) f (jM c) h;have i:vO (sJ l p b a):=Xa _ j;have g:=rE l b e a;rw[Dz];exact Fx (by rw[Ah];exact g) j (WV g c i) (FM i _)
def KY (d:L)(f:p.length=101)(e:bJ p=true)(b:l.length=8)(c:cZ l=true)(a:Nat):j6 (D8 l p d a):=
 tO _ l a (aT _ _ _) b (jM (zB d f e b c a)) c
def wZ (b:L)(d:p.length=101)(c:bJ p=true)(e:l.length=8)(f:cZ l=true)(a:Nat):vO (sJ l p b a):=Xa _ (KY b d c e f a)
def fF (a:L):L:=bM a 124 101
def jo (a b:L):L:=Vd (aB a 0) (aB a 1) (aB a 2) (aB a 3) b
def nH (a b:L):L:=bM a 84 40++jo a b
def lZ (a b:L):L:=quL (nL (qZ (nH a b)))
def Oc (a b:L)(c:Bool):Int:=if c=true then 1 else if fU (jo a b) (jo a b) 80<1280 then 2 else 0
def sj (a:L)(b:Bool):L:=if b=true then iY else fF a
def O_ (a b:L)(c:Bool):L:=if Oc a b c=2 then au 16 else sJ (iV (lZ a b)) (sj a c) (jo a b) 0++sJ (iV (lZ a b)) (sj a c) (jo a b) 1
def pK (a b:L)(c:Bool):L:=Oc a b c::(lZ a b++O_ a b c)
def vU (a b:L):L:=[hiM (aB a 0) (aB a 1) (aB a 2) (aB a 3) b 0,hiM (aB a 0) (aB a 1) (aB a 2) (aB a 3) b 1,hiM (aB a 0) (aB a 1) (aB a 2) (aB a 3) b 2,hiM (aB a 0) (aB a 1) (aB a 2) (aB a 3) b 3]
def vV (a b:L):Bool:=P_ (aB a 0) (aB a 1) (aB a 2) (aB a 3) b
abbrev qL (a b:L):Prop:=b.length=80/\bJ (fF a)=true/\vV a b=true/\aL (nH a b)=true
def lJ (a b:L)(c:Bool):L:=if qL a b then vU a b++(nH a b++lH (fF a) (pK a b c))else au 225
def mK (a b:L)(c:Bool):Bool:=if qL a b then mU (pK a b c)else false
def lK (a b:L)(c:Bool):L:=if qL a b then GJ (pK a b c)else[]
def lM (a b:L)(c:Bool):L:=if qL a b then qK (fF a) (pK a b c)else[]
def iw (b a:L):Int:=if a.length=80 then(if qL b a then 0 else 2)else 1
def Au (a:vV l p=true):(jo l p).length=p.length:=by unfold jo;unfold vV at a;rw[adr,Q9 a]
def w_ (b:vV l p=true):aL (jo l p)=true:=by have a:=b;unfold vV P_ at a;simp only[VL]at a;have d:=ze (hiX (aB l 0) (aB l 1) p) (aB l 2) (aB l 3) a.1.2 p.length;have e:jo l p=(Yv (aB l 0) (aB l 1) (aB l 2) (aB l 3) p).drop 2:=Q9 b;rw[bD];intro c f;rw[e,show aB ((Yv (aB l 0) (aB l 1) (aB l 2) (aB l 3) p).drop 2) c=aB (Yv (aB l 0) (aB l 1) (aB l 2) (aB l 3) p) (2+c) by simp[aB,List.getD]];exact d _
def vk (b:p.length=80)(a:vV l p=true):(nH l p).length=120:=by unfold nH;rw[ZB,aT,Au a,b]
def KZ {e:L}(a:Bool)(b:bJ (fF e)=true):(sj e a).length=101/\bJ (sj e a)=true:=by
 unfold sj;split
 .exact⟨j5,Ab⟩
 exact⟨aT _ _ _,b⟩
def jg (a c:L)(b:Nat)(d:b<a.length):aB (a++c) b=aB a b:=by unfold aB List.getD;rw[BQ d]
def iH (a c:L)(b:Nat)(d:a.length<=b):aB (a++c) b=aB c (b-a.length):=by unfold aB List.getD;rw[BK d]
def adz (d:Bool)(e:bJ (fF l)=true):(O_ l p d).length=16:=by
 have⟨a,b⟩:=KZ d e;have c:cZ (iV (lZ l p))=true:=vg _ (zA (nL (qZ (nH l p))));unfold O_;split
 .exact ak _
 rw[ZB,(wZ (jo l p) a b (mX _) c 0).len,(wZ (jo l p) a b (mX _) c 1).len]
def adA (a:Bool)(b:bJ (fF p)=true):(pK p l a).length=25:=by unfold pK;rw[List.length_cons,ZB,adz a b,show(lZ p l).length=8 from xZ _]
def ajE (a b:L)(c:Bool):0<=Oc a b c/\Oc a b c<=2:=by
 unfold Oc;split
 .omega
 split<;>omega
def amQ (b:Bool)(a:Nat)(c:a<8):aB (pK l p b) (1+a)=aB (lZ l p) a:=by rw[Nat.add_comm];show aB (lZ l p++O_ l p b) a=_;exact jg _ _ _ (by rw[show(lZ l p).length=8 from xZ _];exact c)
def amR (b:Bool)(a:Nat):aB (pK l p b) (9+a)=aB (O_ l p b) a:=by rw[show 9+a=(8+a)+1 by omega];show aB (lZ l p++O_ l p b) (8+a)=_;rw[iH _ _ _ (by rw[show(lZ l p).length=8 from xZ _];omega),show(lZ l p).length=8 from xZ _,Nat.add_sub_cancel_left]
def ag8 (b:vO l)(c:Nat)(f:c<2)(a:Nat)(e:a<8):0<=aB l a/\aB l a<=wo (9+8*c+a):=by
 have d:wo (9+8*c+a)=wo (9+a):=by
  have:∀c:Fin 2,∀a:Fin 8,wo (9+8*c.val+a.val)=wo (9+a.val):=by decide
  exact this ⟨c,f⟩ ⟨a,e⟩
 rw[d];obtain rfl|rfl|rfl|rfl|rfl|rfl|rfl|rfl:a=0\/a=1\/a=2\/a=3\/a=4\/a=5\/a=6\/a=7:=gO
 .exact b.eZ
 .exact b.pit
 .exact b.idx 0 gO
 .exact b.idx 1 gO
 .exact b.idx 2 gO
 .exact b.idx 3 gO
 .exact b.mO
 exact b.iC
def DF (c:Bool)(j:bJ (fF p)=true):jC (pK p l c)=true:=by
 have⟨e,f⟩:=KZ c j;have h:cZ (iV (lZ p l))=true:=vg _ (zA (nL (qZ (nH p l))));have m:aa6 (lZ p l):=zA (nL (qZ (nH p l)));rw[lY];intro b k;by_cases i:b=0
 .subst i;exact ajE p l c
 by_cases o:b<9
 .obtain⟨a,rfl⟩:∃a,b=1+a:=⟨b-1,gO⟩;rw[amQ c a gO,TL a gO];have:=m.2 a gO;omega
 obtain⟨a,rfl⟩:∃a,b=9+a:=⟨b-9,gO⟩;rw[amR];unfold O_;split
 .rw[jU];exact⟨DC _,(FJ (9+a) k).1⟩
 have d:=wZ (jo p l) e f (mX _) h 0;have n:=wZ (jo p l) e f (mX _) h 1;by_cases g:a<8
 .rw[jg _ _ _ (by rw[d.len];exact g)];exact ag8 d 0 gO a g
 rw[iH _ _ _ (by rw[d.len];omega),d.len];have:=ag8 n 1 gO (a-8) gO;rwa [show 9+8*1+(a-8)=9+a by omega]at this
def K5 (b:Bool)(c:p.length=225):(lJ p l b).length=225:=by
 unfold lJ;split
 .rename_i a;rw[ZB,ZB,vk a.1 a.2.2.1,uD _ (show(fF p).length=101 from aT _ _ _)];rfl
 exact ak _
def Od (a:W)(c:L)(d:Bool)(b:W):Prop:=h_ b a.heap.size c d/\h_ b (a.heap.size+1) (au 225) false/\a.grownBy b none
def Od.new (c:W)(a:L)(b:Bool):Od c a b ((c.alloc (.cells (bV a b).toArray 55)).alloc (.cells (bV (au 225) false).toArray 55)):=by refine⟨(h_.new c a b).aC (aj _ _ none),?_,ay (aj _ _ none) (aj _ _ none)⟩;have:=h_.new (c.alloc (.cells (bV a b).toArray 55)) (au 225) false;simpa using this
def Od.aC (b:Od w l s w')(a:w'.grownBy u none):Od w l s u:=⟨b.1.aC a,b.2.1.aC a,ay b.2.2 a⟩
def Od.own (b:Od w l s w')(a:w'.grownBy u z)(d:∀c,z=some c->w.heap.size+1+1<=c):Od w l s u:=by
 rcases z with _|c
 .exact b.aC a
 have:=d c rfl;exact⟨b.1.aH a gO,b.2.1.aH a gO,aG b.2.2 a gO⟩
def Od.fin (c:Od w l s w')(a:L)(b:Bool)(d:a.length=225):h_ (dz w' (w.heap.size+1) 0 (bV a b)) (w.heap.size+1) a b/\w.grownBy (dz w' (w.heap.size+1) 0 (bV a b)) none/\w'.grownBy (dz w' (w.heap.size+1) 0 (bV a b)) (some (w.heap.size+1)):=by have:=c.2.1.dQ (m:=a) (t:=b) (ak 225) d;exact⟨this.1,aG c.2.2 this.2 gO,this.2⟩
def K6 (W:World)(d c b:Nat)(g f e:L)(h:Bool)(a:World):Prop:=W.grownBy a none/\iQ a d 79 g/\bY a c 50 f/\bU a b e h
def K6.aC {W:World}(c:K6 W n b k l p r s w)(a:w.grownBy w' none):K6 W n b k l p r s w':=⟨ay c.1 a,c.2.1.aC a,c.2.2.1.aC a,c.2.2.2.aC a⟩
structure NB3 (W:World) (bp bn bm:Nat):Prop where
 a:W.heap.size<=bp
 b:bp<bn
 c:bn<bm
def K6.amS {W:World}(c:K6 W n b k l p r s w)(d:NB3 W n b k)(a:Nat)(e:Int)(f:a<l.length):K6 W n b k (l.set a e) p r s (w.setCell (A n a) (I e)):=by have:=d.b;have:=d.c;exact⟨aG c.1 (aD w (A n a) _) d.a,c.2.1.set a e f,c.2.2.1.aH (aD w (A n a) _) (by simp;omega),c.2.2.2.aH (aD w (A n a) _) (by simp;omega)⟩
def K6.Xq {W:World}(c:K6 W n b k l p r s w)(f:NB3 W n b k)(d:Nat)(a:L)(g:d+a.length<=l.length):K6 W n b k (jd l d a) p r s (dz w n d (aQ a)):=by have:=f.b;have:=f.c;have e:=c.2.1.put d a g;exact⟨aG c.1 e.2 f.a,e.1,c.2.2.1.aH e.2 gO,c.2.2.2.aH e.2 gO⟩
def K6.mem {W:World}{e:L}{f:Bool}(c:K6 W n b k l p r s w)(d:NB3 W n b k)(g:bU w' k e f)(a:w.grownBy w' (some k)):K6 W n b k l p e f w':=by have:=d.a;have:=d.b;have:=d.c;exact⟨aG c.1 a gO,c.2.1.aH a gO,c.2.2.1.aH a gO,g⟩
def K6.allM {W:World}(e:K6 W n b k l p r s w)(h:NB3 W n b k)(a:L)(c:Bool)(f:r.length=101)(g:a.length=101):K6 W n b k l p a c (dz w k 0 (aP a c))/\w.grownBy (dz w k 0 (aP a c)) (some k):=by have d:=e.2.2.2.dQ (m:=a) (t:=c) f g;exact⟨e.mem h d.1 d.2,d.2⟩
def K6.anq {W:World}(e:K6 W n b k l p r s w)(g:NB3 W n b k)(c:Nat)(a:L)(f:c+a.length<=r.length):K6 W n b k l p (jd r c a) s (dz w k c (aQ a))/\w.grownBy (dz w k c (aQ a)) (some k):=by have d:=e.2.2.2.put c a f;exact⟨e.mem g d.1 d.2,d.2⟩
def rY (P:L)(b:Nat->L):Nat->L
 | 0=>P
 | a+1=>jd (rY P b a) (9+8*a) (b a)
def uG (P:L)(b:Nat->L):∀a,(rY P b a).length=P.length
 | 0=>rfl
 | a+1=>by show(jd _ _ _).length=_;rw[dV];exact uG P b a
def DJ {P:L}(c:Nat->L)(d:P.length=25)(a:Nat)(e:a<9):∀b,aB (rY P c b) a=aB P a
 | 0=>rfl
 | b+1=>by
  show aB (jd _ _ _) a=_;rw[gT _ _ _ _ (by rw[uG,d];omega),nO];exact DJ c d a e b
def Xr {P:L}(b:Nat->L)(c:P.length=25)(a:Nat)(e:a<2)(d:(b a).length=8):bM (rY P b (a+1)) (9+8*a) 8=b a:=by refine(dL d (λd e=>?_)).symm;show aB (b a) d=aB (jd _ _ _) _;rw[gT _ _ _ _ (by rw[uG,c];omega),pO,Nat.add_sub_cancel_left]
def Xt {P:L}(b:Nat->L)(d:Int)(e:P.length=25)(m:aB P 0=d)(h:l.length=8)(n:∀a,a<8->aB P (1+a)=aB l a)(f:(b 0).length=8)(i:(b 1).length=8):rY P b 2=d::(l++(b 0++b 1)):=by
 have p:(rY P b 2).length=25:=by rw[uG,e]
 have j:(d::(l++(b 0++b 1))).length=25:=by simp[h,f,i]
 rw[dL p (λa _=>rfl:∀a,a<25->aB (rY P b 2) a=(λa=>aB (rY P b 2) a) a),dL j (λa _=>rfl:∀a,a<25->aB (d::(l++(b 0++b 1))) a=(λa=>aB (d::(l++(b 0++b 1))) a) a)];refine qY 25 _ _ λa r=>?_;show aB (rY P b 2) a=aB (d::(l++(b 0++b 1))) a;by_cases o:a<9
 .rw[DJ b e a o 2];by_cases k:a=0
  .subst k;exact m
  obtain⟨c,rfl⟩:∃c,a=1+c:=⟨a-1,gO⟩;rw[n c gO,Nat.add_comm];exact(jg l _ c gO).symm
 have q:aB (d::(l++(b 0++b 1))) a=aB (b 0++b 1) (a-9):=by
  obtain⟨c,rfl⟩:∃c,a=(8+c)+1:=⟨a-9,gO⟩;show aB (l++(b 0++b 1)) (8+c)=_;rw[iH _ _ _ gO,h]
  (congr 1<;>omega)
 rw[q];show aB (jd (rY P b 1) 17 (b 1)) a=_;rw[gT _ _ _ _ (by rw[uG,e];omega),i];by_cases g:17<=a/\a<17+8
 .rw[Q9 g,iH _ _ _ gO,f]
  (congr 1<;>omega)
 rw[X9 g,jg _ _ _ gO];show aB (jd P 9 (b 0)) a=_;rw[gT _ _ _ _ gO,f,Q9 gO]
def Xu (a:L):L:=jd (au 25) 1 a
def qy (a:L):(Xu a).length=25:=by unfold Xu;rw[dV,ak]
def Js (c:l.length=8)(a:Nat)(b:a<25):aB (Xu l) a=if 1<=a/\a<9 then aB l (a-1)else 0:=by unfold Xu;rw[gT _ _ _ _ (by rw[ak];exact b),c,jU]
def ag9 (a:l.length=8):bM (Xu l) 1 8=l:=by refine(dL a (λb b=>?_)).symm;rw[Js a _ gO,pO,Nat.add_sub_cancel_left]
def ajG (d:l.length=8):(Xu l).set 0 2=2::(l++au 16):=by
 have g:((Xu l).set 0 2).length=25:=by rw[XB,qy]
 have e:((2:Int)::(l++au 16)).length=25:=by simp[d,ak]
 rw[dL g (λa _=>rfl:∀a,a<25->aB ((Xu l).set 0 2) a=(λa=>aB ((Xu l).set 0 2) a) a),dL e (λa _=>rfl:∀a,a<25->aB ((2:Int)::(l++au 16)) a=(λa=>aB ((2:Int)::(l++au 16)) a) a)];refine qY 25 _ _ λa f=>?_;show aB ((Xu l).set 0 2) a=aB ((2:Int)::(l++au 16)) a;rw[iM _ _ _ (by rw[qy];omega)];by_cases c:a=0
 .subst c;rfl
 rw[X9 c,Js d a f];obtain⟨b,rfl⟩:∃b,a=b+1:=⟨a-1,gO⟩;show _=aB (l++au 16) b;by_cases h:b<8
 .rw[Q9 gO,jg _ _ _ gO,Nat.add_sub_cancel]
 rw[X9 gO,iH _ _ _ gO,jU]
def qz (c:aY w x l)(e:0<l.length):∃a b,x=.slice (some a) l.length b:=by obtain⟨f,b,rfl,_,d⟩:=c;obtain⟨a,rfl,_⟩:=d e;exact⟨a,b,rfl⟩
def ajH (b:L)(a:Nat)(c:40*a+40<=b.length):aa8 b (40*a) (40*a+40)=bM b (40*a) 40:=by refine dL (by rw[Xp _ _ _ c];omega) λa a=>?_;unfold aa8 aB List.getD;rw[List.getElem?_drop,KC,pO]
def kK (b:Bool)(a:¬qL l p):lJ l p b=au 225/\mK l p b=false/\lK l p b=[]/\lM l p b=[]:=⟨X9 a,X9 a,X9 a,X9 a⟩
def lN (a:Bool)(b:qL l p):lJ l p a=vU l p++(nH l p++lH (fF l) (pK l p a))/\mK l p a=mU (pK l p a)/\lK l p a=GJ (pK l p a)/\lM l p a=qK (fF l) (pK l p a)/\iw l p=0:=⟨Q9 b,Q9 b,Q9 b,Q9 b,by unfold iw;rw[Q9 b.1,Q9 b]⟩
def Av (a:¬qL l p)(b:p.length=80):iw l p=2:=by unfold iw;rw[Q9 b,X9 a]
structure Hq (e:L):Prop where
 len:e.length=225
 mem:bJ (fF e)=true
 hp:∀i,i<4->-32768<=aB e i/\aB e i<=32767
 inp:aL (bM e 4 120)=true
def aeN:Hq q9:=by
 refine⟨zC,by decide +kernel,λa b=>?_,by decide +kernel⟩;have:∀a:Fin 4,-32768<=aB q9 a.val/\aB q9 a.val<=32767:=by decide +kernel
 exact this ⟨a,b⟩
def x9 (a b:Int)(c:-32768<=a/\a<=32767)(d:-32768<=b/\b<=32767):aL [a,b]=true:=by
 rw[bD];intro f e
 match f,e with
 | 0,_=>exact c
 | 1,_=>exact d
def Xv (a:Hq l)(b:aL p=true):vV l p=true:=by unfold vV P_;rw[x9 _ _ (a.hp 0 gO) (a.hp 1 gO),x9 _ _ (a.hp 2 gO) (a.hp 3 gO),b];rfl
def aeO (a:aL l=true)(b:aL p=true):aL (l++p)=true:=by
 unfold aL at *
 rw[List.all_append,a,b];rfl
def ag_ (a:Hq l)(b:p.length=80)(c:aL p=true):qL l p:=by refine⟨b,a.mem,Xv a c,?_⟩;unfold nH;refine aeO ((qQ _ _ _).2 (λb d=>?_)) (w_ (Xv a c));have:=(qQ _ _ _).1 a.inp (80+b) gO;rwa [show 4+(80+b)=84+b by omega]at this
def Aw (a:Hq l)(e:aL p=true)(b:Nat):-32768<=hiM (aB l 0) (aB l 1) (aB l 2) (aB l 3) p b/\hiM (aB l 0) (aB l 1) (aB l 2) (aB l 3) p b<=32767:=by
 have c:=JL (aB l 0) (aB l 1) p (x9 _ _ (a.hp 0 gO) (a.hp 1 gO)) e;have d:=ze (hiX (aB l 0) (aB l 1) p) (aB l 2) (aB l 3) (x9 _ _ (a.hp 2 gO) (a.hp 3 gO)) p.length;unfold hiM;split
 .split
  .exact c _
  .exact c _
  .exact d _
  exact d _
 omega
def xk (a b:L):(vU a b).length=4:=rfl
def ajI (a:Bool)(b:qL l p):fF (lJ l p a)=lH (fF l) (pK l p a):=by have d:(lH (fF l) (pK l p a)).length=101:=uD _ (aT _ _ _);have c:=vk b.1 b.2.2.1;rw[(lN a b).1];show f_ 101 (λb=>aB (vU l p++(nH l p++lH (fF l) (pK l p a))) (124+b))=_;refine(dL d (λb d=>?_)).symm;show _=aB (vU l p++(nH l p++lH (fF l) (pK l p a))) (124+b);rw[iH _ _ _ (by rw[xk];omega),iH _ _ _ (by rw[xk,c];omega),xk,c,show 124+b-4-120=b by omega]
def aa9 (a:Hq l)(h:p.length=80)(e:aL p=true)(d:Bool):Hq (lJ l p d):=by
 have c:=ag_ a h e;have g:=vk c.1 c.2.2.1;refine⟨K5 d a.len,?_,λb f=>?_,?_⟩
 .rw[ajI d c];exact QE (aT _ _ _) a.mem (DF d a.mem)
 .rw[(lN d c).1,jg _ _ _ (by rw[xk];exact f)];obtain rfl|rfl|rfl|rfl:b=0\/b=1\/b=2\/b=3:=gO
  .exact Aw a e 0
  .exact Aw a e 1
  .exact Aw a e 2
  exact Aw a e 3
 rw[qQ];intro b f;rw[(lN d c).1,iH _ _ _ (by rw[xk];omega),xk,Nat.add_sub_cancel_left,jg _ _ _ (by rw[g];exact f)];exact(bD _).1 c.2.2.2 b (by rw[g];exact f)
def XW (b:Hq l):iI l:=λa=>by
 by_cases c:a<4
 .have:=b.hp a c;omega
 by_cases d:a<124
 .have:=(qQ _ _ _).1 b.inp (a-4) gO;rw[show 4+(a-4)=a by omega]at this;omega
 by_cases e:a<225
 .have:=og (show(fF l).length=101 from aT _ _ _) b.mem (a-124);unfold fF at this;rw[fV _ _ _ _ gO,show 124+(a-124)=a by omega]at this;exact this
 rw[dI _ a (by rw[b.len];omega)];omega
def jr (a:Int)(b:Nat)(q:b<=3000)(f:-9223372036854775808<=a)(g:a<=9223372036854775807)(c:W):Calls prog 45 #[.int .i64 a,.int .u64 b] c (fP c (.int .i64 (a / 2^b))):=by
 have hp:(0:Int)<2^b:=Int.pow_pos (by decide);obtain⟨t,u⟩:-9223372036854775808<=a / 2^b/\a / 2^b<=9223372036854775807:=alB a b _ _ (by decide) (by decide) f g;have l:=Zs (∀d,c.grownBy d none->fP c (.int .i64 (a / 2^b)) (.returned (.int .i64 (a / 2^b))) d) (λd e=>⟨rfl,e⟩);have n:=Zd λi e d k j=>Uh i e a b q d k j;generalize a / 2^b=i at *
 generalize fP c (.int .i64 i)=x at *
 go_enter func45,ntmps45;go_wp2_with fail;refine(eP a _ f g).mono ?_;rintro d v ⟨o,rfl,y,r,e⟩;have w:=bQ (dW c) e (by simp);have L:=Zd<|n c.heap.size o v w r;have m:=Zd<|ay (aj c iW none) e;go_wp2_with fail;refine L.mono ?_;rintro d j ⟨rfl,s,p⟩;have I:=Zd<|oC c.heap.size i j s t u;have k:=Zd<|l j (aG m p (Q6 _));go_wp2_with fail;refine I.mono ?_;rintro d z ⟨rfl,rfl⟩;go_wp2_with fail;exact k
def cO (p:V)(a:L)(d:W)(q:aY d p a)(B:a.length<=1000000000000000000):Calls prog 43 #[p] d (lQ d (.bool (aL a))):=by
 obtain⟨t,w,rfl,x,k⟩:=q;have j:=Zd λ(f:∀b,b<a.length->-32768<=aB a b/\aB a b<=32767)=>(show lQ d (.bool (aL a)) (.returned (.bool true)) d from⟨by rw[(bD a).2 f],rfl⟩);have N:=Zd (λb (l:b<a.length) (f:¬(-32768<=aB a b/\aB a b<=32767))=>(show lQ d (.bool (aL a)) (.returned (.bool false)) d from⟨by
  have:aL a=false:=by
   rcases hb:aL a with _|_
   .rfl
   exact absurd ((bD a).1 hb b l) f
  rw[this],rfl⟩))
 generalize lQ d (.bool (aL a))=r at *
 go_enter func43,ntmps43;go_wp2_with fail;go_loop [7] (λb=>∃c:Nat,b=I c/\c<=a.length/\Hid (∀b,b<c->-32768<=aB a b/\aB a b<=32767)) (λb=>a.length-(intOf b).toNat)
 case atStart=>exact⟨0,rfl,QN _,λb l=>gO⟩
 case round=>
  obtain⟨c,rfl,z,i⟩:=hrel;by_cases n:c<a.length
  .obtain⟨s,rfl,o⟩:=k gO;have y:=o c n;have e:=Zd<|N c n;have g:=Zd (λ(f:-32768<=aB a c/\aB a c<=32767)=>(show ∀b,b<c+1->-32768<=aB a b/\aB a b<=32767 from λb l=>by
    rcases WZ b c with m|m
    .exact i b m
    obtain rfl:b=c:=gO;exact f))
   clear k o j N i;generalize aB a c=m at *
   by_cases u:m < -32768
   .have b:=Zd<|e gO;clear e g;go_wp2_with fail;exact b
   by_cases v:32767<m
   .have b:=Zd<|e gO;clear e g;go_wp2_with fail;exact b
   have b:=Zd<|g gO;clear e g;go_wp2_with fail;go_round
   case rel=>exact⟨c+1,by go_num,gO,b⟩
   case measure=>simp[intOf];omega
  obtain rfl:c=a.length:=gO;have b:=Zd<|j i;clear k j N i;go_wp2_with fail;exact b
def aeW (b a:L)(f:b.length=a.length)(d:∀c,c<a.length->aB b c=aB a c):decide (b=a)=true:=by apply KN;apply List.ext_getElem f;intro g e c;have:=d g c;simpa [aB,List.getD,e,c] using this
def XD (v w:V)(c b:L)(f:W)(y:aY f v c)(z:aY f w b)(T:c.length<=1000000000000000000)(U:b.length<=1000000000000000000):Calls prog 10 #[v,w] f λe a=>e=.returned (.bool (decide (c=b)))/\∃k,a=f.drewN k:=by
 obtain⟨E,H,rfl,P,i⟩:=y;obtain⟨F,J,rfl,Q,j⟩:=z;by_cases u:c.length=b.length
 .have n:=Zd<|aeW c b u;have m:=Zd λa (x:aB c a≠aB b a)=>(show decide (c=b)=false from KF (λe=>x (by rw[e])));generalize decide (c=b)=M at *
  go_enter func10,ntmps10;go_wp2_with fail;go_loopw [13] (λg wr=>∃a k:Nat,g=I a/\a<=b.length/\Hid (∀d,d<a->aB c d=aB b d)/\wr=f.drewN k) (λg _=>b.length-(intOf g).toNat)
  case atStart=>exact⟨0,0,rfl,QN _,λd f=>gO,rfl⟩
  case round=>
   obtain⟨a,k,rfl,R,g,rfl⟩:=hrel;by_cases C:a<b.length
   .obtain⟨D,rfl,s⟩:=i gO;obtain⟨G,rfl,t⟩:=j gO;have K:=s a gO;have O:=t a C;have o:=Zd (λ(e:aB c a=aB b a)=>(show ∀d,d<a+1->aB c d=aB b d from λd f=>by
     rcases WZ d a with l|l
     .exact g d l
     obtain rfl:d=a:=gO;exact e))
    have p:=Zd<|m a;clear i j s t n m g;generalize aB c a=q at *
    generalize aB b a=r at *
    by_cases d:q=r
    .have B:(q==r)=true:=by simp[d]
     have l:=Zd<|o d;clear o p d;go_wp2_with fail;go_quiet (fail);go_wp2_with fail;go_roundw
     case rel=>exact⟨a+1,_,by go_num,gO,l,rfl⟩
     case measure=>simp[intOf];omega
    have B:(q==r)=false:=beq_eq_false_iff_ne.2 d;have l:=Zd<|p d;clear o p d;go_wp2_with fail;go_quiet (fail);go_wp2_with fail;rw[World.drewN_drewN];go_ret;exact⟨by rw[l.out];rfl,_,rfl⟩
   obtain rfl:a=b.length:=gO;have l:=Zd<|n g;clear i j n m g;go_wp2_with fail;go_ret;exact⟨by rw[l.out];rfl,_,rfl⟩
 have d:((c.length:Int)==(b.length:Int))=false:=beq_eq_false_iff_ne.2 gO;have a:decide (c=b)=false:=KF (λe=>u (by rw[e]));rw[a];clear i j a;go_enter func10,ntmps10;go_wp2_with fail;go_ret;exact⟨rfl,0,rfl⟩
def ahg (v:Value)(l:List Int)(w:World)(h:aY w v l)(hl:l.length*8<=140737488355328):Calls prog 12 #[v] w (Lists w l):=by
 obtain⟨ad,c,rfl,hc,anR⟩:=h;obtain⟨i0,hi,hz0,hz1,hz2⟩:=info_parts nY;rcases ad with _|a
 .have h0:l.length=0:=by
   rcases Nat.eq_zero_or_pos l.length with h|h
   .exact h
   obtain⟨a,e,_⟩:=anR h;cases e
  have F:=Zs (Lists w l (.returned (.slice none 0 0)) w) (⟨_,rfl,by rw[h0,List.length_eq_zero_iff.1 h0];exact World.ownsRow_nil _ _ _ _,aM _ _⟩);rw[h0];generalize Lists w l=T at *
  clear anR hl;go_enter func12,ntmps12;go_wp2_with fail;exact F.out
 have hnews:Hid (∀j u,(l.map (Value.int .i64))[j]?=some u->w.cell? (a.add j)=some u):=by
  intro j u h;have hj:j<l.length:=by
   by_cases hj:j<l.length
   .exact hj
   rw[U8 (by simp;omega)]at h;cases h
  obtain⟨a',e,hv⟩:=anR gO;cases e;rw[hv j hj];simpa [aB,List.getD,hj] using h
 have hone:Hid (∀u∈l.map (Value.int .i64),u.oneCell'=true):=by
  intro u hu;obtain⟨x,_,rfl⟩:=List.mem_map.1 hu;rfl
 have FIN:=Zs (∀v' w1,w1.ownsRow w.heap.size 3 1 v' l.length (l.map (Value.int .i64))->w.grownBy w1 none->Lists w l (.returned v') w1) (λv' w1 h1 h2=>⟨v',rfl,h1,h2⟩);clear anR;generalize Lists w l=T at *
 go_enter func12,ntmps12;go_wp2_with (at_builtin;refine wpList_append_own _ rfl _ _ 26 rfl w.heap.size 3 i0 (.int .i64 0) 1 8 underlying26 hi hz0 hz1 hz2 rfl (by decide) _ 0 [] rfl (World.ownsRow_nil _ _ _ _) a l.length c (l.map (Value.int .i64)) rfl ?c1 hnews.out hone.out ?c2 ?c3 (Q6 _) ?_)
 case c1=>simp
 case c2=>unfold maxLen;omega
 case c3=>omega
 intro v' w1 h1 h2 h3;have F:=Zd<|FIN.out v' w1 (by simpa using h1) h2;clear h1 h2 h3 FIN hnews hone;go_wp2_with fail;exact F.out


def Lc (a:L)(b:a.length=101):(qV a).length=101:=by
 unfold qV;split
 .exact qd _ _ b 2
 exact ak _
structure fQ where
 e:L
 t:Bool
 m:L
 u:Bool
structure jA (s:fQ):Prop where
 ge:Hq s.e
 ml:s.m.length=101
 mg:bJ s.m=true
structure Cl where
 k:Int
 v:Int
 r:Bool
 l:L
 b:L
def Ui:fQ:=⟨q9,false,iY,false⟩
def abh:jA Ui:=⟨aeN,j5,Ab⟩
def Vf (a:fQ)(b:L)(c:Bool):fQ:=if iw a.e b=0 then⟨lJ a.e b c,mK a.e b c,a.m,a.u⟩else a
def ssD (a:fQ)(b:L):fQ:=if kM a.m b=0 then⟨a.e,a.t,mV a.m b,r_ a.m b⟩else a
def ssR (a:fQ):fQ:=⟨a.e,a.t,qV a.m,sG a.m a.u⟩
def adC (a:iw l p=0):qL l p:=by
 unfold iw at a;split at a
 .split at a
  .assumption
  omega
 omega
def abj (a:qL l p):aL p=true:=by have:=a.2.2.1;unfold vV P_ at this;simp only[VL]at this;exact this.2
def ahh {d:fQ}(a:jA d)(f:L)(c:Bool):jA (Vf d f c):=by
 unfold Vf;split
 .rename_i e;have b:=adC e;exact⟨aa9 a.ge b.1 (abj b) c,a.ml,a.mg⟩
 exact a
def Uj (b:bJ l=true)(a:kM l p=0):xV p=0:=by unfold kM at a;rwa [Q9 b]at a
def ahi {c:fQ}(a:jA c)(b:L):jA (ssD c b):=by
 unfold ssD;split
 .rename_i e;have d:=Uj a.mg e;refine⟨a.ge,Ky b a.ml,?_⟩;show bJ (mV c.m b)=true;rw[(qp a.mg d).1];exact QE a.ml a.mg (Aj b d)
 exact a
def ahj {b:fQ}(a:jA b):jA (ssR b):=⟨a.ge,Lc _ a.ml,aeu a.ml a.mg⟩
def Uk (a:Bool)(b:iw l p≠0):lK l p a=[]/\lM l p a=[]:=by have:¬qL l p:=λc=>b (lN a c).2.2.2.2;exact⟨(kK a this).2.2.1,(kK a this).2.2.2⟩
def dec_not {b:L}(a:bJ l=true)(c:kM l b≠0):nP l b=[]:=by have:xV b≠0:=λd=>c (qp a d).2.2.2;exact(xX a this).2.2.1
def yg (b:Int->Option fQ)(d:Int)(c:Option fQ):Int->Option fQ:=λa=>if a=d then c else b a
def iR (c:Int->Option fQ)(b:Int)(a:Option fQ):yg c b a b=a:=Q9 rfl
def fJ (b:Int->Option fQ){a:Int}(d:Option fQ)(c:a≠i):yg b i d a=b a:=X9 c
def F6 (b:fQ)(a:Cl):Int:=if a.k=2 then iw b.e a.l else if a.k=3 then kM b.m a.b else if a.k=4 then qg b.m else 0
def XF (b:fQ)(a:Cl):L:=if a.k=2 then lK b.e a.l a.r else[]
def Ul (b:fQ)(a:Cl):L:=if a.k=2 then lM b.e a.l a.r else if a.k=3 then nP b.m a.b else if a.k=4 then qI b.m else[]
def Um (b:fQ)(a:Cl):Option fQ:=if a.k=2 then some (Vf b a.l a.r)else if a.k=3 then some (ssD b a.b)else if a.k=4 then some (ssR b)else none
def rW (b:Option fQ)(a:Nat)(c:Int):Int:=if c<0 then 2 else if b.isSome then 10 else if 32<=a then 7 else 0
def F8 (b:Option fQ)(c:Nat)(a:Cl):Int:=if a.k=1 then rW b c a.v else if 2<=a.k/\a.k<=5 then(match b with|none=>6|some s=>F6 s a)else 4
def Ld (b:Option fQ)(a:Cl):L:=if 2<=a.k/\a.k<=5 then(match b with|none=>[]|some s=>XF s a)else[]
def Iw (b:Option fQ)(a:Cl):L:=if 2<=a.k/\a.k<=5 then(match b with|none=>[]|some s=>Ul s a)else[]
def Qa (b:Option fQ)(c:Nat)(a:Cl):Option fQ:=if a.k=1 then(if rW b c a.v=0 then some Ui else b)else if 2<=a.k/\a.k<=5 then(match b with|none=>none|some s=>Um s a)else b
def Ht (c:Option fQ)(a:Nat)(b:Cl):Nat:=if b.k=1 then(if rW c a b.v=0 then a+1 else a)else if b.k=5 then(match c with|none=>a|some _=>a-1)else a
def Le (b:Int->Option fQ)(c:Nat)(a:Cl):Int->Option fQ:=yg b a.v (Qa (b a.v) c a)
def Ay (a:Int->Option fQ)(b:Int):yg a b (a b)=a:=by
 funext x;by_cases c:x=b
 .subst c;exact iR a x _
 exact fJ a _ c
def alZ (e:Option fQ)(b:Cl)(f:∀c,e=some c->jA c):(Iw e b).length<=80:=by
 unfold Iw;split
 .rcases e with _|c
  .simp
  have a:=f c rfl;show(Ul c b).length<=80;unfold Ul;split
  .by_cases d:iw c.e b.l=0
   .rw[(lN b.r (adC d)).2.2.2.1];exact Nat.le_of_eq (Kw (show(fF c.e).length=101 from aT _ _ _) a.ge.mem (DF b.r a.ge.mem)).1
   rw[(Uk b.r d).2];simp
  split
  .by_cases d:kM c.m b.b=0
   .rw[(qp a.mg (Uj a.mg d)).2.2.1];exact Nat.le_of_eq (Kw a.ml a.mg (Aj b.b (Uj a.mg d))).1
   rw[dec_not a.mg d];simp
  split
  .exact Nat.le_of_eq (aaz a.ml a.mg).1
  simp
 simp
def ant (a:W)(e:List Int)(f:Bool)(L:List Int)(d:Int)(g h i:V)(c:W):Prop:=∃b,g=.pointer (S b)/\i=I d/\bU c b e f/\fO a.heap.size c h L/\a.heap.size<=b/\a.grownBy c none

def anu (a:W)(f:List Int)(h:Bool)(d L:List Int)(e:Int)(i j k g:V)(b:W):Prop:=∃c,i=.pointer (S c)/\g=I e/\h_ b c f h/\iT a.heap.size b j d/\fO a.heap.size b k L/\a.heap.size<=c/\a.grownBy b none
def alh (a:rD x l):x=N\/∃b d c,x=.slice (some b) d c:=by
 rcases a with a|⟨b,c,a⟩
 .exact .inl a
 exact .inr ⟨b,_,c,a⟩
def uX (f:Nat)(c:W):Prop:=∀(b:L) (g:Bool),Hq b->∀(e:V) (a:L) (d:W),c.grownBy d none->aY d e a->rD e a->iI a->a.length*8<=140737488351232->∀c:Bool,Calls prog f #[gu b g,e,.bool c] d (rO d (lJ b a c) (mK b a c) (lK b a c) (lM b a c) (iw b a))
def uZ (e:Nat)(g:W):Prop:=∀(b:L) (f:Bool),b.length=101->bJ b=true->∀(d:V) (a:L) (c:W),g.grownBy c none->jI c d a->rD d a->yP a->a.length<=140737488351232->Calls prog e #[bL b f,d] c (fu c (mV b a) (r_ b a) (nP b a) (kM b a))
def zq (d:Nat)(e:W):Prop:=∀(a:L) (c:Bool),a.length=101->bJ a=true->∀b,e.grownBy b none->Calls prog d #[bL a c] b (fu b (qV a) (sG a c) (qI a) (qg a))
def A9:Value->Option (DataW Unit×List MemPlace)
 | .pointer none=>some (.nil,[])
 | .pointer (some ⟨a,0,none⟩)=>some (.lit (.int .i64 a),[])
 | _=>none
def ahl {b:List MemPlace}(a:A9 x=some (.nil,b)):x=.pointer none:=by
 unfold A9 at a;split at a
 .rfl
 .simp at a
 simp at a
def ajN {b:List MemPlace}(a:A9 x=some (.lit (.int .i64 n),b)):x=.pointer (some ⟨n,0,none⟩):=by
 unfold A9 at a;split at a
 .simp at a
 .simp at a;obtain⟨a,_⟩:=a;obtain rfl:=Int.ofNat_inj.1 a;rfl
 simp at a
def gN (a:fQ):List V:=bV a.e a.t++aP a.m a.u
def mh {b:fQ}(a:jA b):(gN b).length=328:=by unfold gN;rw[ZB,bK a.ge.len,aJ a.ml]
def XH (c:fQ):∀a∈gN c,a.oneCell'=true:=λa b=>by
 rcases List.mem_append.1 b with b|b
 .exact gG _ _ a b
 exact bO _ _ a b
def al1 {a:fQ}(b:jA a):((gN a).drop 0).take 226=bV a.e a.t:=by unfold gN;rw[List.drop_zero,List.take_append_of_le_length (by rw[bK b.ge.len];omega)];exact K3 (by rw[bK b.ge.len];omega)
def ahm {a:fQ}(b:jA a):((gN a).drop 226).take 102=aP a.m a.u:=by unfold gN;rw[List.drop_append_of_le_length (by rw[bK b.ge.len];omega),List.drop_of_length_le (by rw[bK b.ge.len];omega),List.nil_append];exact K3 (by rw[aJ b.ml];omega)
def aeY {a:fQ}(c:jA a)(b:L)(d:Bool)(e:b.length=225):lu (gN a) 0 (bV b d)=gN ⟨b,d,a.m,a.u⟩:=by unfold lu gN;rw[List.take_zero,List.nil_append,bK e,List.drop_append_of_le_length (by rw[bK c.ge.len];omega),List.drop_of_length_le (by rw[bK c.ge.len];omega),List.nil_append]
def aeZ {a:fQ}(c:jA a)(b:L)(d:Bool)(g:b.length=101):lu (gN a) 226 (aP b d)=gN ⟨a.e,a.t,b,d⟩:=by
 have e:(bV a.e a.t++aP a.m a.u).take 226=bV a.e a.t:=by
  rw[List.take_append_of_le_length (by rw[bK c.ge.len];omega)];exact K3 (by rw[bK c.ge.len];omega)
 have f:(bV a.e a.t++aP a.m a.u).drop (226+(aP b d).length)=[]:=List.drop_of_length_le (by rw[ZB,bK c.ge.len,aJ c.ml,aJ g];omega);unfold lu gN;rw[e,f,F3]
def ahn:Maps.Keyed prog 3:=Maps.int_keyed underlying3
def anv (a:W):(zeroValue 98).run prog a=.ok (.pointer none) a:=by kernel_rfl
def tight {a:DataW Unit}(g:w.ownsMap prog 3 A9 n b a):w.ownsMap prog 3 A9 n (Maps.size a) a:=by have⟨f,e,h,d,i,c⟩:=g;refine⟨f,e,h,d,?_,c⟩;rw[c,Maps.size_eq,length_sorted];simp
def wfI (a:Qp i):(Lit.int .i64 i).wf=true:=WalkArith.wf_i64 a
def atD (b:Int->Option fQ)(c:Int->Nat)(a:Int):DataW Unit:=match b a with|none=>.nil|some _=>.lit (.int .i64 (c a))
structure Ew (w:World) (d:Nat) (F:Int->Option fQ) (n:Nat) (Z:Nat->Prop) (mb:Nat) (D:DataW Unit) (bl:Int->Nat):Prop where
 dk:aW w d 43 [.map (some mb)]
 mp:w.ownsMap prog 3 A9 mb n D
 sz:Maps.size D=n
 hs:∀v,Maps.has D (.int .i64 v)=(F v).isSome
 at':∀v,D.atKey (.int .i64 v) .nil=atD F bl v
 bk:∀v s,F v=some s->aW w (bl v) 100 (gN s)/\Z (bl v)
 ne:∀u v s t,F u=some s->F v=some t->bl u=bl v->u=v
 zd:Z d
 zm:Z mb
 zl:∀b,Z b->b<w.heap.size
 ok:∀v s,F v=some s->jA s
def DkW (h:W)(e:Nat)(b:Int->Option fQ)(g:Nat)(c:Nat->Prop):Prop:=∃(f:Nat) (a:DataW Unit) (d:Int->Nat),Ew h e b g c f a d
def Ew.keepR {e:Int->Option fQ}{d:DataW Unit}{g:Int->Nat}(a:Ew w n e b Z k d g)(f:w.grownBy w' z)(h:∀c,z=some c->¬Z c):Ew w' n e b Z k d g:=
 have i:∀c d e,Z c->aW w c d e->aW w' c d e:=λc d e g d=>(f.block _ (aO d) (λe=>h c e.symm g)).trans d
 ⟨i _ _ _ a.zd a.dk,a.mp.kept f (λe=>h k e.symm a.zm),a.sz,a.hs,a.at',λh g e=>⟨i _ _ _ (a.bk h g e).2 (a.bk h g e).1,(a.bk h g e).2⟩,a.ne,a.zd,a.zm,λc d=>WK (a.zl c d) f.size,a.ok⟩
def Ew.aC {c:Int->Option fQ}{a:DataW Unit}{d:Int->Nat}(f:Ew w n c b Z k a d)(e:w.grownBy w' none):Ew w' n c b Z k a d:=f.keepR e (λa a=>by cases a)
def DkW.keepR {a:Int->Option fQ}(f:DkW w n a b Z)(e:w.grownBy w' z)(g:∀c,z=some c->¬Z c):DkW w' n a b Z:=by have⟨i,c,d,h⟩:=f;exact⟨i,c,d,h.keepR e g⟩
def DkW.aC {a:Int->Option fQ}(d:DkW w n a b Z)(c:w.grownBy w' none):DkW w' n a b Z:=d.keepR c (λa a=>by cases a)
def DkW.zl {a:Int->Option fQ}(c:DkW w n a b Z):∀a,Z a->a<w.heap.size:=by have⟨g,e,f,d⟩:=c;exact d.zl
def DkW.ok {a:Int->Option fQ}(d:DkW w n a b Z):∀e c,a e=some c->jA c:=by have⟨g,e,f,c⟩:=d;exact c.ok
def ptV (b:Int->Option fQ)(c:Int->Nat)(a:Int):V:=match b a with|none=>.pointer none|some _=>.pointer (S (c a))
def Ew.look {c:Int->Option fQ}{g:DataW Unit}{d:Int->Nat}(f:Ew w n c b Z k g d){v:Int}(i:Qp v):(Instr.lookup 41 (.map (some k)) (.int .i64 v) false).run prog w=.ok (ptV c d v) w:=by
 obtain⟨m,j,h,a⟩:=f.mp.lookup ahn underlying41 (anv w) (zd:=.nil) (zp:=[]) rfl (Maps.keyOf_int_mk underlying3 (wfI i));rw[h];rw[f.at' v]at a;unfold atD at a;unfold ptV;rcases e:c v with _|l
 .rw[e]at a;rw[ahl a]
 rw[e]at a;rw[ajN a]
def Ew.len {e:Int->Option fQ}{d:DataW Unit}{f:Int->Nat}(a:Ew w n e b Z k d f)(c:TypeId):(Builtin.len_ #[41] c #[.map (some k)]).run prog w=.ok (I b) w:=by rw[a.mp.len underlying41 c,a.sz]
def Ew.more {w1:World}{m:Int->Option fQ}{i:DataW Unit}{C:Int->Nat}(e:Ew w n m b Z k i C){v:Int}(F:m v=none)(D:w.grownBy w1 none){B:Nat}(U:w.heap.size<=B)(s:aW w1 B 100 (gN Ui))
 (E:w1.grownBy w' (some k)) {N:Nat} (Q:w'.ownsMap prog 3 A9 k N (i.put (.int .i64 v) (.lit (.int .i64 B)))) :
 Ew w' n (yg m v (some Ui)) (b+1) (λf=>Z f\/f=B) k (i.put (.int .i64 v) (.lit (.int .i64 B))) (λc=>if c=v then B else C c):=by
 have y:=e.mp.tidy ahn;have P:Maps.has i (.int .i64 v)=false:=by rw[e.hs,F];rfl
 have G:Maps.size (i.put (.int .i64 v) (.lit (.int .i64 B)))=b+1:=by rw[Maps.size_put y,P,e.sz];rfl
 have u:=e.aC D;have Y:∀c g,m c=some g->c≠v:=λc g d a=>by subst a;rw[F]at d;cases d
 have p:∀f,Z f->f<w.heap.size:=e.zl;have X:k<w.heap.size:=p k e.zm;have K:n≠k:=λa=>by
  obtain⟨O,J,t,_⟩:=e.mp;have:=e.dk;unfold aW at this;rw[a,t]at this;cases this
 have x:∀f q r,f≠k->aW w1 f q r->aW w' f q r:=λf q r R h=>h.aH E R;refine⟨x _ _ _ K u.dk,G ▸ tight Q,G,λc=>?_,λc=>?_,λc g d=>?_,λc z g H d o a=>?_,.inl e.zd,.inl e.zm,λf s=>?_,λc g d=>?_⟩
 .by_cases a:c=v
  .subst a;rw[Maps.has_put_same y.isMap (by trivial),iR];rfl
  rw[Maps.has_put_other (by simp;exact a),fJ _ _ a,e.hs]
 .unfold atD;by_cases a:c=v
  .subst a;rw[Maps.atKey_put_same y.isMap (by trivial),iR];simp
  rw[Maps.atKey_put_other (by simp;exact a),fJ _ _ a,e.at'];unfold atD;simp[a]
 .by_cases a:c=v
  .subst a;rw[iR]at d;cases d;simp only[Q9];exact⟨x _ _ _ gO s,.inr trivial⟩
  rw[fJ _ _ a]at d;simp only[X9 a];have h:=u.bk c g d;refine⟨x _ _ _ (λM=>?_) h.1,.inl h.2⟩;obtain⟨O,J,t,_⟩:=u.mp;have:=h.1;unfold aW at this;rw[M,t]at this;cases this
 .by_cases j:c=v<;>by_cases l:z=v
  .omega
  .exfalso;subst j;rw[fJ _ _ l]at o;simp only[Q9,X9 l]at a;have:=p _ (e.bk z H o).2;omega
  .exfalso;subst l;rw[fJ _ _ j]at d;simp only[Q9,X9 j]at a;have:=p _ (e.bk c g d).2;omega
  rw[fJ _ _ j]at d;rw[fJ _ _ l]at o;simp only[X9 j,X9 l]at a;exact e.ne c z g H d o a
 .have h:=E.size;rcases s with T|rfl
  .have:=p f T;have:=D.size;omega
  exact WK (aO (by assumption)) h
 by_cases a:c=v
 .subst a;rw[iR]at d;cases d;exact abh
 rw[fJ _ _ a]at d;exact e.ok c g d
def Ew.less {e:Int->Option fQ}{d:DataW Unit}{f:Int->Nat}(c:Ew w n e b Z k d f){x:fQ}(p:e i=some x)
 (m:w.grownBy w' (some k)) {N:Nat} (v:w'.ownsMap prog 3 A9 k N (d.del (.int .i64 i))) :
 Ew w' n (yg e i none) (b-1) Z k (d.del (.int .i64 i)) f:=by
 have y:=c.mp.tidy ahn;have u:Maps.has d (.int .i64 i)=true:=by rw[c.hs,p];rfl
 have h:Maps.size (d.del (.int .i64 i))=b-1:=by
  have:=Maps.size_del (k:=.int .i64 i) y;rw[u,c.sz]at this;simp at this;omega
 have j:n≠k:=λa=>by
  have⟨t,q,l,_⟩:=c.mp;have:=c.dk;unfold aW at this;rw[a,l]at this;cases this
 have o:∀f d e,f≠k->aW w f d e->aW w' f d e:=λf d e d g=>g.aH m d;refine⟨o _ _ _ j c.dk,h ▸ tight v,h,λe=>?_,λe=>?_,λe h d=>?_,λe p h u d j a=>?_,c.zd,c.zm,λf r=>WK (c.zl f r) m.size,λe h d=>?_⟩
 .by_cases a:e=i
  .subst a;rw[Maps.has_del_same,iR];rfl
  rw[Maps.has_del_other (by simp;exact a),fJ _ _ a,c.hs]
 .unfold atD;by_cases a:e=i
  .subst a;rw[Maps.atKey_del_same,iR]
  rw[Maps.atKey_del_other (by simp;exact a),fJ _ _ a,c.at'];rfl
 .by_cases a:e=i
  .subst a;rw[iR]at d;cases d
  rw[fJ _ _ a]at d;have g:=c.bk e h d;refine⟨o _ _ _ (λf=>?_) g.1,g.2⟩;have⟨t,q,l,_⟩:=c.mp;have:=g.1;unfold aW at this;rw[f,l]at this;cases this
 .have r:e≠i:=λa=>by subst a;rw[iR]at d;cases d
  have s:p≠i:=λa=>by subst a;rw[iR]at j;cases j
  rw[fJ _ _ r]at d;rw[fJ _ _ s]at j;exact c.ne e p h u d j a
 by_cases a:e=i
 .subst a;rw[iR]at d;cases d
 rw[fJ _ _ a]at d;exact c.ok e h d
def Ew.turn {f:Int->Option fQ}{g:DataW Unit}{a:Int->Nat}(d:Ew w n f b Z k g a){s h:fQ}(o:f i=some s)(B:jA h)
 (m:w.grownBy w' (some (a i))) (p:aW w' (a i) 100 (gN h)):Ew w' n (yg f i (some h)) b Z k g a:=by
 have r:=d.bk i s o;have y:k≠a i:=λc=>by
  have⟨l,j,e,_⟩:=d.mp;have:=r.1;unfold aW at this;rw[<-c,e]at this;cases this
 have x:n≠a i:=λc=>by
  have e:=d.dk;have l:=r.1;unfold aW at e l;rw[c,l]at e;simp at e
 have q:∀a,(yg f i (some h) a).isSome=(f a).isSome:=λa=>by
  by_cases c:a=i
  .subst c;rw[iR,o];rfl
  rw[fJ _ _ c]
 have t:∀a g,yg f i (some h) a=some g->∃j,f a=some j:=λa g e=>by
  have:=q a;rw[e]at this;rcases c:f a with _|j
  .rw[c]at this;cases this
  exact⟨j,rfl⟩
 refine⟨d.dk.aH m x,d.mp.kept m (by simpa using y),d.sz,λa=>by rw[q];exact d.hs a,λa=>?_,λa g e=>?_,λa x g j e y c=>?_,d.zd,d.zm,λl p=>WK (d.zl l p) m.size,λa g e=>?_⟩
 .rw[d.at'];unfold atD;have:=q a;rcases c:f a with _|j<;>rcases l:yg f i (some h) a with _|v<;>rw[c,l]at this<;>simp at this ⊢
 .by_cases c:a=i
  .subst c;rw[iR]at e;cases e;exact⟨p,r.2⟩
  rw[fJ _ _ c]at e;have u:=d.bk a g e;exact⟨u.1.aH m (λl=>c (d.ne a i g s e o l)),u.2⟩
 .have⟨C,u⟩:=t a g e;have⟨v,z⟩:=t x j y;exact d.ne a x C v u z c
 by_cases c:a=i
 .subst c;rw[iR]at e;cases e;exact B
 rw[fJ _ _ c]at e;exact d.ok a g e
def xu (a:Cl)(c b:V):V:=.agg #[I a.k,I a.v,.bool a.r,c,b]
structure yS (w:World) (c:Cl) (vs vb:Value):Prop where
 hk:Qp c.k
 hv:Qp c.v
 il:aY w vs c.l
 sl:rD vs c.l
 ll:iI c.l
 nl:c.l.length*8<=140737488351232
 ib:jI w vb c.b
 sb:rD vb c.b
 bb:yP c.b
 nb:c.b.length<=140737488351232
def mM (a b:Int)(c d:V):V:=.agg #[I a,I b,c,d]
def xA (c:W)(i:Nat)(b:Int->Option fQ)(e:Nat)(f:Nat->Prop)(a:Cl)(j:Int)(k:Ending)(d:W):Prop:=
 ∃g h,k=.returned (mM (F8 (b a.v) e a) j g h)/\iT c.heap.size d g (Ld (b a.v) a)/\fO c.heap.size d h (Iw (b a.v) a)/\∃(g:Nat->Prop) (h:Option Nat),DkW d i (Le b e a) (Ht (b a.v) e a) g/\(∀a,g a->f a\/c.heap.size<=a)/\c.grownBy d h/\∀a,h=some a->f a
def dh (a b:Int)(c d:V):List V:=[I a,I b,c,d]
def gQ (a b:Int)(c d:V):(dh a b c d).length=4:=rfl
def iK (g j:Int)(d:Option Addr)(h f:Nat)(c:Option Addr)(i e:Nat):∀b∈dh g j (.slice d h f) (.slice c i e),b.oneCell'=true:=by intro b a;simp[dh]at a;rcases a with rfl|rfl|rfl|rfl<;>rfl
def Ci (a:W):Sem.run prog (zeroValue 34) a=.ok (.agg (dh 0 0 N N).toArray) a:=by kernel_rfl
def abk (a:W):Sem.run prog (Instr.build 34 #[]) a=.ok (.agg (dh 0 0 N N).toArray) a:=by kernel_rfl
def uI (a:Int)(b:W):Sem.run prog (Instr.build 34 #[(0,I a)]) b=.ok (.agg (dh a 0 N N).toArray) b:=by kernel_rfl
def abl (a:Option Addr)(c b:Nat)(d:W):Sem.run prog (Instr.build 34 #[(3,.slice a c b)]) d=.ok (.agg (dh 0 0 N (.slice a c b)).toArray) d:=by kernel_rfl
def abm (b:Option Addr)(e d:Nat)(a:Option Addr)(f c:Nat)(g:W):Sem.run prog (Instr.build 34 #[(2,.slice b e d),(3,.slice a f c)]) g=.ok (.agg (dh 0 0 (.slice b e d) (.slice a f c)).toArray) g:=by kernel_rfl
def jR:(prog.info? 34).map (·.size)=some 4:=by kernel_rfl
def qB {W:World}{a:Int}(b:aW W n 34 (dh i a x v')):Sem.run prog (loadVar 34 (A n 0)) W=.ok (.agg (dh i a x v').toArray) W:=
 qG b jR
def F9 {W:World}{a en' v':Int}{b vb' vl':Value}(c:aW W n 34 (dh i a x b)):aW (dz W n 0 (dh en' v' vb' vl')) n 34 (dh en' v' vb' vl')/\W.grownBy (dz W n 0 (dh en' v' vb' vl')) (some n):=by have:=qM c 0 (dh en' v' vb' vl') (by simp[gQ]);rwa [pW (dh i a x b) (dh en' v' vb' vl') rfl]at this
def vE (e:W)(a b:Int)(c d:V):aW (e.alloc (.cells (dh a b c d).toArray 34)) e.heap.size 34 (dh a b c d):=aW.new _ _ _
def abn (n:Nat)(d:L)(e:Bool)(m:Option Addr)(r o:Nat)(a:Int)(p:a≠0)(b:W):Calls prog 93 #[.pointer (S n),bL d e,.slice m r o,I a] b λf c=>f=.returned (mM a 0 N N)/\b.grownBy c none:=by
 have w:=Ci;have u:=uI a;have v:(a==0)=false:=beq_eq_false_iff_ne.2 p;have i:=Zs (∀c,b.grownBy c none->(λ(f:Ending) (c:W)=>f=.returned (mM a 0 N N)/\b.grownBy c none) (.returned (.agg (dh a 0 N N).toArray)) c) (λc g=>⟨rfl,g⟩);generalize (λ(f:Ending) (c:W)=>f=.returned (mM a 0 N N)/\b.grownBy c none)=s at *
 unfold bL;have k:=Zd<|ay (aj b (.cells (aP d e).toArray 53) none) (aj _ (.cells (dh 0 0 N N).toArray 34) none);have g:=Zs (aW ((b.alloc (.cells (aP d e).toArray 53)).alloc (.cells (dh 0 0 N N).toArray 34)) (b.heap.size+1) 34 (dh 0 0 N N)) (by have:=vE (b.alloc (.cells (aP d e).toArray 53)) 0 0 N N;simpa using this);have l:=Zd<|iK a 0 none 0 0 none 0 0;go_enter func93,ntmps93;go_upto_region 1 with fail;generalize (b.alloc (.cells (aP d e).toArray 53)).alloc (.cells (dh 0 0 N N).toArray 34)=t at *
 have P:=F9 (en':=a) (v':=0) (vb':=N) (vl':=N) g;have q:=qB P.1;have j:=Zd<|i _ (aG k P.2 gO);go_wp2_with (first|refine sV 0 (dh a 0 N N) g (by simp[gQ]) jR l ?_);refine QB (v:=.agg (dh a 0 N N).toArray) ?_ rfl j;simp[results,results93,asAddr,Act.put,q]
def XJ (c:Nat)(f:fQ)(n:jA f)(b:L)(a:Bool)(k:b.length=101)(g:Option Addr)(j i:Nat)(e:World)(r:aW e c 100 (gN f)):Calls prog 93 #[.pointer (S c),bL b a,.slice g j i,I 0] e λl d=>l=.returned (mM 0 0 N (.slice g j i))/\aW d c 100 (gN ⟨f.e,f.t,b,a⟩)/\e.grownBy d (some c):=by
 have Q:=Ci;have M:=abl g j i;have y:=Zs (∀d,aW d c 100 (gN ⟨f.e,f.t,b,a⟩)->e.grownBy d (some c)->(λ(l:Ending) (d:World)=>l=.returned (mM 0 0 N (.slice g j i))/\aW d c 100 (gN ⟨f.e,f.t,b,a⟩)/\e.grownBy d (some c)) (.returned (.agg (dh 0 0 N (.slice g j i)).toArray)) d) (λd m o=>⟨rfl,m,o⟩);generalize (λ(l:Ending) (d:World)=>l=.returned (mM 0 0 N (.slice g j i))/\aW d c 100 (gN ⟨f.e,f.t,b,a⟩)/\e.grownBy d (some c))=J at *
 unfold bL;have O:=aW.lt r;have q:=Zd<|ay (aj e (.cells (aP b a).toArray 53) none) (aj _ (.cells (dh 0 0 N N).toArray 34) none);have s:=Zs (aW ((e.alloc (.cells (aP b a).toArray 53)).alloc (.cells (dh 0 0 N N).toArray 34)) (e.heap.size+1) 34 (dh 0 0 N N)) (by have:=vE (e.alloc (.cells (aP b a).toArray 53)) 0 0 N N;simpa using this);have u:=Zd<|(bU.new e b a).aC (aj _ (.cells (dh 0 0 N N).toArray 34) none);have o:=Zd<|r.aC q;have C:=Zd<|iK 0 0 none 0 0 g j i;have D:=Zd<|bO b a;have p:=Zd<|aJ k a;have w:=Zd<|bU.all a k;have E:=Zd<|mh n;have v:=Zd λ(W:World) (G:aW W c 100 (gN f))=>aeZ n b a k ▸ qM G 226 (aP b a) (by rw[mh n,aJ k];omega);clear r n k;go_enter func93,ntmps93;go_upto_region 3 with fail;generalize (e.alloc (.cells (aP b a).toArray 53)).alloc (.cells (dh 0 0 N N).toArray 34)=F at *
 have m:=v _ o;have x:=Zd m.1;have B:=Zd<|bT q m.2 (some c) (λe d=>by cases d) (λe d _=>d);have t:=Zd<|s.aH m.2 gO;clear v m;go_upto_region 4 with(first|refine lV 0 u aK (by rw[p.out];omega) w ?_|refine sV 226 (aP b a) o (by rw[E.out,p.out];omega) (by rw[p.out];exact aK) D ?_);(try simp only[Act.put]);clear s o u q;generalize dz F c 226 (aP b a)=K at *
 have P:=F9 (en':=0) (v':=0) (vb':=N) (vl':=.slice g j i) t;have H:=qB P.1;have z:=Zd<|y _ (x.aH P.2 gO) (bT B P.2 (some c) (λe d _=>d) (λe d a=>by cases d;omega));clear P;go_wp2_with (first|refine sV 0 (dh 0 0 N (.slice g j i)) t (by simp[gQ]) jR C ?_);refine QB (v:=.agg (dh 0 0 N (.slice g j i)).toArray) ?_ rfl z;simp[results,results93,asAddr,Act.put,H]
def Hw (c:Nat)(f:fQ)(u:jA f)(h:List Int)(l:Bool)(t:h.length=101)(n:V)(L:List Int)(p:Nat)(e:Int)(g:W)(m:aW g c 100 (gN f))(q:fO p g n L)(s:e≠0->L=[]):Calls prog 93 #[.pointer (S c),bL h l,n,I e] g λo k=>∃a d b,o=.returned (mM e 0 N (.slice a d b))/\fO p k (.slice a d b) L/\aW k c 100 (gN (if e=0 then⟨f.e,f.t,h,l⟩else f))/\g.grownBy k (some c):=by
 obtain⟨b,j,d,rfl⟩:∃b j d,n=.slice b j d:=by
  rcases q.xJ with a|⟨b,d,a⟩
  .exact⟨_,_,_,a⟩
  exact⟨_,_,_,a⟩
 by_cases a:e=0
 .subst a;refine(XJ c f u h l t b j d g m).mono ?_;rintro o k ⟨rfl,r,i⟩;exact⟨b,j,d,rfl,q.aH i m (by decide),r,i⟩
 refine(abn c h l b j d e a g).mono ?_;rintro o k ⟨rfl,i⟩;rw[X9 a,s a];exact⟨none,0,0,rfl,bN _ _,m.aC i,Lg i _ (λa a=>by cases a)⟩
def oZ:List (Int×fQ)->Int->Option fQ
 | [],_=>none
 | (c,b)::t,a=>if c=a then some b else oZ t a
def sP (P:List (Int×fQ)):L:=P.map (λa=>a.1)
def xC (P:List (Int×fQ)):List V:=P.flatMap (λa=>gN a.2)
def vF (P:List (Int×fQ)):(sP P).length=P.length:=GK _
def yh (A:List (Int×fQ))(b:Int)(c:fQ)(a:List (Int×fQ)):sP (A++(b,c)::a)=sP A++b::sP a:=by simp[sP]
def DW (A a:List (Int×fQ)):sP (A++a)=sP A++sP a:=by simp[sP]
def Az (A:List (Int×fQ))(c:Int)(b:fQ)(a:List (Int×fQ)):xC (A++(c,b)::a)=xC A++(gN b++xC a):=by simp[xC]
def ajO (A a:List (Int×fQ)):xC (A++a)=xC A++xC a:=by simp[xC]
def Uo:∀{P:List (Int×fQ)},(∀a∈P,jA a.2)->(xC P).length=P.length*328
 | [],_=>rfl
 | (e,c)::t,b=>by
  have d:xC ((e,c)::t)=gN c++xC t:=by simp[xC]
  rw[d,ZB,Uo (λa c=>b a (List.mem_cons_of_mem _ c)),mh (b _ (List.mem_cons_self ..)),List.length_cons];omega
def ajP (P:List (Int×fQ)):∀a∈xC P,a.oneCell'=true:=λa b=>by
 have⟨d,_,c⟩:=List.mem_flatMap.1 b;exact XH _ a c
def Uq:∀{P:List (Int×fQ)} {b:Int},b∉sP P->oZ P b=none
 | [],_,_=>rfl
 | (c,d)::t,b,a=>by
  have a:b∉c::sP t:=a;rw[List.mem_cons,not_or]at a;exact(X9 (λb=>a.1 b.symm)).trans (Uq a.2)
def adF:∀{A:List (Int×fQ)} {a:Int} (c:fQ) (d:List (Int×fQ)),a∉sP A->oZ (A++(a,c)::d) a=some c
 | [],a,c,d,_=>Q9 rfl
 | (e,f)::A,a,c,d,b=>by
  have b:a∉e::sP A:=b;rw[List.mem_cons,not_or]at b;exact(X9 (λa=>b.1 a.symm)).trans (adF c d b.2)
def DX:∀(A:List (Int×fQ)) {d a:Int} (c:fQ) (b:List (Int×fQ)),a≠d->oZ (A++(d,c)::b) a=oZ (A++b) a
 | [],d,a,c,b,e=>X9 (λf=>e f.symm)
 | (g,f)::A,d,a,c,b,e=>by
  show(if g=a then some f else oZ (A++(d,c)::b) a)=if g=a then some f else oZ (A++b) a;rw[DX A c b e]
def aho {A:L}(a:(A++i::l).Nodup):i∉A++l/\(A++l).Nodup:=by have a:=(List.pairwise_middle (fun{b c} b c=>b c.symm)).1 a;rw[List.pairwise_cons]at a;exact⟨λb=>a.1 i b rfl,a.2⟩
def amT {A:L}(c:i∉A++l)(d:(A++l).Nodup):(A++i::l).Nodup:=
 (List.pairwise_middle (fun{e a} b a=>b a.symm)).2 (List.pairwise_cons.2 ⟨λe b a=>c (a ▸ b),d⟩)
def ahp {P:List (Int×fQ)}(a:fQ)(c:i∉sP P):oZ (P++[(i,a)])=yg (oZ P) i (some a):=by
 funext x;by_cases b:x=i
 .subst b;rw[adF a [] c,iR]
 rw[DX P a [] b,fJ _ _ b,F3]
def ahq {A:List (Int×fQ)}(e c:fQ){a:List (Int×fQ)}(d:i∉sP (A++a)):oZ (A++(i,c)::a)=yg (oZ (A++(i,e)::a)) i (some c):=by
 rw[DW,List.mem_append,not_or]at d;funext x;by_cases b:x=i
 .subst b;rw[adF c a d.1,iR]
 rw[DX A c a b,fJ _ _ b,DX A e a b]
def ae0 {A:List (Int×fQ)}(c:fQ){a:List (Int×fQ)}(d:i∉sP (A++a)):oZ (A++a)=yg (oZ (A++(i,c)::a)) i none:=by
 funext x;by_cases b:x=i
 .subst b;rw[Uq d,iR]
 rw[fJ _ _ b,DX A c a b]
def amU {R:List V}{a:fQ}(b:jA a)(c:y.length=n):((y++(gN a++R)).drop n).take 226=bV a.e a.t:=by rw[List.drop_left' c];unfold gN;rw[WJ];exact List.take_left' (bK b.ge.len _)
def ali {R:List V}{a:fQ}(b:jA a)(c:y.length=n):((y++(gN a++R)).drop (n+226)).take 102=aP a.m a.u:=by rw[<-List.drop_drop,List.drop_left' c];unfold gN;rw[WJ,List.drop_left' (bK b.ge.len _)];exact List.take_left' (aJ b.ml _)
def al2 {R:List V}{a:fQ}(d:jA a)(b:y.length=n)(c:Bool)(e:l.length=225):lu (y++(gN a++R)) n (bV l c)=y++(gN ⟨l,c,a.m,a.u⟩++R):=by unfold lu;rw[List.take_left' b,<-List.drop_drop,List.drop_left' b,bK e];unfold gN;rw[WJ (bV a.e a.t),List.drop_left' (bK d.ge.len _)];simp[WJ]
def ahr {R:List V}{a:fQ}(b:jA a)(d:y.length=n)(c:Bool)(g:l.length=101):lu (y++(gN a++R)) (n+226) (aP l c)=y++(gN ⟨a.e,a.t,l,c⟩++R):=by
 unfold lu;have e:(y++(gN a++R)).take (n+226)=y++bV a.e a.t:=by
  unfold gN;rw[show y++(bV a.e a.t++aP a.m a.u++R)=(y++bV a.e a.t)++(aP a.m a.u++R) by simp[WJ]];exact List.take_left' (by rw[ZB,d,bK b.ge.len])
 have f:(y++(gN a++R)).drop (n+226+(aP l c).length)=R:=by
  unfold gN;rw[show y++(bV a.e a.t++aP a.m a.u++R)=(y++bV a.e a.t++aP a.m a.u)++R by simp[WJ]];exact List.drop_left' (by rw[ZB,ZB,d,bK b.ge.len,aJ b.ml,aJ g])
 rw[e,f];simp[gN,WJ]
def Qb (e:Nat->Prop)(f g:W):Prop:=∀a:W->Prop,(∀b d c,a b->b.grownBy d c->(∀b,c=some b->e b)->a d)->a f->a g
def Qb.refl (b:Nat->Prop)(a:W):Qb b a a:=λa _ a=>a
def Qb.step (d:Qb Z w w')(c:w'.grownBy u z)(e:∀a,z=some a->Z a):Qb Z w u:=λb a f=>a _ _ _ (d b a f) c e
structure VQ (w:World) (d base:Nat) (P:List (Int×fQ)) (vv vl:Value):Prop where
 dk:aW w d 29 [vv,vl]
 ov:fO base w vv (sP P)
 ol:w.ownsRow base 59 328 vl P.length (xC P)
 nd:(sP P).Nodup
 ok:∀p∈P,jA p.2
 le:P.length<=32
 bd:base<=d
def Oh (b:Nat)(d c:V)(a:Nat):Prop:=a=b\/d.ownBlock=some a\/c.ownBlock=some a
def gK (d:w.ownsRow n T b x k y)(c:w.grownBy w' z)(e:∀a,z=some a->x.ownBlock≠some a):w'.ownsRow n T b x k y:=by
 refine World.ownsRow.kept d c ?_;rcases q:x.ownBlock with _|a
 .exact .inl rfl
 exact .inr (λc=>e a c.symm q)
def VQ.keepR {P:List (Int×fQ)}(a:VQ w n b P x v')(e:w.grownBy w' z)(f:∀c,z=some c->¬Oh n x v' c):VQ w' n b P x v':=
 ⟨(e.block _ (aO a.dk) (λd=>f n d.symm (.inl rfl))).trans a.dk,gK a.ov e (λc d g=>f c d (.inr (.inl g))),gK a.ol e (λc d g=>f c d (.inr (.inr g))),a.nd,a.ok,a.le,a.bd⟩
def VQ.aC {P:List (Int×fQ)}(c:VQ w n b P x v')(a:w.grownBy w' none):VQ w' n b P x v':=c.keepR a (λa a=>by cases a)
def VQ.lt {P:List (Int×fQ)}(c:VQ w n b P x v'):∀a,Oh n x v' a->b<=a/\a<w.heap.size:=λa d=>by
 rcases d with rfl|d|d
 .exact⟨c.bd,c.dk.lt⟩
 .exact World.ownsRow.lt c.ov a d
 exact World.ownsRow.lt c.ol a d
def RkE (b:W)(c j:Nat)(P:List (Int×fQ))(h f:V)(a:Cl)(i:Ending)(d:W):Prop:=
 ∃e g,i=.returned (mM (F8 (oZ P a.v) P.length a) a.v e g)/\iT b.heap.size d e (Ld (oZ P a.v) a)/\fO b.heap.size d g (Iw (oZ P a.v) a)/\
  ∃e i g,VQ d c j e i g/\oZ e=Le (oZ P) P.length a/\e.length=Ht (oZ P a.v) P.length a/\(∀a,Oh c i g a->Oh c h f a\/b.heap.size<=a)/\Qb (λa=>Oh c h f a\/b.heap.size<=a) b d
structure RkR (w:World) (d base:Nat) (P:List (Int×fQ)) (vv vl:Value) (c:Cl) (wx:World) (en:Int) (vb vr:Value) (P':List (Int×fQ)) (vv' vl':Value):Prop where
 an:aW wx (w.heap.size+2) 34 (dh en c.v vb vr)
 zz:aW wx (w.heap.size+1) 34 (dh 0 0 N N)
 ec:F8 (oZ P c.v) P.length c=en
 ob:iT (w.heap.size+3) wx vb (Ld (oZ P c.v) c)
 ol:fO (w.heap.size+3) wx vr (Iw (oZ P c.v) c)
 rk:VQ wx d base P' vv' vl'
 ef:oZ P'=Le (oZ P) P.length c
 ep:P'.length=Ht (oZ P c.v) P.length c
 hz:∀b,Oh d vv' vl' b->Oh d vv vl b\/w.heap.size+3<=b
 tr:Qb (λb=>Oh d vv vl b\/w.heap.size<=b) w wx
def RkR.fin {P:List (Int×fQ)}{f:Cl}{g h:V}{j:List (Int×fQ)}{l k:V}(a:RkR w n b P x v' f u i g h j l k)(m:∀d,Oh n x v' d->d<w.heap.size)(e:u.grownBy w' (some (w.heap.size+1))):RkE w n b P x v' f (.returned (mM i f.v g h)) w':=by
 refine⟨g,h,by rw[a.ec],(a.ob.bH e gO).base gO,(a.ol.bH e gO).base gO,j,l,k,a.rk.keepR e (λd f c=>?_),a.ef,a.ep,λd c=>?_,a.tr.step e (λd f=>?_)⟩
 .cases f;rcases a.hz _ c with c|c
  .have:=m _ c;omega
  omega
 .rcases a.hz _ c with c|c
  .exact .inl c
  exact .inr gO
 cases f;exact .inr gO
def DY (b:Int->Option fQ)(d:Nat)(a:Cl)(f:Int)(c:(a.k<1\/5<a.k)/\f=4\/a.k=1/\a.v<0/\f=2\/a.k=1/\0<=a.v/\(b a.v).isSome/\f=10\/a.k=1/\0<=a.v/\b a.v=none/\32<=d/\f=7\/2<=a.k/\a.k<=5/\b a.v=none/\f=6):F8 (b a.v) d a=f/\Ld (b a.v) a=[]/\Iw (b a.v) a=[]/\Le b d a=b/\Ht (b a.v) d a=d:=by
 have h:Qa (b a.v) d a=b a.v->Le b d a=b:=λe=>by unfold Le;rw[e,Ay]
 rcases c with⟨c,rfl⟩|⟨c,i,rfl⟩|⟨c,i,g,rfl⟩|⟨c,i,g,l,rfl⟩|⟨c,j,g,rfl⟩
 .refine⟨?_,?_,?_,h ?_,?_⟩<;>simp only[F8,Ld,Iw,Qa,Ht]<;>rw[nO]<;>try rw[nO]
 .have e:rW (b a.v) d a.v=2:=Q9 i;refine⟨?_,?_,?_,h ?_,?_⟩<;>simp only[F8,Ld,Iw,Qa,Ht]<;>simp[c,e]
 .have e:rW (b a.v) d a.v=10:=by unfold rW;rw[nO,Q9 g]
  refine⟨?_,?_,?_,h ?_,?_⟩<;>simp only[F8,Ld,Iw,Qa,Ht]<;>simp[c,e]
 .have e:rW (b a.v) d a.v=7:=by unfold rW;rw[nO,X9 (by rw[g];simp),Q9 l]
  refine⟨?_,?_,?_,h ?_,?_⟩<;>simp only[F8,Ld,Iw,Qa,Ht]<;>simp[c,e]
 have k:a.k≠1:=gO;refine⟨?_,?_,?_,h ?_,?_⟩<;>simp only[F8,Ld,Iw,Qa,Ht,g]<;>simp[c,j,k]
def ajQ (b:Int->Option fQ)(c:Nat)(a:Cl)(e:a.k=1)(h:0<=a.v)(f:b a.v=none)(g:c<32):F8 (b a.v) c a=0/\Ld (b a.v) a=[]/\Iw (b a.v) a=[]/\Le b c a=yg b a.v (some Ui)/\Ht (b a.v) c a=c+1:=by
 have d:rW (b a.v) c a.v=0:=by unfold rW;rw[nO,X9 (by rw[f];simp),nO]
 refine⟨?_,?_,?_,?_,?_⟩<;>simp only[F8,Ld,Iw,Le,Qa,Ht]<;>simp[e,d]
def ahs (b:Int->Option fQ)(c:Nat)(a:Cl)(d:fQ)(e:2<=a.k)(f:a.k<=5)(h:b a.v=some d):F8 (b a.v) c a=F6 d a/\Ld (b a.v) a=XF d a/\Iw (b a.v) a=Ul d a/\Le b c a=yg b a.v (Um d a)/\Ht (b a.v) c a=if a.k=5 then c-1 else c:=by have g:a.k≠1:=gO;refine⟨?_,?_,?_,?_,?_⟩<;>simp only[F8,Ld,Iw,Le,Qa,Ht,h]<;>simp[e,f,g]
def Elt (e c:TypeId)(b f:Nat):Prop:=∃a d,prog.underlying e=some (.slice c)/\prog.info? c=some a/\a.zero=some d/\a.size=b/\a.bytes=f/\d.cells.size=b/\0<b
def ajR:Elt 26 3 1 8:=by have⟨e,d,a,b,c⟩:=info_parts nY;exact⟨e,_,by kernel_rfl,d,a,b,c,rfl,by decide⟩
def amV:(prog.info? 59).map (λa=>(a.zero,a.size,a.bytes))=some (some (.agg (gN ⟨au 225,false,au 101,false⟩).toArray),328,2624):=by kernel_rfl
def ajS:Elt 27 59 328 2624:=by have⟨e,d,a,b,c⟩:=info_parts amV;exact⟨e,_,by kernel_rfl,d,a,b,c,by kernel_rfl,by decide⟩
def Rf {s:Nat->Option Bool}{m:Act->W->Prop}{t:Prop}(F:o.guard=none)(q r:Operand)(h:TypeId)
 (J:o.op=Op.call { callee:=Callee.builtin Builtin.append,args:=#[q,r],argTypes:=#[h,h] })   (u:Elt h T n b)     (D:w.ownsRow k T n x j y) (i c p:Nat) (M:a.eval q=x) (P:a.eval r=.slice (S i) c p)
 (d:List V) (G:d.length=c*n) (E:aW w i T d) (l:∀q∈d,q.oneCell'=true) (H:(j+c)*b<=140737488355328/\j+c<=1000) (v:k<=w.heap.size)
 (z:∀e f,f.ownsRow k T n e (j+c) (y++d)->w.grownBy f x.ownBlock->(∀g,e.ownBlock=some g->x.ownBlock=some g\/w.heap.size<=g)->m (a.put o.dst e) f):if Region.wanted o s=true then Oper.wp prog o a w m Q else t:=by
 have O:Region.wanted o s=true:=by simp[Region.wanted,F]
 rw[Q9 O];have⟨R,x0,U,X,Y,Z,t5,t6,t7⟩:=u;have⟨e,f,K,l,B,_,C⟩:=run_append_own_at (P:=prog) w k h o.type T R x0 n b U X Y Z t5 t6 t7 x j y D (A i 0) c p d G (λd q c=>by rw[Addr.add_mid,WT,E.cell d];exact c) l (by unfold maxLen;omega) H.1 v;unfold Oper.wp;simp[execOp,J,resolve,invoke,builtin,M,P,K,Result.andThen];refine z e f l B λg c=>?_;rcases C with g|g
 .exact .inl (g ▸ c)
 rw[g]at c;cases c;exact .inr (Q6 _)
def Rh {E:Nat->Option Bool}{t:Act->W->Prop}{F:Prop}(U:o.guard=none)(C D:Operand)(q:TypeId)
 (aa:o.op=Op.call { callee:=Callee.builtin Builtin.append,args:=#[C,D],argTypes:=#[q,q] })   (G:Elt q T n b) {c e g u l:Nat} {s f:List V} (v:w.ownsRow k T n (.slice (S j) l g) l (y++(s++f))) (X:l=c+1+e) (i:y.length=c*n) (M:s.length=n) (p:f.length=e*n) {m:Addr} (O:0<e->m=⟨j,(c+1)*n,none⟩)
 (hs:a.eval C=.slice (S j) c g) (hx:a.eval D=.slice (some m) e u) (J:∀l∈f,l.oneCell'=true)
 (H:∀d,d.ownsRow k T n (.slice (S j) (c+e) g) (c+e) (y++f)->w.grownBy d (some j)->t (a.put o.dst (.slice (S j) (c+e) g)) d):if Region.wanted o E=true then Oper.wp prog o a w t Q else F:=by
 have hw:Region.wanted o E=true:=by simp[Region.wanted,U]
 rw[Q9 hw];obtain⟨d,x0,t1,t2,t3,rfl,t5,t6,t7⟩:=G;subst X;have K:=v;have⟨af,h⟩:=v;rcases h with⟨h,_⟩|⟨g',ad,r,h,P,x,Y,R,ae,ac⟩
 .cases h
 cases h;have k1:(c+1+e)*d.size=c*d.size+d.size+e*d.size:=by rw[Nat.add_mul,Nat.add_mul,Nat.one_mul]
 have k2:(c+1+e)*d.size<=g*d.size:=Nat.mul_le_mul_right _ Y;have k3:(c+1)*d.size=c*d.size+d.size:=by rw[Nat.add_mul,Nat.one_mul]
 have B:(c+e)*d.size=c*d.size+e*d.size:=Nat.add_mul ..;have Z:∀h l,f[h]?=some l->w.cell? (m.add h)=some l:=λh l l=>by
  have z:h<f.length:=by
   by_cases z:h<f.length
   .exact z
   rw[U8 gO]at l;cases l
  have m0:0<e:=by
   rcases Nat.eq_zero_or_pos e with T|T
   .subst T;rw[Nat.zero_mul]at p;omega
   exact T
  rw[O m0,Addr.add_mid,World.ownsRow.cellAt K _ gO,<-WJ,BK (by rw[ZB];omega),ZB,i,M,show(c+1)*d.size+h-(c*d.size+d.size)=h by omega];exact l
 have hr:=run_append_room (P:=prog) w q o.type T d t1 t2 j c g r x m e u f p Z J gO gO;have z:r.toList.take (c*d.size)=y:=by
  have:=congrArg (List.take (c*d.size)) ac;rw[List.take_take,Nat.min_eq_left gO,<-i,List.take_left]at this;rw[<-i];exact this
 unfold Oper.wp;simp[execOp,aa,resolve,invoke,builtin,hs,hx,hr,Result.andThen];refine H _ ⟨by rw[ZB,i,p,B],.inr ⟨j,g,_,rfl,P,setRow_heap w j r _ T _ x,gO,R,?_,?_⟩⟩ ⟨rfl,rfl,rfl,by simp,λc _ d=>setRow_other w j c _ (λT=>d (by rw[T]))⟩
 .simp only[List.size_toArray,ZB,BJ,DN,Array.length_toList];omega
 simp only[z,WJ];rw[<-WJ,B,<-i,<-p,<-ZB];exact List.take_left
def Hy {a:TypeInfo}(c:prog.info? T=some a)(b:W):Sem.run prog (sizeOf T) b=.ok a.size b:=by
 unfold sizeOf typeInfo;generalize prog=P at *
 simp[c]
def adG {e:TypeId}(h:Elt T e b j)(a:Nat){c:Nat}(l:k<=c)(d:W):Sem.run prog (Instr.slice T (.slice (S a) n c) none (some (I k)) none) d=.ok (.slice (S a) k c) d:=by
 obtain⟨m,s,f,i,o,rfl,p,q,r⟩:=h;have g:prog.elem T=e:=by unfold Program.elem;rw[f]
 rw[run_slice_h (P:=prog) d T (S a) n c (by rw[g];exact f) .i64 k gO gO,g,Hy i];simp[sliced,Addr.add_mid]
def adH {e:TypeId}(h:Elt T e b j){g:Nat}{c:Nat}(a:k<=n)(m:n<=c):∃d,(n-k > 0->d=((A g (k*b)):Addr))/\∀a,Sem.run prog (Instr.slice T (.slice (S g) n c) (some (I k)) none none) a=.ok (.slice (some d) (n-k) (c-k)) a:=by
 obtain⟨i,s,d,l,o,rfl,p,q,r⟩:=h;refine⟨if c=k then⟨g,0,none⟩else⟨g,k*i.size,none⟩,λf=>nO,λa=>?_⟩;have f:prog.elem T=e:=by unfold Program.elem;rw[d]
 rw[run_slice_l (P:=prog) a T (S g) n c (by rw[f];exact d) .i64 k gO gO,f,Hy l];simp[sliced];split<;>simp[Addr.add_mid]
def abo (a:W):Sem.run prog (Instr.build 59 #[(0,.agg (bV q9 false).toArray),(1,.agg (aP iY false).toArray)]) a=.ok (.agg (gN Ui).toArray) a:=by kernel_rfl
def XM {b d:Operand}{c e:List V}(g:o.op=.build 59 #[(0,b),(1,d)])(i:a.eval b=.agg y.toArray)(j:a.eval d=.agg c.toArray)(h:∀f,Sem.run prog (Instr.build 59 #[(0,.agg y.toArray),(1,.agg c.toArray)]) f=.ok (.agg e.toArray) f):(execOp a.eval o).run prog w=.ok (.value (.agg e.toArray)) w:=by
 have f:(#[(0,b),(1,d)]:Array (Nat×Operand)).map (λ(d,b)=>(d,a.eval b))=#[(0,.agg y.toArray),(1,.agg c.toArray)]:=by simp[i,j]
 unfold execOp;simp only[g,f,Sem.run_bind,h,Result.andThen_ok,Sem.run_pure]
def abp (a:W):Sem.run prog (Instr.buildSlice 27 1 #[(0,.agg (gN Ui).toArray)]) a=.ok (.slice (S a.heap.size) 1 1) (a.alloc (.cells (gN Ui).toArray 59)):=by kernel_rfl
def ae1 {e:Nat->Option Bool}{d:Act->W->Prop}{f:Prop}(h:o.guard=none)(b:Operand)(i:o.op=.buildSlice 27 1 #[(0,b)])(l:a.eval b=.agg y.toArray)(j:∀c,Sem.run prog (Instr.buildSlice 27 1 #[(0,.agg y.toArray)]) c=.ok (.slice (S c.heap.size) 1 1) (c.alloc (.cells y.toArray 59)))
 (g:d (a.put o.dst (.slice (S w.heap.size) 1 1)) (w.alloc (.cells y.toArray 59))):if Region.wanted o e=true then Oper.wp prog o a w d Q else f:=by
 have k:Region.wanted o e=true:=by simp[Region.wanted,h]
 rw[Q9 k];have c:(#[(0,b)]:Array (Nat×Operand)).map (λ(d,b)=>(d,a.eval b))=#[(0,.agg y.toArray)]:=by simp[l]
 unfold Oper.wp execOp;simp only[i,c,Sem.run_bind,j,Result.andThen_ok,Sem.run_pure];exact g
def abq (b:Int)(a:W):Sem.run prog (Instr.build 34 #[(1,I b)]) a=.ok (.agg (dh 0 b N N).toArray) a:=by kernel_rfl





def Vo (b:W)(e:Nat)(l:fQ)(k:Int)(j L:List Int)(m:Ending)(a:W):Prop:=
 ∃c h f d i g,m=.returned (mM k 0 (.slice c h f) (.slice d i g))/\iT b.heap.size a (.slice c h f) j/\fO b.heap.size a (.slice d i g) L/\aW a e 100 (gN l)/\b.grownBy a (some e)
def Rj {a:W}{A:Nat}(b:w.grownBy w' none)(c:w'.grownBy u (some n))(d:u.grownBy a (some A))(e:w.heap.size<=A):w.grownBy a (some n):=
 bT (bT b c (some n) (λb a=>by cases a) (λb a _=>a)) d (some n) (λb a _=>a) (λb a b=>by cases a;omega)
structure DcS (w:World) (b:Nat) (s':fQ) (L:List Int) (v:Value) (W:World):Prop where
 bk:aW W b 100 (gN s')
 an:aW W w.heap.size 34 (dh 0 0 N N)
 ow:fO (w.heap.size+1) W v L
 gr:w.grownBy W (some b)
def DcS.fin {e:fQ}{L:List Int}{a:Option Addr}{W:World}(d:DcS w n e L (.slice a b k) W)(f:n<w.heap.size)(c:Int):aW (dz W w.heap.size 0 (dh c 0 N (.slice a b k))) w.heap.size 34 (dh c 0 N (.slice a b k))/\Vo w n e c [] L (.returned (.agg (dh c 0 N (.slice a b k)).toArray)) (dz W w.heap.size 0 (dh c 0 N (.slice a b k))):=by have P:=F9 (en':=c) (v':=0) (vb':=N) (vl':=.slice a b k) d.an;exact⟨P.1,none,0,0,a,b,k,rfl,je _ _,(d.ow.bH P.2 gO).base gO,d.bk.aH P.2 gO,bT d.gr P.2 (some n) (λc a _=>a) (λc a c=>by cases a;omega)⟩
def Ol (W:World)(pc:uX 91 W)(e:Nat)(a:fQ)(m:jA a)(t:Value)(b:L)(c:Bool)(d:World)(gw:W.grownBy d none)(hb:aW d e 100 (gN a))(hI:aY d t b)(sh:rD t b)(ae:iI b)(hl:b.length*8<=140737488351232):Calls prog 39 #[.pointer (S e),t,.bool c] d (Vo d e (Vf a b c) (iw a.e b) (lK a.e b c) (lM a.e b c)):=by
 have hz:=Ci;have hy:=jJ;have ag:=aW.lt hb;have s:=Zd<|aj d (.cells (dh 0 0 N N).toArray 34) none;have u:=Zd<|vE d 0 0 N N;have w:=Zd<|hb.aC s;have y:=Zd<|pc a.e a.t m.ge t b _ (ay gw s) (aR hI s) sh ae hl c;have q:=Zd<|K5 (l:=b) c m.ge.len;have O:=Zd<|mh m;have SM:=Zd<|al1 m;have ZM:=Zd<|bK (ak 225) false;have PU:=Zd λ(Wx:World) (g:aW Wx e 100 (gN a))=>aeY m (lJ a.e b c) (mK a.e b c) q.out ▸ qM g 0 (bV (lJ a.e b c) (mK a.e b c)) (by rw[mh m,bK q.out];omega);obtain⟨av,nv,cv,rfl⟩:∃i n j,t=.slice i n j:=by
  rcases sh with g|⟨i,j,g⟩
  .exact⟨_,_,_,g⟩
  exact⟨_,_,_,g⟩
 unfold rO gu at y;unfold gu at hy;have be:=uI (iw a.e b);have bb:=abm;by_cases r:iw a.e b=0
 .have H:=Zd (λm i l j f o k (h1:iT d.heap.size m (.slice i l j) (lK a.e b c)) (h2:fO d.heap.size m (.slice f o k) (lM a.e b c)) (U:aW m e 100 (gN ⟨lJ a.e b c,mK a.e b c,a.m,a.u⟩)) (X:d.grownBy m (some e))=>
   (show Vo d e (Vf a b c) (iw a.e b) (lK a.e b c) (lM a.e b c) (.returned (.agg (dh 0 0 (.slice i l j) (.slice f o k)).toArray)) m from⟨i,l,j,f,o,k,by rw[r];rfl,h1,h2,by unfold Vf;rw[Q9 r];exact U,X⟩))
  generalize Vo d e (Vf a b c) (iw a.e b) (lK a.e b c) (lM a.e b c)=ad at *
  rw[r]at y;generalize lJ a.e b c=k at *
  generalize mK a.e b c=f at *
  generalize lK a.e b c=BB at *
  generalize lM a.e b c=HH at *
  go_enter func39,ntmps39;go_upto_region 1 with fail;generalize d.alloc (.cells (dh 0 0 N N).toArray 34)=Q at *
  go_wp2_with (first|refine lV 0 w dN (by rw[O.out];omega) SM ?_);refine y.mono ?_;rintro af l ⟨vb,vl,rfl,Z,ol,T⟩;obtain⟨B,F,D,rfl⟩:∃i n j,vb=.slice i n j:=by
   rcases Z.xJ with g|⟨i,j,g⟩
   .exact⟨_,_,_,g⟩
   exact⟨_,_,_,g⟩
  obtain⟨C,G,E,rfl⟩:∃i n j,vl=.slice i n j:=by
   rcases ol.xJ with g|⟨i,j,g⟩
   .exact⟨_,_,_,g⟩
   exact⟨_,_,_,g⟩
  have o:=Zd<|QZ l k f q;have p:=Zd<|ay T o.2.2;have x:=Zd<|w.aC p;have v:=Zd<|u.aC p;have K:=Zd<|ay s p;have OB:=Zd<|(Z.base (b':=d.heap.size+1) (show d.heap.size+1<=Q.heap.size from u.lt)).aC o.2.2;have OL:=Zd<|(ol.base (b':=d.heap.size+1) (show d.heap.size+1<=Q.heap.size from u.lt)).aC o.2.2;have n:=Zd<|bK q f;have AX:=Zd<|h_.all f q;have z:=Zd<|gG k f;go_upto_region 2 with(first|refine sV 0 (bV k f) o.1 (by rw[ZM.out,n.out];omega) (by rw[n.out];exact dN) z ?_);(try simp only[Act.put]);have N1:=Zd o.2.1;generalize dz (l.alloc (.cells (bV (au 225) false).toArray 55)) l.heap.size 0 (bV k f)=R at *
  generalize l.heap.size=bn at *
  have P:=PU R x;have B2:=Zd P.1;have A2:=Zd<|v.aH P.2 gO;have aa:=Zd<|OB.bH P.2 gO;have ac:=Zd<|OL.bH P.2 gO;have G2:=Zd<|bT K P.2 (some e) (λi g=>by cases g) (λi g _=>g);go_upto_region 5 with(first|refine lV 0 N1 dN (by rw[n.out];omega) AX ?_|refine sV 0 (bV k f) x (by rw[O.out,n.out];omega) (by rw[n.out];exact dN) z ?_);(try simp only[Act.put]);generalize dz R e 0 (bV k f)=W3 at *
  have P:=F9 (en':=0) (v':=0) (vb':=.slice B F D) (vl':=.slice C G E) A2;have Y:=qB P.1;have J:=Zd<|H _ _ _ _ _ _ _ ((aa.bH P.2 gO).base gO) ((ac.bH P.2 gO).base gO) (B2.aH P.2 gO) (bT G2 P.2 (some e) (λi g _=>g) (λi g i=>by cases g;omega));have M:=Zd<|iK 0 0 B F D C G E;go_wp2_with (first|refine sV 0 (dh 0 0 (.slice B F D) (.slice C G E)) A2 (by simp[gQ]) jR M ?_);refine QB (v:=.agg (dh 0 0 (.slice B F D) (.slice C G E)).toArray) ?_ rfl J;simp[results,results39,asAddr,Act.put,Y]
 have H:=Zd (λm (U:aW m e 100 (gN a)) (X:d.grownBy m none)=>
  (show Vo d e (Vf a b c) (iw a.e b) (lK a.e b c) (lM a.e b c) (.returned (.agg (dh (iw a.e b) 0 N N).toArray)) m from⟨none,0,0,none,0,0,rfl,by rw[(Uk c r).1];exact je _ _,by rw[(Uk c r).2];exact bN _ _,by unfold Vf;rw[X9 r];exact U,Lg X _ (λi g=>by cases g)⟩))
 generalize Vo d e (Vf a b c) (iw a.e b) (lK a.e b c) (lM a.e b c)=ad at *
 have C:(iw a.e b==0)=false:=beq_eq_false_iff_ne.2 r;generalize lJ a.e b c=k at *
 generalize mK a.e b c=f at *
 generalize lK a.e b c=BB at *
 generalize lM a.e b c=HH at *
 generalize iw a.e b=B at *
 go_enter func39,ntmps39;go_upto_region 1 with fail;generalize d.alloc (.cells (dh 0 0 N N).toArray 34)=Q at *
 go_wp2_with (first|refine lV 0 w dN (by rw[O.out];omega) SM ?_);refine y.mono ?_;rintro af l ⟨vb,vl,rfl,Z,ol,T⟩;have o:=Zd<|QZ l k f q;have p:=Zd<|ay T o.2.2;have x:=Zd<|w.aC p;have v:=Zd<|u.aC p;have K:=Zd<|ay s p;have n:=Zd<|bK q f;have z:=Zd<|gG k f;go_upto_region 2 with(first|refine sV 0 (bV k f) o.1 (by rw[ZM.out,n.out];omega) (by rw[n.out];exact dN) z ?_);(try simp only[Act.put]);generalize dz (l.alloc (.cells (bV (au 225) false).toArray 55)) l.heap.size 0 (bV k f)=R at *
 generalize l.heap.size=bn at *
 have P:=F9 (en':=B) (v':=0) (vb':=N) (vl':=N) v;have Y:=qB P.1;have J:=Zd<|H _ (x.aH P.2 gO) (aG K P.2 (Q6 _));have M:=Zd<|iK B 0 none 0 0 none 0 0;go_wp2_with (first|refine sV 0 (dh B 0 N N) v (by simp[gQ]) jR M ?_);refine QB (v:=.agg (dh B 0 N N).toArray) ?_ rfl J;simp[results,results39,asAddr,Act.put,Y]
def Om (W:World)(pd:uZ 92 W)(e:Nat)(a:fQ)(g:jA a)(m:Value)(b:List Int)(c:World)(gw:W.grownBy c none)(F:aW c e 100 (gN a))(hB:jI c m b)(G:rD m b)(aa:yP b)(hl:b.length<=140737488351232):Calls prog 40 #[.pointer (S e),m] c (Vo c e (ssD a b) (kM a.m b) [] (nP a.m b)):=by
 have hz:=Ci;have hy:=dM;have ab:=aW.lt F;have o:=Zd<|aj c (.cells (dh 0 0 N N).toArray 34) none;have w:=Zd<|vE c 0 0 N N;have y:=Zd<|F.aC o;have z:=Zd<|pd a.m a.u g.ml g.mg m b _ (ay gw o) (jy hB o) G aa hl;have p:=Zd<|Ky b g.ml;have O:=Zd λf=>dec_not g.mg (b:=b) f;have D:=Zd λ(d:List Int) (ad:Bool) (ha:d.length=101) q L i k r l n j=>Hw e a g d ad ha q L i k r l n j;have SD:=Zs (ssD a b=if kM a.m b=0 then⟨a.e,a.t,mV a.m b,r_ a.m b⟩else a) (rfl);have SL:=Zd<|mh g;have SM:=Zd<|ahm g;have ZM:=Zd<|aJ (ak 101) false;rw[SD.out];have P:=Zd λj d g r (f:DcS c e (if kM a.m b=0 then⟨a.e,a.t,mV a.m b,r_ a.m b⟩else a) (nP a.m b) (.slice d g r) j)=>f.fin ab (kM a.m b);obtain⟨av,nv,cv,rfl⟩:∃d g r,m=.slice d g r:=by
  rcases G with f|⟨d,r,f⟩
  .exact⟨_,_,_,f⟩
  exact⟨_,_,_,f⟩
 generalize hS:(if kM a.m b=0 then(⟨a.e,a.t,mV a.m b,r_ a.m b⟩:fQ)else a)=s' at *
 generalize Vo c e s' (kM a.m b) [] (nP a.m b)=af at *
 generalize mV a.m b=l at *
 generalize r_ a.m b=i at *
 generalize nP a.m b=U at *
 generalize kM a.m b=k at *
 have T:=Zd hS;unfold fu bL at z;unfold bL at hy D;go_enter func40,ntmps40;go_upto_region 1 with fail;generalize c.alloc (.cells (dh 0 0 N N).toArray 34)=W0 at *
 go_wp2_with (first|refine lV 226 y aK (by rw[SL.out];omega) SM ?_);refine z.mono ?_;rintro ae j ⟨v1,rfl,o1,g1⟩;have n:=Zd<|QY j l i p;have v:=Zd<|ay g1 n.2.2;have M:=Zd<|y.aC v;have H:=Zd<|w.aC v;have R:=Zd<|ay o v;have Y:=Zd<|(o1.base (b':=c.heap.size+1) (show c.heap.size+1<=W0.heap.size from w.lt)).aC n.2.2;have u:=Zd<|aJ p i;have K:=Zd<|bU.all i p;have ON:=Zd<|bO l i;go_upto_region 2 with(first|refine sV 0 (aP l i) n.1 (by rw[ZM.out,u.out];omega) (by rw[u.out];exact aK) ON ?_);(try simp only[Act.put]);have X:=Zd n.2.1;generalize dz (j.alloc (.cells (aP (au 101) false).toArray 53)) j.heap.size 0 (aP l i)=W2 at *
 generalize j.heap.size=bn at *
 have C:=Zd<|D l i p v1 U (c.heap.size+1) k W2 M Y O;rw[T.out]at C;go_wp2_with (first|refine lV 0 X aK (by rw[u.out];omega) K ?_);refine C.mono ?_;rintro ae W3 ⟨q,t,s,rfl,o3,b3,E⟩;have x:=H.aH E gO;have B:=P W3 q t s ⟨b3,x,o3,bT R E (some e) (λb a=>by cases a) (λb a _=>a)⟩;have Q:=Zd B.2;have ac:=qB B.1;have J:=Zd x;have Z:=Zd<|iK k 0 none 0 0 q t s;unfold mM;go_wp2_with (first|refine sV 0 (dh k 0 N (.slice q t s)) J (by simp[gQ]) jR Z ?_);refine QB (v:=.agg (dh k 0 N (.slice q t s)).toArray) ?_ rfl Q;simp[results,results40,asAddr,Act.put,ac]
def Ur (W:World)(pe:zq 94 W)(d:Nat)(a:fQ)(c:jA a)(b:World)(gw:W.grownBy b none)(C:aW b d 100 (gN a)):Calls prog 41 #[.pointer (S d)] b (Vo b d (ssR a) (qg a.m) [] (qI a.m)):=by
 have hz:=Ci;have hy:=dM;have aa:=aW.lt C;have q:=Zd<|aj b (.cells (dh 0 0 N N).toArray 34) none;have t:=Zd<|vE b 0 0 N N;have v:=Zd<|C.aC q;have w:=Zd<|pe a.m a.u c.ml c.mg _ (ay gw q);have k:=Zd<|Lc a.m c.ml;have H:=Zd λ(s:qg a.m≠0)=>show qI a.m=[]from absurd (oh (s:=a.u) c.mg).2.2.2 s;have z:=Zd λ(l:List Int) (ac:Bool) (ha:l.length=101) m L e g n i j f=>Hw d a c l ac ha m L e g n i j f;have X:=Zs (ssR a=if qg a.m=0 then⟨a.e,a.t,qV a.m,sG a.m a.u⟩else a) (by rw[Q9 (oh (s:=a.u) c.mg).2.2.2];rfl);have Y:=Zd<|mh c;have Z:=Zd<|ahm c;have ZM:=Zd<|aJ (ak 101) false;rw[X.out];have J:=Zd λf l e c (s:DcS b d (if qg a.m=0 then⟨a.e,a.t,qV a.m,sG a.m a.u⟩else a) (qI a.m) (.slice l e c) f)=>s.fin aa (qg a.m);generalize hS:(if qg a.m=0 then(⟨a.e,a.t,qV a.m,sG a.m a.u⟩:fQ)else a)=s' at *
 generalize Vo b d s' (qg a.m) [] (qI a.m)=ae at *
 generalize qV a.m=i at *
 generalize sG a.m a.u=e at *
 generalize qI a.m=P at *
 generalize qg a.m=g at *
 have O:=Zd hS;unfold fu bL at w;unfold bL at hy z;go_enter func41,ntmps41;go_upto_region 1 with fail;generalize b.alloc (.cells (dh 0 0 N N).toArray 34)=W0 at *
 go_wp2_with (first|refine lV 226 v aK (by rw[Y.out];omega) Z ?_);refine w.mono ?_;rintro ad f ⟨v1,rfl,o1,g1⟩;have j:=Zd<|QY f i e k;have r:=Zd<|ay g1 j.2.2;have G:=Zd<|v.aC r;have D:=Zd<|t.aC r;have M:=Zd<|ay q r;have R:=Zd<|(o1.base (b':=b.heap.size+1) (show b.heap.size+1<=W0.heap.size from t.lt)).aC j.2.2;have p:=Zd<|aJ k e;have F:=Zd<|bU.all e k;have U:=Zd<|bO i e;go_upto_region 2 with(first|refine sV 0 (aP i e) j.1 (by rw[ZM.out,p.out];omega) (by rw[p.out];exact aK) U ?_);(try simp only[Act.put]);have Q:=Zd j.2.1;generalize dz (f.alloc (.cells (aP (au 101) false).toArray 53)) f.heap.size 0 (aP i e)=W2 at *
 generalize f.heap.size=bn at *
 have y:=Zd<|z i e k v1 P (b.heap.size+1) g W2 G R H;rw[O.out]at y;go_wp2_with (first|refine lV 0 Q aK (by rw[p.out];omega) F ?_);refine y.mono ?_;rintro ad W3 ⟨m,o,n,rfl,o3,b3,B⟩;have u:=D.aH B gO;have x:=J W3 m o n ⟨b3,u,o3,bT M B (some d) (λb a=>by cases a) (λb a _=>a)⟩;have K:=Zd x.2;have ab:=qB x.1;have E:=Zd u;have T:=Zd<|iK g 0 none 0 0 m o n;unfold mM;go_wp2_with (first|refine sV 0 (dh g 0 N (.slice m o n)) E (by simp[gQ]) jR T ?_);refine QB (v:=.agg (dh g 0 N (.slice m o n)).toArray) ?_ rfl K;simp[results,results41,asAddr,Act.put,ab]
def ae6 {l:Nat->Option Bool}{h:Act->W->Prop}{m:Prop}(n:o.guard=none)(i k j:Operand)(r:o.op=Op.mapUpdate 41 i k j)(d e:Nat)(g:DataW Unit)(p:a.eval i=.map (some d))
 (s:w.ownsMap prog 3 A9 d e g) (q:e<maxLen) (f:Int) (y:Qp f) (x:a.eval k=.int .i64 f) (c:Nat) (u:a.eval j=.pointer (S c))
 (z:∀b,b.ownsMap prog 3 A9 d (e+1) (g.put (.int .i64 f) (.lit (.int .i64 c)))->w.grownBy b (some d)->h (a.put o.dst undef) b):if Region.wanted o l=true then Oper.wp prog o a w h Q else m:=by
 have v:Region.wanted o l=true:=by simp[Region.wanted,n]
 rw[Q9 v];obtain⟨b,t,B,C⟩:=s.update ahn underlying41 q (Maps.keyOf_int_mk underlying3 (wfI y)) (val:=.pointer (S c)) (d:=.lit (.int .i64 c)) (ps:=[]) rfl;unfold Oper.wp;simp[execOp,r,p,x,u,t,Result.andThen];exact z b B C
def ahF {j:Nat->Option Bool}{f:Act->W->Prop}{k:Prop}(l:o.guard=none)(g i:Operand)(n:o.op=Op.call { callee:=Callee.builtin Builtin.delete,args:=#[g,i],argTypes:=#[41,3] })(c h:Nat)(e:DataW Unit)(m:a.eval g=.map (some c))
 (p:w.ownsMap prog 3 A9 c h e) (d:Int) (t:Qp d) (s:a.eval i=.int .i64 d)
 (u:∀b,b.ownsMap prog 3 A9 c h (e.del (.int .i64 d))->w.grownBy b (some c)->f (a.put o.dst (.tuple #[])) b):if Region.wanted o j=true then Oper.wp prog o a w f Q else k:=by
 have r:Region.wanted o j=true:=by simp[Region.wanted,l]
 rw[Q9 r];obtain⟨b,q,v,x⟩:=p.drop ahn underlying41 (Maps.keyOf_int_mk underlying3 (wfI t)) o.type;unfold Oper.wp;simp[execOp,n,resolve,invoke,builtin,m,s,q,Result.andThen];exact u b v x.grown
def ajX (b:Nat)(a:W):Sem.run prog (binOp .eql 41 (.map (some b)) (.map none)) a=.ok (.bool false) a:=by kernel_rfl
def ae7 (a:W):Sem.run prog (Instr.build 100 #[(0,.agg (bV q9 false).toArray),(1,.agg (aP iY false).toArray)]) a=.ok (.agg (gN Ui).toArray) a:=by kernel_rfl
def abx {b d:Operand}{c e:List V}(g:o.op=.build 100 #[(0,b),(1,d)])(i:a.eval b=.agg y.toArray)(j:a.eval d=.agg c.toArray)(h:∀f,Sem.run prog (Instr.build 100 #[(0,.agg y.toArray),(1,.agg c.toArray)]) f=.ok (.agg e.toArray) f):(execOp a.eval o).run prog w=.ok (.value (.agg e.toArray)) w:=by
 have f:(#[(0,b),(1,d)]:Array (Nat×Operand)).map (λ(d,b)=>(d,a.eval b))=#[(0,.agg y.toArray),(1,.agg c.toArray)]:=by simp[i,j]
 unfold execOp;simp only[g,f,Sem.run_bind,h,Result.andThen_ok,Sem.run_pure]
def VE (g:W)(i:Nat)(b:Int->Option fQ)(c:Nat)(d:Nat->Prop)(a:Int)(j:Ending)(h:W):Prop:=
 j=.returned (I (rW (b a) c a))/\∃(e:Nat->Prop) (f:Option Nat),DkW h i (if rW (b a) c a=0 then yg b a (some Ui)else b) (if rW (b a) c a=0 then c+1 else c) e/\(∀a,e a->d a\/g.heap.size<=a)/\g.grownBy h f/\∀a,f=some a->d a
def aby {F:Int->Option fQ}{v:Int}{en:Int}(e:DkW w n F b Z)(a:rW (F v) b v=en)(c:en≠0):VE w n F b Z v (.returned (I en)) w:=by refine⟨by rw[a],Z,none,?_,λd f=>.inl f,aM _ _,λd d=>by cases d⟩;rw[X9 (by rw[a];exact c),X9 (by rw[a];exact c)];exact e
def al4 (a:W):Sem.run prog (Instr.makeMap 41 none) a=.ok (.map (some a.heap.size)) (a.alloc (.map #[] 0)):=@run_makeMap prog 41 a
def ahG (a:W):Ew ((a.alloc (.map #[] 0)).alloc (.cells #[.map (some a.heap.size)] 43)) (a.heap.size+1) (λ_=>none) 0 (λd=>d=a.heap.size\/d=a.heap.size+1) a.heap.size (.map []) (λ_=>0):=by
 refine⟨?_,(World.ownsMap_made a prog 3 A9).alloc _,rfl,λc=>rfl,λc=>rfl,λc e b=>(by cases b),λf c e f b=>(by cases b),.inr rfl,.inl rfl,λd d=>?_,λc e b=>(by cases b)⟩
 .have:=aW.new (a.alloc (.map #[] 0)) 43 [.map (some a.heap.size)];simpa using this
 simp;omega
def ae8 (a:W):Calls prog 4 #[] a λe d=>∃(b:Nat) (c:Nat->Prop),e=.returned (.pointer (S b))/\DkW d b (λ_=>none) 0 c/\(∀b,c b->a.heap.size<=b)/\a.grownBy d none:=by have d:=Zd<|ahG a;have e:=Zd<|ay (aj a (.map #[] 0) none) (aj _ (.cells #[.map (some a.heap.size)] 43) none);have f:=al4;go_enter func4,ntmps4;go_wp2_with fail;go_ret;exact⟨a.heap.size+1,_,by simp,⟨_,_,_,d⟩,λb a=>gO,e⟩
def abz (b:Nat)(e:Int->Option fQ)(d:Nat)(f:Nat->Prop)(a:W)(i:DkW a b e d f):Calls prog 9 #[.pointer (S b)] a λc b=>c=.returned (I d)/\b=a:=by have⟨m,j,k,c⟩:=i;have g:=c.dk.cell 0;have l:=c.len;simp at g;go_enter func9,ntmps9;go_wp2_with fail;go_ret;exact⟨rfl,rfl⟩
def abA (W:World)(s:Yw 37 W)(t:Y9 38 W)(k:Nat)(e:Int->Option fQ)(c:Nat)(l:Nat->Prop)(a:Int)(hv:Qp a)(d:World)(gw:W.grownBy d none)(F:DkW d k e c l):Calls prog 18 #[.pointer (some ⟨k,0,none⟩),.int .i64 a] d (VE d k e c l a):=by
 obtain⟨ab,ac⟩:=hv;by_cases B:a<0
 .have n:=Zd<|aby (v:=a) (en:=2) F (Q9 B) gO;generalize VE d k e c l a=D at *
  clear F s t;go_enter func18,ntmps18;go_wp2_with fail;exact n
 obtain⟨i,u,Y,b⟩:=F;have dc:=b.dk.cell 0;simp at dc;have hl:=b.len;have C:=b.look (v:=a) ⟨ab,ac⟩;rcases hF:e a with _|af
 .unfold ptV at C;rw[hF]at C;by_cases G:32<=c
  .have n:=Zd<|aby (F:=e) (v:=a) (en:=7) ⟨i,u,Y,b⟩ (by unfold rW;rw[X9 B,hF,X9 (by simp),Q9 G]) gO;have hn:(32:Int)<=c:=gO;generalize VE d k e c l a=D at *
   clear b s t G hF;go_enter func18,ntmps18;go_wp2_with fail;exact n
  have x:rW (e a) c a=0:=by unfold rW;rw[X9 B,hF,X9 (by simp),X9 G]
  have M:=Zd λf m j y H g z N J=>b.more (v:=a) (w1:=f) (w':=m) (B:=j) (N:=N) hF y H g z J;have MP:=Zd b.mp;have X:=Zd b.zm;have O:=Zd (λ(f m:World) (j:Nat) (y:d.grownBy f none) (H:d.heap.size<=j) (g:aW f j 100 (gN Ui)) (z:f.grownBy m (some i)) (J:m.ownsMap prog 3 A9 i (c+1) (u.put (.int .i64 a) (.lit (.int .i64 j))))=>
   show VE d k e c l a (.returned (.int .i64 0)) m from⟨by rw[x],λo=>l o\/o=j,some i,by rw[Q9 x,Q9 x];exact⟨_,_,_,M f m j y H g z (c+1) J⟩,λo g=>by rcases g with p|p;exact .inl p;exact .inr gO,bT y z (some i) (λb f=>by cases f) (λb f _=>f),λo f=>by cases f;exact X⟩)
  have o:=Zd b.dk;have DM:=Zd (show k≠i from λf=>by
   obtain⟨r,q,p,_⟩:=b.mp;have:=b.dk;unfold aW at this;rw[f,p]at this;cases this)
  have hn:¬(32:Int)<=c:=gO;have RB:=Zd ae7;have qm:=ajX i;have R:=Zd s;have T:=Zd t;have P:=Zd gw;have ad:Qp a:=⟨ab,ac⟩;unfold Yw jB gu at R;unfold Y9 jB bL at T;clear M b s t gw hF x X;generalize VE d k e c l a=D at *
  generalize gN Ui=q at *
  generalize q9=BL at *
  generalize iY=FL at *
  go_enter func18,ntmps18;go_upto_region 9 with fail;refine wp_region_held_drew (S:=λf=>aW f k 43 [.map (some i)]) (by kernel_rfl) (o.aC (aS d)) λf=>?_;refine aV 0 f ?_;refine aV 1 f ?_;refine aV 2 f ?_;refine aV (hy:=by intro m aa;have cc:=aW.cell aa 0;simp at cc;go_simp;(try with_reducible rfl)) (v:=.map (some i)) 3 f ?_;refine aV 4 f ?_;refine eU 5 λx g=>?_;(try simp only[sZ]);go_simp;refine(R _ (ay P (aS _))).mono ?_;rintro ae W1 ⟨rfl,Z⟩;have v:=Zd<|ay (aS d) Z;clear Z;go_wp2_with fail;refine g.out _ _ (o.aC v) λf=>?_;clear g;(try simp only[sZ]);refine eU 6 λx g=>?_;(try simp only[sZ]);go_simp;refine(T _ (ay P v)).mono ?_;rintro ae r ⟨rfl,g2⟩;have p:=Zd<|ay v g2;clear g2 v;go_wp2_with fail;refine g.out _ _ (o.aC p) λf=>?_;clear g;(try simp only[sZ]);refine aV (hy:=by intro m aa;exact abx rfl rfl rfl RB) (v:=.agg q.toArray) 7 f ?_;refine eU 8 λx g=>?_;(try simp only[sZ]);go_simp;go_wp2_with fail;refine g.out _ _ (o.aC (ay p (aj r (.cells q.toArray 100) none))) λf=>?_;clear g;(try simp only[sZ]);have w:=Zd<|ay p (aj r (.cells q.toArray 100) none);have U:=Zd<|aW.new r 100 q;have Q:=Zd<|K4 p;clear p;generalize r.alloc (.cells q.toArray 100)=W3 at *
  generalize r.heap.size=j at *
  refine eU 9 λx g=>?_;(try simp only[sZ]);refine ae6 rfl _ _ _ rfl i c u rfl (MP.kept w (by simp)) (by unfold maxLen;omega) a ad rfl j rfl ?_;intro W4 m4 E;have n:=Zd<|O W3 W4 j w Q U E m4;have K:=Zd<|(o.aC w).aH E DM;clear O m4 E w U Q;refine g.out _ _ K λf=>?_;clear g;(try simp only[sZ]);refine jX ?_;clear f K;go_wp2_with fail;exact n
 unfold ptV at C;rw[hF]at C;have n:=Zd<|aby (F:=e) (v:=a) (en:=10) ⟨i,u,Y,b⟩ (by unfold rW;rw[X9 B,hF,Q9 (by simp)]) gO;generalize VE d k e c l a=D at *
 clear b s t hF;go_enter func18,ntmps18;go_wp2_with fail;exact n
def qC (a:rD x l):∃b d c,x=.slice b d c:=by
 rcases a with a|⟨b,c,a⟩
 .exact⟨_,_,_,a⟩
 exact⟨_,_,_,a⟩
def jL (a:Cl)(c b:V):List V:=[I a.k,I a.v,.bool a.r,c,b]
structure DZ (w:World) (c:Cl) (vs vb:Value) (W0:World):Prop where
 cl:aW W0 w.heap.size 37 (jL c vs vb)
 an:aW W0 (w.heap.size+1) 34 (dh 0 0 N N)
 gr:w.grownBy W0 none
def DZ.new (a:W)(b:Cl)(d c:V):DZ a b d c ((a.alloc (.cells (jL b d c).toArray 37)).alloc (.cells (dh 0 0 N N).toArray 34)):=
 ⟨(aW.new a 37 (jL b d c)).aC (aj _ _ none),by have:=vE (a.alloc (.cells (jL b d c).toArray 37)) 0 0 N N;simpa using this,ay (aj a _ none) (aj _ _ none)⟩
def DZ.aC {c:Cl}(b:DZ w c x v' w')(a:w'.grownBy u none):DZ w c x v' u:=⟨b.cl.aC a,b.an.aC a,ay b.gr a⟩
def DZ.size {b:W}{c:Cl}{f e:V}{a:W}(d:DZ b c f e a):b.heap.size+1<a.heap.size:=d.an.lt
def Lh {e:Int->Option fQ}{s:DataW Unit}{g:Int->Nat}(q:Ew w n e b Z j s g){c:Cl}{d i:fQ}(f:e c.v=some d)(H:2<=c.k/\c.k<=4)(F:jA i)(E:Um d c=some i)
  {W1:W} (o:DZ w c x v' w') {a:Option Addr} {m:Nat} {a':Option Addr} {m' k':Nat} (C:iT w'.heap.size W1 (.slice a m k) (XF d c)) (D:fO w'.heap.size W1 (.slice a' m' k') (Ul d c)) (p:aW W1 (g c.v) 100 (gN i)) (t:w'.grownBy W1 (some (g c.v))) :
 aW (dz W1 (w.heap.size+1) 0 (dh (F6 d c) 0 (.slice a m k) (.slice a' m' k'))) (w.heap.size+1) 34 (dh (F6 d c) 0 (.slice a m k) (.slice a' m' k'))/\aW W1 (w.heap.size+1) 34 (dh 0 0 N N)/\xA w n e b Z c 0 (.returned (.agg (dh (F6 d c) 0 (.slice a m k) (.slice a' m' k')).toArray)) (dz W1 (w.heap.size+1) 0 (dh (F6 d c) 0 (.slice a m k) (.slice a' m' k'))):=by
 have v:=(q.bk c.v d f).2;have J:=q.zl _ v;have K:=o.size;have r:=o.an.aH t gO;have P:=F9 (en':=F6 d c) (v':=0) (vb':=.slice a m k) (vl':=.slice a' m' k') r;have u:=Rj o.gr t P.2 gO;have l:¬c.k=1:=gO;have h:2<=c.k/\c.k<=5:=gO;have y:¬c.k=5:=gO;refine⟨P.1,r,.slice a m k,.slice a' m' k',?_,?_,?_,Z,some (g c.v),⟨j,s,g,?_⟩,λd p=>.inl p,u,λd d=>by cases d;exact v⟩
 .unfold F8;rw[X9 l,Q9 h,f];rfl
 .unfold Ld;rw[Q9 h,f];exact(C.base (b':=w.heap.size+2) gO).bH P.2 gO |>.base gO
 .unfold Iw;rw[Q9 h,f];exact(D.base (b':=w.heap.size+2) gO).bH P.2 gO |>.base gO
 have G:=q.turn f F u (p.aH P.2 gO);have z:Le e b c=yg e c.v (some i):=by
  unfold Le Qa;rw[X9 l,Q9 h,f];simp only[E]
 have B:Ht (e c.v) b c=b:=by
  unfold Ht;rw[X9 l,X9 y]
 rw[z,B];exact G
def XY {a:Int->Option fQ}(m:DkW w n a b Z){c:Cl}{en:Int}(h:F8 (a c.v) b c=en)(g:Ld (a c.v) c=[])(j:Iw (a c.v) c=[])(i:Le a b c=a)(k:Ht (a c.v) b c=b)
 {A:Nat}  (f:aW w' A 34 (dh 0 0 N N)) (e:w.grownBy w' none) (l:w.heap.size<=A) :
 aW (dz w' A 0 (dh en 0 N N)) A 34 (dh en 0 N N)/\xA w n a b Z c 0 (.returned (.agg (dh en 0 N N).toArray)) (dz w' A 0 (dh en 0 N N)):=by
 have P:=F9 (en':=en) (v':=0) (vb':=N) (vl':=N) f;have d:=aG e P.2 l;refine⟨P.1,N,N,by rw[h];rfl,by rw[g];exact je _ _,by rw[j];exact bN _ _,Z,none,?_,λa e=>.inl e,d,λa a=>by cases a⟩;rw[i,k];exact m.aC d
def ahH {c:Int->Option fQ}{g:DataW Unit}{j:Int->Nat}(f:Ew w n c b Z k g j){a:Cl}{r:fQ}(d:c a.v=some r)(e:a.k=5){W1:W}(h:DZ w a x v' w')(q:W1.ownsMap prog 3 A9 k b (g.del (.int .i64 a.v)))(l:w'.grownBy W1 (some k)):aW (dz W1 (w.heap.size+1) 0 (dh 0 0 N N)) (w.heap.size+1) 34 (dh 0 0 N N)/\aW W1 (w.heap.size+1) 34 (dh 0 0 N N)/\xA w n c b Z a 0 (.returned (.agg (dh 0 0 N N).toArray)) (dz W1 (w.heap.size+1) 0 (dh 0 0 N N)):=by
 have t:=f.zl _ f.zm;have u:=h.size;have i:=h.an.aH l gO;have P:=F9 (en':=0) (v':=0) (vb':=N) (vl':=N) i;have m:=Rj h.gr l P.2 gO;refine⟨P.1,i,N,N,?_,?_,?_,Z,some k,⟨k,g.del (.int .i64 a.v),j,?_⟩,λg h=>.inl h,m,λg g=>by cases g;exact f.zm⟩
 .unfold F8 F6;rw[X9 gO,Q9 gO,d];simp only[e];rfl
 .unfold Ld XF;rw[Q9 gO,d];simp only[e];exact je _ _
 .unfold Iw Ul;rw[Q9 gO,d];simp only[e];exact bN _ _
 have s:=f.less d m (q.kept P.2 (by simp;omega));have o:Le c b a=yg c a.v none:=by
  unfold Le Qa Um;rw[X9 gO,Q9 gO,d];simp only[e];rfl
 have p:Ht (c a.v) b a=b-1:=by
  unfold Ht;rw[X9 gO,Q9 e,d]
 rw[o,p];exact s
def Us (p:Nat)(e:Int->Option fQ)(v:Nat)(r:Nat->Prop)(u:Nat)(x:DataW Unit)(z:Int->Nat)(a:Cl)(f:Option Addr)(m i:Nat)(g:Option Addr)(n j:Nat)(b:W)(t:Ew b p e v r u x z)(P:Qp a.v)(d:e a.v=none)(q:2<=a.k/\a.k<=5):Calls prog 19 #[.pointer (some ⟨p,0,none⟩),xu a (.slice f m i) (.slice g n j)] b (xA b p e v r a 0):=by
 have U:=Ci;have o:=Zd<|DZ.new b a (.slice f m i) (.slice g n j);have F:=Zd t.dk;have K:=Zd λk (s:b.grownBy k none)=>by have:=(t.aC s).look P;unfold ptV at this;rw[d]at this;exact this
 have H:=Zd λ(c:W) (B:DZ b a (.slice f m i) (.slice g n j) c)=>XY (c:=a) (en:=6) ⟨u,x,z,t⟩ (by unfold F8;rw[nO,Q9 q,d]) (by unfold Ld;rw[Q9 q,d]) (by unfold Iw;rw[Q9 q,d]) (by unfold Le Qa;rw[nO,Q9 q];have:=Ay e a.v;rw[d]at this ⊢;exact this) (by unfold Ht;rw[nO];split;rw[d];rfl) B.an B.gr gO;have T:=uI 6;generalize xA b p e v r a 0=Q at *
 unfold xu;go_enter func19,ntmps19;go_upto_region 1 with fail;change Code.wp _ _ _ _ ((b.alloc (.cells (jL a (.slice f m i) (.slice g n j)).toArray 37)).alloc (.cells (dh 0 0 N N).toArray 34));generalize (b.alloc (.cells (jL a (.slice f m i) (.slice g n j)).toArray 37)).alloc (.cells (dh 0 0 N N).toArray 34)=c at *
 have E:=Zd<|F.aC o.gr;have J:=Zd λk (s:c.grownBy k none)=>K k (ay o.gr s);refine wp_region_held_drew (S:=dB c) (by kernel_rfl) (aS _) λb=>?_;refine aV 0 b ?_;refine aV 1 b ?_;refine aV 2 b ?_;refine aV (hy:=by intro C l;have k:=aW.cell (E.aC l) 0;simp at k;go_simp;(try with_reducible rfl)) (v:=.map (some u)) 3 b ?_;refine aV 4 b ?_;refine aV (hy:=by intro C l;have k:=aW.cell ((o.aC l).cl) 1;simp[jL]at k;go_simp;(try with_reducible rfl)) (v:=I a.v) 5 b ?_;refine aV (hy:=by intro C l;have k:=J _ l;go_simp;(try simp only[k]);(try with_reducible rfl)) (v:=.pointer none) 6 b ?_;refine aV 7 b ?_;refine jX ?_;have w:=Zd<|o.aC (aS c);generalize c.drew=R at *
 have y:=H _ w;have G:=Zd y.2;have O:=qB y.1;have D:=Zd w.an;have M:=Zd<|iK 6 0 none 0 0 none 0 0;go_wp2_with (first|refine sV 0 (dh 6 0 N N) D (by simp[gQ]) jR M ?_);refine QB (v:=.agg (dh 6 0 N N).toArray) ?_ rfl G;simp[results,results19,asAddr,Act.put,O]
def XZ (W:World)(pc:uX 91 W)(H:Nat)(D:Int->Option fQ)(O:Nat)(K:Nat->Prop)(mb:Nat)(af:DataW Unit)(G:Int->Nat)(a:Cl)(e:Option Addr)(i f:Nat)(k:Option Addr)(n l:Nat)(c:World)(m:Ew c H D O K mb af G)(b:fQ)(gw:W.grownBy c none)(r:yS c a (.slice e i f) (.slice k n l))(q:D a.v=some b)(s:a.k=2):Calls prog 19 #[.pointer (some ⟨H,0,none⟩),xu a (.slice e i f) (.slice k n l)] c (xA c H D O K a 0):=by
 have hv:=r.hv;have hz:=Ci;have x:=Zd<|DZ.new c a (.slice e i f) (.slice k n l);have R:=Zd m.dk;have aa:=Zd λj (g:c.grownBy j none)=>by have:=(m.aC g).look hv;unfold ptV at this;rw[q]at this;exact this
 have ab:2<=a.k/\a.k<=4:=gO;have Y:=Zd λ(d F:World) (z:DZ c a (.slice e i f) (.slice k n l) d) o v t p w u y B J g=>Lh m q ab ((λC=>ahh C a.l a.r) (m.ok a.v b q)) (by unfold Um;simp[s]) (W1:=F) z (a:=o) (m:=v) (k:=t) (a':=p) (m':=w) (k':=u) y B J g;have C:=Zd λ(d:World) (z:DZ c a (.slice e i f) (.slice k n l) d)=>Ol W pc (G a.v) b (m.ok a.v b q) (.slice e i f) a.l a.r d (ay gw z.gr) ((m.aC z.gr).bk a.v b q).1 (aR r.il z.gr) r.sl r.ll r.nl;have T:F6 b a=iw b.e a.l:=by unfold F6;simp[s]
 have U:XF b a=lK b.e a.l a.r:=by unfold XF;simp[s]
 have X:Ul b a=lM b.e a.l a.r:=by unfold Ul;simp[s]
 unfold Vo at C;rw[<-T,<-U,<-X]at C;have HK:=Zd s;clear m r q T U X ab gw s;generalize xA c H D O K a 0=ah at *
 unfold xu;go_enter func19,ntmps19;go_upto_region 1 with fail;change Code.wp _ _ _ _ ((c.alloc (.cells (jL a (.slice e i f) (.slice k n l)).toArray 37)).alloc (.cells (dh 0 0 N N).toArray 34));generalize (c.alloc (.cells (jL a (.slice e i f) (.slice k n l)).toArray 37)).alloc (.cells (dh 0 0 N N).toArray 34)=d at *
 have Q:=Zd<|R.aC x.gr;have Z:=Zd λj (g:d.grownBy j none)=>aa j (ay x.gr g);refine wp_region_held_drew (S:=dB d) (by kernel_rfl) (aS _) λc=>?_;refine aV 0 c ?_;refine aV 1 c ?_;refine aV 2 c ?_;refine aV (hy:=by intro w' B;have y:=aW.cell (Q.aC B) 0;simp at y;go_simp;(try with_reducible rfl)) (v:=.map (some mb)) 3 c ?_;refine aV 4 c ?_;refine aV (hy:=by intro w' B;have y:=aW.cell ((x.aC B).cl) 1;simp[jL]at y;go_simp;(try with_reducible rfl)) (v:=.int .i64 a.v) 5 c ?_;refine aV (hy:=by intro w' B;have y:=Z _ B;go_simp;(try simp only[y]);(try with_reducible rfl)) (v:=.pointer (some ⟨G a.v,0,none⟩)) 6 c ?_;refine aV 7 c ?_;refine jX ?_;have j:=Zd<|x.aC (aS d);clear c x Q Z R aa;generalize d.drew=F at *
 have P:=Zd<|C F j;have M:=aW.cell j.cl 0;have ac:=aW.cell j.cl 2;have ad:=aW.cell j.cl 3;have ae:=aW.cell j.cl 4;simp[jL]at M ac ad ae;rw[HK.out]at M;clear C;generalize G a.v=bb at *
 go_wp2_with fail;refine P.mono ?_;rintro ai W2 ⟨o,v,t,p,w,u,rfl,oB,oL,J,g⟩;have E:=Y F W2 j o v t p w u oB oL J g;have FF:=Zd E.2.2;have ag:=qB E.1;have AA:=Zd E.2.1;have O1:=Zd<|iK (F6 b a) 0 o v t p w u;clear E Y j oB oL J g P M ac ad ae;generalize F6 b a=en at *
 unfold mM;go_wp2_with (first|refine sV 0 (dh en 0 (.slice o v t) (.slice p w u)) AA (by simp[gQ]) jR O1 ?_);refine QB (v:=.agg (dh en 0 (.slice o v t) (.slice p w u)).toArray) ?_ rfl FF;simp[results,results19,asAddr,Act.put,ag]
def X_ (W:World)(pd:uZ 92 W)(H:Nat)(D:Int->Option fQ)(O:Nat)(K:Nat->Prop)(mb:Nat)(af:DataW Unit)(G:Int->Nat)(a:Cl)(k:Option Addr)(n l:Nat)(e:Option Addr)(i f:Nat)(c:World)(m:Ew c H D O K mb af G)(b:fQ)(gw:W.grownBy c none)(r:yS c a (.slice k n l) (.slice e i f))(q:D a.v=some b)(s:a.k=3):Calls prog 19 #[.pointer (some ⟨H,0,none⟩),xu a (.slice k n l) (.slice e i f)] c (xA c H D O K a 0):=by
 have hv:=r.hv;have hz:=Ci;have x:=Zd<|DZ.new c a (.slice k n l) (.slice e i f);have R:=Zd m.dk;have aa:=Zd λj (g:c.grownBy j none)=>by have:=(m.aC g).look hv;unfold ptV at this;rw[q]at this;exact this
 have ab:2<=a.k/\a.k<=4:=gO;have Y:=Zd λ(d F:World) (z:DZ c a (.slice k n l) (.slice e i f) d) o v t p w u y B J g=>Lh m q ab ((λC=>ahi C a.b) (m.ok a.v b q)) (by unfold Um;simp[s]) (W1:=F) z (a:=o) (m:=v) (k:=t) (a':=p) (m':=w) (k':=u) y B J g;have C:=Zd λ(d:World) (z:DZ c a (.slice k n l) (.slice e i f) d)=>Om W pd (G a.v) b (m.ok a.v b q) (.slice e i f) a.b d (ay gw z.gr) ((m.aC z.gr).bk a.v b q).1 (jy r.ib z.gr) r.sb r.bb r.nb;have T:F6 b a=kM b.m a.b:=by unfold F6;simp[s]
 have U:XF b a=[]:=by unfold XF;simp[s]
 have X:Ul b a=nP b.m a.b:=by unfold Ul;simp[s]
 unfold Vo at C;rw[<-T,<-U,<-X]at C;have HK:=Zd s;clear m r q T U X ab gw s;generalize xA c H D O K a 0=ah at *
 unfold xu;go_enter func19,ntmps19;go_upto_region 1 with fail;change Code.wp _ _ _ _ ((c.alloc (.cells (jL a (.slice k n l) (.slice e i f)).toArray 37)).alloc (.cells (dh 0 0 N N).toArray 34));generalize (c.alloc (.cells (jL a (.slice k n l) (.slice e i f)).toArray 37)).alloc (.cells (dh 0 0 N N).toArray 34)=d at *
 have Q:=Zd<|R.aC x.gr;have Z:=Zd λj (g:d.grownBy j none)=>aa j (ay x.gr g);refine wp_region_held_drew (S:=dB d) (by kernel_rfl) (aS _) λc=>?_;refine aV 0 c ?_;refine aV 1 c ?_;refine aV 2 c ?_;refine aV (hy:=by intro w' B;have y:=aW.cell (Q.aC B) 0;simp at y;go_simp;(try with_reducible rfl)) (v:=.map (some mb)) 3 c ?_;refine aV 4 c ?_;refine aV (hy:=by intro w' B;have y:=aW.cell ((x.aC B).cl) 1;simp[jL]at y;go_simp;(try with_reducible rfl)) (v:=.int .i64 a.v) 5 c ?_;refine aV (hy:=by intro w' B;have y:=Z _ B;go_simp;(try simp only[y]);(try with_reducible rfl)) (v:=.pointer (some ⟨G a.v,0,none⟩)) 6 c ?_;refine aV 7 c ?_;refine jX ?_;have j:=Zd<|x.aC (aS d);clear c x Q Z R aa;generalize d.drew=F at *
 have P:=Zd<|C F j;have M:=aW.cell j.cl 0;have ac:=aW.cell j.cl 2;have ad:=aW.cell j.cl 3;have ae:=aW.cell j.cl 4;simp[jL]at M ac ad ae;rw[HK.out]at M;clear C;generalize G a.v=bb at *
 go_wp2_with fail;refine P.mono ?_;rintro ai W2 ⟨o,v,t,p,w,u,rfl,oB,oL,J,g⟩;have E:=Y F W2 j o v t p w u oB oL J g;have FF:=Zd E.2.2;have ag:=qB E.1;have AA:=Zd E.2.1;have O1:=Zd<|iK (F6 b a) 0 o v t p w u;clear E Y j oB oL J g P M ac ad ae;generalize F6 b a=en at *
 unfold mM;go_wp2_with (first|refine sV 0 (dh en 0 (.slice o v t) (.slice p w u)) AA (by simp[gQ]) jR O1 ?_);refine QB (v:=.agg (dh en 0 (.slice o v t) (.slice p w u)).toArray) ?_ rfl FF;simp[results,results19,asAddr,Act.put,ag]
def Ya (W:World)(pe:zq 94 W)(F:Nat)(B:Int->Option fQ)(M:Nat)(J:Nat->Prop)(mb:Nat)(ae:DataW Unit)(E:Int->Nat)(a:Cl)(g:Option Addr)(m j:Nat)(i:Option Addr)(n k:Nat)(c:World)(l:Ew c F B M J mb ae E)(b:fQ)(gw:W.grownBy c none)(hc:yS c a (.slice g m j) (.slice i n k))(q:B a.v=some b)(r:a.k=4):Calls prog 19 #[.pointer (some ⟨F,0,none⟩),xu a (.slice g m j) (.slice i n k)] c (xA c F B M J a 0):=by
 have hv:=hc.hv;have hz:=Ci;have w:=Zd<|DZ.new c a (.slice g m j) (.slice i n k);have Q:=Zd l.dk;have Z:=Zd λf (e:c.grownBy f none)=>by have:=(l.aC e).look hv;unfold ptV at this;rw[q]at this;exact this
 have aa:2<=a.k/\a.k<=4:=gO;have X:=Zd λ(d D:World) (G:DZ c a (.slice g m j) (.slice i n k) d) o u s p v t x y H e=>Lh l q aa ((λz=>ahj z) (l.ok a.v b q)) (by unfold Um;simp[r]) (W1:=D) G (a:=o) (m:=u) (k:=s) (a':=p) (m':=v) (k':=t) x y H e;have z:=Zd λ(d:World) (G:DZ c a (.slice g m j) (.slice i n k) d)=>Ur W pe (E a.v) b (l.ok a.v b q) d (ay gw G.gr) ((l.aC G.gr).bk a.v b q).1;have R:F6 b a=qg b.m:=by unfold F6;simp[r]
 have T:XF b a=[]:=by unfold XF;simp[r]
 have U:Ul b a=qI b.m:=by unfold Ul;simp[r]
 unfold Vo at z;rw[<-R,<-T,<-U]at z;have HK:=Zd r;clear l hc q R T U aa gw r;generalize xA c F B M J a 0=ag at *
 unfold xu;go_enter func19,ntmps19;go_upto_region 1 with fail;change Code.wp _ _ _ _ ((c.alloc (.cells (jL a (.slice g m j) (.slice i n k)).toArray 37)).alloc (.cells (dh 0 0 N N).toArray 34));generalize (c.alloc (.cells (jL a (.slice g m j) (.slice i n k)).toArray 37)).alloc (.cells (dh 0 0 N N).toArray 34)=d at *
 have P:=Zd<|Q.aC w.gr;have Y:=Zd λf (e:d.grownBy f none)=>Z f (ay w.gr e);refine wp_region_held_drew (S:=dB d) (by kernel_rfl) (aS _) λc=>?_;refine aV 0 c ?_;refine aV 1 c ?_;refine aV 2 c ?_;refine aV (hy:=by intro w' y;have x:=aW.cell (P.aC y) 0;simp at x;go_simp;(try with_reducible rfl)) (v:=.map (some mb)) 3 c ?_;refine aV 4 c ?_;refine aV (hy:=by intro w' y;have x:=aW.cell ((w.aC y).cl) 1;simp[jL]at x;go_simp;(try with_reducible rfl)) (v:=.int .i64 a.v) 5 c ?_;refine aV (hy:=by intro w' y;have x:=Y _ y;go_simp;(try simp only[x]);(try with_reducible rfl)) (v:=.pointer (some ⟨E a.v,0,none⟩)) 6 c ?_;refine aV 7 c ?_;refine jX ?_;have f:=Zd<|w.aC (aS d);clear c w P Y Q Z;generalize d.drew=D at *
 have O:=Zd<|z D f;have K:=aW.cell f.cl 0;have ab:=aW.cell f.cl 2;have ac:=aW.cell f.cl 3;have ad:=aW.cell f.cl 4;simp[jL]at K ab ac ad;rw[HK.out]at K;clear z;generalize E a.v=bb at *
 go_wp2_with fail;refine O.mono ?_;rintro ah W2 ⟨o,u,s,p,v,t,rfl,oB,oL,H,e⟩;have C:=X D W2 f o u s p v t oB oL H e;have FF:=Zd C.2.2;have af:=qB C.1;have AA:=Zd C.2.1;have O1:=Zd<|iK (F6 b a) 0 o u s p v t;clear C X f oB oL H e O K ab ac ad;generalize F6 b a=en at *
 unfold mM;go_wp2_with (first|refine sV 0 (dh en 0 (.slice o u s) (.slice p v t)) AA (by simp[gQ]) jR O1 ?_);refine QB (v:=.agg (dh en 0 (.slice o u s) (.slice p v t)).toArray) ?_ rfl FF;simp[results,results19,asAddr,Act.put,af]
def Yb (o:Nat)(u:Int->Option fQ)(w:Nat)(z:Nat->Prop)(g:Nat)(F:DataW Unit)(B:Int->Nat)(b:Cl)(k:Option Addr)(p m:Nat)(l:Option Addr)(q n:Nat)(c:W)(a:Ew c o u w z g F B)(ac:fQ)(Q:Qp b.v)(C:u b.v=some ac)(D:b.k=5):Calls prog 19 #[.pointer (some ⟨o,0,none⟩),xu b (.slice k p m) (.slice l q n)] c (xA c o u w z b 0):=by
 have hz:=Ci;have r:=Zd<|DZ.new c b (.slice k p m) (.slice l q n);have J:=Zd a.dk;have P:=Zd λi (t:c.grownBy i none)=>by have:=(a.aC t).look Q;unfold ptV at this;rw[C]at this;exact this
 have M:=Zd λ(f j:W) (aa:DZ c b (.slice k p m) (.slice l q n) f) d t=>ahH a C D (W1:=j) aa d t;have Y:=Zd a.mp;have K:Hid (o≠g/\c.heap.size≠g):=by
  refine⟨λd=>?_,λd=>?_⟩
  .obtain⟨v,s,e,_⟩:=a.mp;have:=a.dk;unfold aW at this;rw[d,e]at this;cases this
  have:=a.zl _ a.zm;omega
 have be:=abk;have X:=Zd D;clear a C D;generalize xA c o u w z b 0=ad at *
 unfold xu;go_enter func19,ntmps19;go_upto_region 1 with fail;change Code.wp _ _ _ _ ((c.alloc (.cells (jL b (.slice k p m) (.slice l q n)).toArray 37)).alloc (.cells (dh 0 0 N N).toArray 34));generalize (c.alloc (.cells (jL b (.slice k p m) (.slice l q n)).toArray 37)).alloc (.cells (dh 0 0 N N).toArray 34)=f at *
 have y:=Zd<|J.aC r.gr;have O:=Zd λi (t:f.grownBy i none)=>P i (ay r.gr t);refine wp_region_held_drew (S:=dB f) (by kernel_rfl) (aS _) λa=>?_;refine aV 0 a ?_;refine aV 1 a ?_;refine aV 2 a ?_;refine aV (hy:=by intro x e;have d:=aW.cell (y.aC e) 0;simp at d;go_simp;(try with_reducible rfl)) (v:=.map (some g)) 3 a ?_;refine aV 4 a ?_;refine aV (hy:=by intro x e;have d:=aW.cell ((r.aC e).cl) 1;simp[jL]at d;go_simp;(try with_reducible rfl)) (v:=.int .i64 b.v) 5 a ?_;refine aV (hy:=by intro x e;have d:=O _ e;go_simp;(try simp only[d]);(try with_reducible rfl)) (v:=.pointer (some ⟨B b.v,0,none⟩)) 6 a ?_;refine aV 7 a ?_;refine jX ?_;have s:=Zd<|r.aC (aS f);have G:=Zd<|y.aC (aS f);clear a r y O J P;generalize f.drew=j at *
 have E:=aW.cell s.cl 0;simp[jL]at E;rw[X.out]at E;generalize B b.v=bb at *
 go_upto_region 11 with fail;refine wp_region_held_drew (S:=λi=>aW i o 43 [.map (some g)]/\aW i c.heap.size 37 (jL b (.slice k p m) (.slice l q n))) (by kernel_rfl) ⟨G.aC (aS j),s.cl.aC (aS j)⟩ λa=>?_;refine aV 0 a ?_;refine aV 1 a ?_;refine aV 2 a ?_;refine aV (hy:=by intro x e;have d:=aW.cell e.1 0;simp at d;go_simp;(try with_reducible rfl)) (v:=.map (some g)) 3 a ?_;refine aV 4 a ?_;refine aV (hy:=by intro x e;have d:=aW.cell e.2 1;simp[jL]at d;go_simp;(try with_reducible rfl)) (v:=.int .i64 b.v) 5 a ?_;refine eU 6 λc c=>?_;(try simp only[sZ]);refine ahF rfl _ _ rfl g w F rfl (Y.kept (ay s.gr (aS j)) (by simp)) b.v Q rfl ?_;intro W4 R v;have i:=M _ W4 (s.aC (aS j)) R v;have U:=Zd i.2.2;have ab:=qB i.1;have T:=Zd i.2.1;have H:=Zd<|And.intro (a.1.aH v K.1) (a.2.aH v K.2);clear i M R v;refine c.out _ _ H λa=>?_;clear c;(try simp only[sZ]);refine jX ?_;clear a H E s G;have Z:=Zd<|iK 0 0 none 0 0 none 0 0;go_wp2_with (first|refine sV 0 (dh 0 0 N N) T (by simp[gQ]) jR Z ?_);refine QB (v:=.agg (dh 0 0 N N).toArray) ?_ rfl U;simp[results,results19,asAddr,Act.put,ab]
def Yc (W:World)(w:uX 91 W)(x:uZ 92 W)(y:zq 94 W)(d:Nat)(c:Int->Option fQ)(k:Nat)(e:Nat->Prop)(a:Cl)(f:Option Addr)(l h:Nat)(g:Option Addr)(m i:Nat)(b:World)(u:DkW b d c k e)(t:W.grownBy b none)(p:yS b a (.slice f l h) (.slice g m i))(v:2<=a.k/\a.k<=5):Calls prog 19 #[.pointer (S d),xu a (.slice f l h) (.slice g m i)] b (xA b d c k e a 0):=by
 have⟨r,n,o,q⟩:=u;rcases hF:c a.v with _|s
 .exact Us d c k e r n o a f l h g m i b q p.hv hF v
 obtain j|j|j|j:a.k=2\/a.k=3\/a.k=4\/a.k=5:=gO
 .exact XZ W w d c k e r n o a f l h g m i b q s t p hF j
 .exact X_ W x d c k e r n o a f l h g m i b q s t p hF j
 .exact Ya W y d c k e r n o a f l h g m i b q s t p hF j
 exact Yb d c k e r n o a f l h g m i b q s p.hv hF j
def ahI {e:Int->Option fQ}{f:Cl}{h:Ending}(k:xA w n e b Z f i h w')(c:w'.grownBy u none):xA w n e b Z f i h u:=by have⟨q,r,a,l,m,j,g,d,o,gr,p⟩:=k;exact⟨q,r,a,l.aC c,m.aC c,j,g,d.aC c,o,bT gr c g (λd a _=>a) (λd a=>by cases a),p⟩
def Ga {W1:W}{d:Nat}{F:Int->Option fQ}{c:Cl}{A:Nat}(i:w.grownBy w' none)(g:A<w'.heap.size)(C:w.heap.size<=A)(y:∀g,Z g->g<w.heap.size){v:Int}{a:Option Addr}{m:Nat}{a':Option Addr}{m' k':Nat}{en:Int}
 (u:xA w' d F n Z c v (.returned (mM en v (.slice a m k) (.slice a' m' k'))) W1) (x:aW W1 A 34 (dh 0 0 N N)) (e:Int) :
 aW (dz W1 A 0 (dh en e (.slice a m k) (.slice a' m' k'))) A 34 (dh en e (.slice a m k) (.slice a' m' k'))/\xA w d F n Z c e (.returned (.agg (dh en e (.slice a m k) (.slice a' m' k')).toArray)) (dz W1 A 0 (dh en e (.slice a m k) (.slice a' m' k'))):=by
 have⟨D,E,b,l,o,q,j,h,p,gr,z⟩:=u;unfold mM at b;simp only[Ending.returned.injEq,Value.agg.injEq,Array.mk.injEq,List.cons.injEq,Value.int.injEq,true_and,and_true]at b;have⟨r,s,t⟩:=b;subst r;rw[<-s]at l;rw[<-t]at o;have P:=F9 (en':=F8 (F c.v) n c) (v':=e) (vb':=.slice a m k) (vl':=.slice a' m' k') x;refine⟨P.1,.slice a m k,.slice a' m' k',rfl,(l.bH P.2 gO).base i.size,(o.bH P.2 gO).base i.size,q,j,h.keepR P.2 (λg b=>?_),λg e=>?_,?_,z⟩
 .cases b;intro B;rcases p A B with f|f
  .have:=y A f;omega
  omega
 .rcases p g e with f|f
  .exact .inl f
  exact .inr (YM i.size f)
 exact bT (bT i gr j (λh b=>by cases b) (λh b _=>b)) P.2 j (λh b _=>b) (λh b e=>by cases b;omega)
def adM {d:Int->Option fQ}{e:Cl}{j:Ending}(f:xA w n d b Z e i j w'){A:Nat}{cs:List V}(c:aW w A T cs)(g:¬Z A):aW w' A T cs:=by have⟨r,s,a,l,m,k,q,p,o,gr,h⟩:=f;exact(gr.block _ (aO c) (λa=>g (h A a.symm))).trans c
def Yd {j:Int->Option fQ}{k:Cl}{h:Ending}(m:xA w n j b Z k i h w'):∃j a f d c g e,h=.returned (mM j i (.slice a f d) (.slice c g e)):=by have⟨q,r,l,o,p,_⟩:=m;obtain⟨a,f,d,rfl⟩:=qC o.xJ;obtain⟨c,g,e,rfl⟩:=qC p.xJ;exact⟨_,a,f,d,c,g,e,l⟩
def AJ {b:Cl}(a:yS w b x v')(c:w.grownBy w' none):yS w' b x v':=⟨a.hk,a.hv,aR a.il c,a.sl,a.ll,a.nl,jy a.ib c,a.sb,a.bb,a.nb⟩
def ahJ {c:Int->Option fQ}{a:Cl}(f:a.k=1)(h:w.grownBy w' none){A:Nat}(k:A<w'.heap.size)(q:w.heap.size<=A)(m:∀d,Z d->d<w.heap.size){s:Ending}(i:VE w' n c b Z a.v s u)(l:aW u A 34 (dh 0 0 N N)):aW (dz u A 0 (dh (rW (c a.v) b a.v) 0 N N)) A 34 (dh (rW (c a.v) b a.v) 0 N N)/\xA w n c b Z a 0 (.returned (.agg (dh (rW (c a.v) b a.v) 0 N N).toArray)) (dz u A 0 (dh (rW (c a.v) b a.v) 0 N N)):=by
 have⟨_,g,r,e,o,gr,p⟩:=i;have j:xA w' n c b Z a 0 (.returned (mM (rW (c a.v) b a.v) 0 N N)) u:=by
  refine⟨N,N,by unfold F8;rw[Q9 f],?_,?_,g,r,?_,o,gr,p⟩
  .unfold Ld;rw[nO];exact je _ _
  .unfold Iw;rw[nO];exact bN _ _
  unfold Le Ht Qa;rw[Q9 f,Q9 f];by_cases d:rW (c a.v) b a.v=0
  .rw[Q9 d,Q9 d]at e;rw[Q9 d,Q9 d];exact e
  rw[X9 d,X9 d]at e;rw[X9 d,X9 d,Ay];exact e
 exact Ga h k q m j l 0
def ajY {d:Int->Option fQ}{h:Ending}(e:VE w n d b Z i h w'){A:Nat}{cs:List V}(c:aW w A T cs)(f:¬Z A):aW w' A T cs:=by have⟨a,j,m,l,k,gr,g⟩:=e;exact(gr.block _ (aO c) (λa=>f (g A a.symm))).trans c
def zH:(prog.info? 37).map (·.size)=some 5:=by kernel_rfl
def Iy (W:World)(pc:uX 91 W)(pd:uZ 92 W)(pe:zq 94 W)(Z:Yw 37 W)(pf:Y9 38 W)(k:Nat)(g:Int->Option fQ)(i:Nat)(j:Nat->Prop)(c:Cl)(m:Option Addr)(q o:Nat)(n:Option Addr)(r p:Nat)(e:World)(s:DkW e k g i j)(K:W.grownBy e none)(M:yS e c (.slice m q o) (.slice n r p))(x:c.k=1):Calls prog 11 #[.pointer (some ⟨k,0,none⟩),xu c (.slice m q o) (.slice n r p)] e (xA e k g i j c 0):=by
 have hz:=Ci;have l:=Zd<|DZ.new e c (.slice m q o) (.slice n r p);have F:=Zd λ(b d:World) (U:e.grownBy b none) (A:Nat) (w:A<b.heap.size) (Y:e.heap.size<=A) (f:Ending) (a:VE b k g i j c.v f d) t=>ahJ (A:=A) x U w Y s.zl a t;have C:=Zd λ(b:World) (J:e.grownBy b none)=>abA W Z pf k g i j c.v M.hv b (ay K J) (s.aC J);have H:=Zs (¬j (e.heap.size+1)) (λa=>by have:=s.zl _ a;omega);have D:=Zd λ(b d:World) (f:Ending) (a:VE b k g i j c.v f d)=>a.1;have t:=Zd λ(b d:World) (f:Ending) (a:VE b k g i j c.v f d) w=>ajY (A:=e.heap.size+1) (T:=34) (cs:=dh 0 0 N N) a w H;have R:=Zd x;have be:=uI (rW (g c.v) i c.v);clear s M x K H;generalize xA e k g i j c 0=aa at *
 unfold xu;go_enter func11,ntmps11;go_upto_region 1 with fail;change Code.wp _ _ _ _ ((e.alloc (.cells (jL c (.slice m q o) (.slice n r p)).toArray 37)).alloc (.cells (dh 0 0 N N).toArray 34));generalize (e.alloc (.cells (jL c (.slice m q o) (.slice n r p)).toArray 37)).alloc (.cells (dh 0 0 N N).toArray 34)=b at *
 have B:=Zd<|C b l.gr;have G:=Zd λ(d:World) (f:Ending) a=>F b d l.gr (e.heap.size+1) l.size gO f a (t b d f a l.an);have z:=Zd λ(d:World) (f:Ending) a=>t b d f a l.an;have E:=Zd λ(d:World) (f:Ending) a=>D b d f a;have y:=aW.cell l.cl 0;have O:=aW.cell l.cl 1;simp[jL]at y O;rw[R.out]at y;clear C F t D l;generalize VE b k g i j c.v=OT at *
 generalize rW (g c.v) i c.v=v at *
 go_wp2_with fail;refine B.mono ?_;intro f d a;obtain rfl:=E d f a;have u:=G d _ a;have Q:=Zd u.2;have X:=qB u.1;have P:=Zd<|z d _ a;have T:=Zd<|iK v 0 none 0 0 none 0 0;clear u G z E B y O a;go_wp2_with (first|refine sV 0 (dh v 0 N N) P (by simp[gQ]) jR T ?_);refine QB (v:=.agg (dh v 0 N N).toArray) ?_ rfl Q;simp[results,results11,asAddr,Act.put,X]
def Li (W:World)(pc:uX 91 W)(pd:uZ 92 W)(pe:zq 94 W)(pb:Yw 37 W)(pf:Y9 38 W)(r:Nat)(t:Int->Option fQ)(v:Nat)(u:Nat->Prop)(d:Cl)(x:Option Addr)(C z:Nat)(y:Option Addr)(D B:Nat)(n:World)(T:DkW n r t v u)(Y:W.grownBy n none)(Z:yS n d (.slice x C z) (.slice y D B))(hk:2<=d.k/\d.k<=5):Calls prog 11 #[.pointer (some ⟨r,0,none⟩),xu d (.slice x C z) (.slice y D B)] n (xA n r t v u d 0):=by
 have hz:=Ci;have m:=Zd<|DZ.new n d (.slice x C z) (.slice y D B);have M:=Zd λ(c b:World) (g0:n.grownBy c none) (A:Nat) (hA:A<c.heap.size) (hw:n.heap.size<=A) g e k i f l j a o=>Ga (c:=d) (F:=t) (n:=v) (d:=r) (v:=0) (en:=g) (a:=e) (m:=k) (k:=i) (a':=f) (m':=l) (k':=j) (W1:=b) (A:=A) g0 hA hw T.zl a o 0;have J:=Zd λ(c:World) (ab:n.grownBy c none)=>Yc W pc pd pe r t v u d x C z y D B c (T.aC ab) (ay Y ab) (AJ Z ab) hk;have X:=Zs (¬u (n.heap.size+1)) (λa=>by have:=T.zl _ a;omega);have w:=Zd λ(c b:World) (o:Ending) (a:xA c r t v u d 0 o b) hA=>adM (A:=n.heap.size+1) (T:=34) (cs:=dh 0 0 N N) a hA X;have K:=Zd λ(c b:World) (o:Ending) (a:xA c r t v u d 0 o b)=>Yd a;obtain H|H|H|H:d.k=2\/d.k=3\/d.k=4\/d.k=5:=gO
 .have Q:=Zd H;clear T Z hk Y X H;generalize xA n r t v u d 0=aa at *
  unfold xu;go_enter func11,ntmps11;go_upto_region 1 with fail;change Code.wp _ _ _ _ ((n.alloc (.cells (jL d (.slice x C z) (.slice y D B)).toArray 37)).alloc (.cells (dh 0 0 N N).toArray 34));generalize (n.alloc (.cells (jL d (.slice x C z) (.slice y D B)).toArray 37)).alloc (.cells (dh 0 0 N N).toArray 34)=c at *
  have p:=Zd<|J c m.gr;have G:=Zd λ(b:World) g e k i f l j a=>M c b m.gr (n.heap.size+1) m.size gO g e k i f l j a (w c b _ a m.an);have E:=Zd λ(b:World) (o:Ending) a=>w c b o a m.an;have F:=Zd λ(b:World) (o:Ending) a=>K c b o a;have s:=aW.cell m.cl 0;simp[jL]at s;rw[Q.out]at s;clear J M w K;generalize xA c r t v u d 0=OT at *
  unfold xu at p;go_wp2_with (first|refine lV 0 m.cl zH (by simp[jL]) rfl ?_);refine p.mono ?_;intro o b a;obtain⟨g,e,k,i,f,l,j,rfl⟩:=F b o a;have q:=G b g e k i f l j a;have P:=Zd q.2;have U:=qB q.1;have O:=Zd<|E b _ a;have R:=Zd<|iK g 0 e k i f l j;clear q G E F p s a;unfold mM;go_wp2_with (first|refine sV 0 (dh g 0 (.slice e k i) (.slice f l j)) O (by simp[gQ]) jR R ?_);refine QB (v:=.agg (dh g 0 (.slice e k i) (.slice f l j)).toArray) ?_ rfl P;simp[results,results11,asAddr,Act.put,U]
 .have Q:=Zd H;clear T Z hk Y X H;generalize xA n r t v u d 0=aa at *
  unfold xu;go_enter func11,ntmps11;go_upto_region 1 with fail;change Code.wp _ _ _ _ ((n.alloc (.cells (jL d (.slice x C z) (.slice y D B)).toArray 37)).alloc (.cells (dh 0 0 N N).toArray 34));generalize (n.alloc (.cells (jL d (.slice x C z) (.slice y D B)).toArray 37)).alloc (.cells (dh 0 0 N N).toArray 34)=c at *
  have p:=Zd<|J c m.gr;have G:=Zd λ(b:World) g e k i f l j a=>M c b m.gr (n.heap.size+1) m.size gO g e k i f l j a (w c b _ a m.an);have E:=Zd λ(b:World) (o:Ending) a=>w c b o a m.an;have F:=Zd λ(b:World) (o:Ending) a=>K c b o a;have s:=aW.cell m.cl 0;simp[jL]at s;rw[Q.out]at s;clear J M w K;generalize xA c r t v u d 0=OT at *
  unfold xu at p;go_wp2_with (first|refine lV 0 m.cl zH (by simp[jL]) rfl ?_);refine p.mono ?_;intro o b a;obtain⟨g,e,k,i,f,l,j,rfl⟩:=F b o a;have q:=G b g e k i f l j a;have P:=Zd q.2;have U:=qB q.1;have O:=Zd<|E b _ a;have R:=Zd<|iK g 0 e k i f l j;clear q G E F p s a;unfold mM;go_wp2_with (first|refine sV 0 (dh g 0 (.slice e k i) (.slice f l j)) O (by simp[gQ]) jR R ?_);refine QB (v:=.agg (dh g 0 (.slice e k i) (.slice f l j)).toArray) ?_ rfl P;simp[results,results11,asAddr,Act.put,U]
 .have Q:=Zd H;clear T Z hk Y X H;generalize xA n r t v u d 0=aa at *
  unfold xu;go_enter func11,ntmps11;go_upto_region 1 with fail;change Code.wp _ _ _ _ ((n.alloc (.cells (jL d (.slice x C z) (.slice y D B)).toArray 37)).alloc (.cells (dh 0 0 N N).toArray 34));generalize (n.alloc (.cells (jL d (.slice x C z) (.slice y D B)).toArray 37)).alloc (.cells (dh 0 0 N N).toArray 34)=c at *
  have p:=Zd<|J c m.gr;have G:=Zd λ(b:World) g e k i f l j a=>M c b m.gr (n.heap.size+1) m.size gO g e k i f l j a (w c b _ a m.an);have E:=Zd λ(b:World) (o:Ending) a=>w c b o a m.an;have F:=Zd λ(b:World) (o:Ending) a=>K c b o a;have s:=aW.cell m.cl 0;simp[jL]at s;rw[Q.out]at s;clear J M w K;generalize xA c r t v u d 0=OT at *
  unfold xu at p;go_wp2_with (first|refine lV 0 m.cl zH (by simp[jL]) rfl ?_);refine p.mono ?_;intro o b a;obtain⟨g,e,k,i,f,l,j,rfl⟩:=F b o a;have q:=G b g e k i f l j a;have P:=Zd q.2;have U:=qB q.1;have O:=Zd<|E b _ a;have R:=Zd<|iK g 0 e k i f l j;clear q G E F p s a;unfold mM;go_wp2_with (first|refine sV 0 (dh g 0 (.slice e k i) (.slice f l j)) O (by simp[gQ]) jR R ?_);refine QB (v:=.agg (dh g 0 (.slice e k i) (.slice f l j)).toArray) ?_ rfl P;simp[results,results11,asAddr,Act.put,U]
 have Q:=Zd H;clear T Z hk Y X H;generalize xA n r t v u d 0=aa at *
 unfold xu;go_enter func11,ntmps11;go_upto_region 1 with fail;change Code.wp _ _ _ _ ((n.alloc (.cells (jL d (.slice x C z) (.slice y D B)).toArray 37)).alloc (.cells (dh 0 0 N N).toArray 34));generalize (n.alloc (.cells (jL d (.slice x C z) (.slice y D B)).toArray 37)).alloc (.cells (dh 0 0 N N).toArray 34)=c at *
 have p:=Zd<|J c m.gr;have G:=Zd λ(b:World) g e k i f l j a=>M c b m.gr (n.heap.size+1) m.size gO g e k i f l j a (w c b _ a m.an);have E:=Zd λ(b:World) (o:Ending) a=>w c b o a m.an;have F:=Zd λ(b:World) (o:Ending) a=>K c b o a;have s:=aW.cell m.cl 0;simp[jL]at s;rw[Q.out]at s;clear J M w K;generalize xA c r t v u d 0=OT at *
 unfold xu at p;go_wp2_with (first|refine lV 0 m.cl zH (by simp[jL]) rfl ?_);refine p.mono ?_;intro o b a;obtain⟨g,e,k,i,f,l,j,rfl⟩:=F b o a;have q:=G b g e k i f l j a;have P:=Zd q.2;have U:=qB q.1;have O:=Zd<|E b _ a;have R:=Zd<|iK g 0 e k i f l j;clear q G E F p s a;unfold mM;go_wp2_with (first|refine sV 0 (dh g 0 (.slice e k i) (.slice f l j)) O (by simp[gQ]) jR R ?_);refine QB (v:=.agg (dh g 0 (.slice e k i) (.slice f l j)).toArray) ?_ rfl P;simp[results,results11,asAddr,Act.put,U]
def Iz (k:Nat)(j:Int->Option fQ)(o:Nat)(n:Nat->Prop)(a:Cl)(c:Option Addr)(g e:Nat)(d:Option Addr)(i f:Nat)(b:W)(v:DkW b k j o n)(G:yS b a (.slice c g e) (.slice d i f))(H:a.k<1\/5<a.k):Calls prog 11 #[.pointer (S k),xu a (.slice c g e) (.slice d i f)] b (xA b k j o n a 0):=by
 have J:=Ci;have l:=Zd<|DZ.new b a (.slice c g e) (.slice d i f);have t:=Zd λ(m:W) (q:DZ b a (.slice c g e) (.slice d i f) m)=>XY (c:=a) (en:=4) v (by unfold F8;rw[nO,nO]) (by unfold Ld;rw[nO]) (by unfold Iw;rw[nO]) (by unfold Le Qa;rw[nO,nO];exact Ay j a.v) (by unfold Ht;rw[nO,nO]) q.an q.gr gO;have F:=uI 4;have z:(a.k==1)=false:=beq_eq_false_iff_ne.2 gO;have B:(a.k==2)=false:=beq_eq_false_iff_ne.2 gO;have C:(a.k==3)=false:=beq_eq_false_iff_ne.2 gO;have D:(a.k==4)=false:=beq_eq_false_iff_ne.2 gO;have E:(a.k==5)=false:=beq_eq_false_iff_ne.2 gO;generalize xA b k j o n a 0=y at *
 unfold xu;go_enter func11,ntmps11;go_upto_region 1 with fail;change Code.wp _ _ _ _ ((b.alloc (.cells (jL a (.slice c g e) (.slice d i f)).toArray 37)).alloc (.cells (dh 0 0 N N).toArray 34));generalize (b.alloc (.cells (jL a (.slice c g e) (.slice d i f)).toArray 37)).alloc (.cells (dh 0 0 N N).toArray 34)=m at *
 have p:=t m l;have s:=Zd p.2;have w:=qB p.1;have r:=Zd l.an;have u:=Zd<|iK 4 0 none 0 0 none 0 0;have x:=aW.cell l.cl 0;simp[jL]at x;go_wp2_with (first|refine sV 0 (dh 4 0 N N) r (by simp[gQ]) jR u ?_);refine QB (v:=.agg (dh 4 0 N N).toArray) ?_ rfl s;simp[results,results11,asAddr,Act.put,w]
def Lj (W:World)(q:uX 91 W)(r:uZ 92 W)(s:zq 94 W)(p:Yw 37 W)(t:Y9 38 W)(c:Nat)(d:Int->Option fQ)(j:Nat)(e:Nat->Prop)(a:Cl)(f:Option Addr)(k h:Nat)(g:Option Addr)(l i:Nat)(b:World)(m:DkW b c d j e)(o:W.grownBy b none)(n:yS b a (.slice f k h) (.slice g l i)):Calls prog 11 #[.pointer (S c),xu a (.slice f k h) (.slice g l i)] b (xA b c d j e a 0):=by
 by_cases u:a.k=1
 .exact Iy W q r s p t c d j e a f k h g l i b m o n u
 by_cases v:2<=a.k/\a.k<=5
 .exact Li W q r s p t c d j e a f k h g l i b m o n v
 exact Iz c d j e a f k h g l i b m n gO
def ahK (G:Option Addr)(k:Cl)(s:Option Addr)(w u:Nat)(t:Option Addr)(x v:Nat)(m:W)(q:W->Ending->W->Prop)(r:Ending->W->Prop)(M:∀b,m.grownBy b none->Calls prog 11 #[.pointer G,xu k (.slice s w u) (.slice t x v)] b (q b))
 (R:∀b n a,m.grownBy b none->q b n a->∃e c i f d j g,n=.returned (mM e 0 (.slice c i f) (.slice d j g)))
 (D:∀b n a r l A,m.grownBy b none->q b n a->m.heap.size<=A->aW b A r l->aW a A r l)
 (X:∀b a l e c i f d j g,m.grownBy b none->m.heap.size+1<b.heap.size->q b (.returned (mM e 0 (.slice c i f) (.slice d j g))) a->a.grownBy l none->aW l (m.heap.size+1) 34 (dh 0 0 N N)->r (.returned (.agg (dh e k.v (.slice c i f) (.slice d j g)).toArray)) (dz l (m.heap.size+1) 0 (dh e k.v (.slice c i f) (.slice d j g)))) :
 Calls prog 6 #[.pointer G,xu k (.slice s w u) (.slice t x v)] m r:=by
 have hz:=Ci;have o:=Zd<|DZ.new m k (.slice s w u) (.slice t x v);unfold xu;go_enter func6,ntmps6;go_upto_region 1 with fail;change Code.wp _ _ _ _ ((m.alloc (.cells (jL k (.slice s w u) (.slice t x v)).toArray 37)).alloc (.cells (dh 0 0 N N).toArray 34));generalize (m.alloc (.cells (jL k (.slice s w u) (.slice t x v)).toArray 37)).alloc (.cells (dh 0 0 N N).toArray 34)=b at *
 have E:=Zd<|M b o.gr;have T:=Zd λn a p=>R b n a o.gr p;have K:=Zd λn a p=>D b n a _ _ _ o.gr p (Q6 _) o.cl;have J:=Zd λn a p=>D b n a _ _ _ o.gr p gO o.an;have Y:=Zd λa l e c i f d j g=>X b a l e c i f d j g o.gr o.size;have LS:=Zd o.size;generalize q b=QT at *
 unfold xu at E;go_wp2_with (first|refine lV 0 o.cl zH (by simp[jL]) rfl ?_);refine E.mono ?_;intro n a p;obtain⟨e,c,i,f,d,j,g,rfl⟩:=T n a p;have O:=Zd<|K _ a p;have C:=Zd<|J _ a p;have F:=Zd<|vE a 0 0 N N;have P:=F9 (en':=e) (v':=0) (vb':=.slice c i f) (vl':=.slice d j g) F;have B:=Zd P.1;have z:=Zd<|aG (aj a (.cells (dh 0 0 N N).toArray 34) none) P.2 (Q6 _);have O0:=Zd<|iK e 0 c i f d j g;have O1:=Zd<|iK e k.v c i f d j g;have Z:=Zd λl b A=>Y a l e c i f d j g p b A;have LT:=Zd C.lt;unfold mM;go_upto_region 2 with(first|refine sV 0 (dh e 0 (.slice c i f) (.slice d j g)) F (by simp[gQ]) jR O0 ?_);(try simp only[Act.put]);have Q:=Zd<|O.aC z;have H:=Zd<|C.aC z;generalize dz (a.alloc (.cells (dh 0 0 N N).toArray 34)) a.heap.size 0 (dh e 0 (.slice c i f) (.slice d j g))=l at *
 have N2:=Zs (aW (l.setCell ⟨a.heap.size,1,none⟩ (I k.v)) a.heap.size 34 (dh e k.v (.slice c i f) (.slice d j g))) (B.set 1 (I k.v));have G2:=Zd<|aG z (aD l ⟨a.heap.size,1,none⟩ (I k.v)) (Q6 _);have y:=Zd<|H.out.aH (aD l ⟨a.heap.size,1,none⟩ (I k.v)) (by have:=LT.out;show _≠a.heap.size;omega);have ab:=aW.cell Q 1;have ac:=aW.cell B 1;have ad:=aW.free B 1;simp[jL]at ab;simp[dh]at ac;generalize a.heap.size=bn at *
 go_upto_region 3 with fail;generalize l.setCell ⟨bn,1,none⟩ (I k.v)=W3 at *
 have P:=F9 (en':=e) (v':=k.v) (vb':=.slice c i f) (vl':=.slice d j g) y;have aa:=qB P.1;have U:=Zd<|Z W3 G2 y;go_wp2_with (first|refine lV 0 N2 jR (by simp[gQ]) rfl ?_|refine sV 0 (dh e k.v (.slice c i f) (.slice d j g)) y (by simp[gQ]) jR O1 ?_);refine QB (v:=.agg (dh e k.v (.slice c i f) (.slice d j g)).toArray) ?_ rfl U;simp[results,results6,asAddr,Act.put,aa]
def ahL (W:World)(r:uX 91 W)(s:uZ 92 W)(t:zq 94 W)(q:Yw 37 W)(u:Y9 38 W)(d:Nat)(e:Int->Option fQ)(k:Nat)(f:Nat->Prop)(a:Cl)(g:Option Addr)(l i:Nat)(h:Option Addr)(m j:Nat)(b:World)(n:DkW b d e k f)(o:W.grownBy b none)(p:yS b a (.slice g l i) (.slice h m j)):Calls prog 6 #[.pointer (some ⟨d,0,none⟩),xu a (.slice g l i) (.slice h m j)] b (xA b d e k f a a.v):=by refine ahK (some ⟨d,0,none⟩) a g l i h m j b (λc=>xA c d e k f a 0) _ (λc b=>Lj W r s t q u d e k f a g l i h m j c (n.aC b) (ay o b) (AJ p b)) (λc f e b d=>Yd d) (λc f e f f A b d f g=>adM d g (λg=>by have:=n.zl _ g;omega)) λc e c c c c c c c c b e d c f=>?_;exact(Ga b e gO n.zl (ahI d c) f a.v).2
end Go.Proofs.YtmpfdogdinhhcaaGreatDoor
