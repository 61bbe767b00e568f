import Derived.Test.YtmpfdogdinhhcaaGreatDoorBun8
namespace Go.Proofs.YtmpfdogdinhhcaaGreatDoor
open Go.RowKit
open Tryz
set_option linter.unusedSimpArgs false
set_option linter.unusedVariables false
set_option maxHeartbeats 4000000
set_option maxRecDepth 100000
set_option linter.defProp false
variable {w w' u:World}{n b k j:Nat}{l p r:List Int}{x v':Value}{T:TypeId}{s:Bool}{y:List Value}{z:Option Nat}{i:Int}{Q:Exit→Act→World→Prop}{a:Act}{o:Oper}{Z:Nat→Prop}{f:Nat→Int}
def acw (b c:L)(l:b.length=9)(hp:c.length=8)(f:V)(e:L)(d:W)(p:aY d f e)(u:e.length*8<=140737488351232)(q:okF b c e=false):Calls prog 30 #[.agg (aF b),.agg (aF c),f] d (aen d [] (au 8) 2):=by have a:=Zd<|oQ d 69 50 50 b c (au 8);rw[uR]at a;have t:=pU;have j:=Zd λg (o:d.grownBy g none)=>yJ b c l hp f e g (aR p o) gO;rw[q]at j;go_enter func30,ntmps30;go_wp2_with (first|refine lA a.1 (by rw[l];exact bZ) ?_|refine lA a.2.1 (by rw[hp];exact bG) ?_);refine(j _ a.2.2.2).mono ?_;rintro s v ⟨rfl,k⟩;have g:=Zd<|a.2.2.1.aC k;have n:=Zd<|ay a.2.2.2 k;go_wp2_with (first|refine sA (au 8) g rfl (by rw[ak];exact bG) ?_);have i:=bF (rs':=au 8) g rfl;have r:=kU i.1 (by rw[ak];exact bG);have m:=Zd<|aG n i.2 gO;refine QB (v:=.tuple #[N,.agg (aF (au 8)),I 2]) ?_ rfl ⟨_,rfl,bN _ _,m⟩;simp[results,results30,asAddr,Act.put,r]
def Zw (c b:List Int)(m:c.length=9)(hp:b.length=8)(n:V)(a:List Int)(e:W)(t:aY e n a)(ac:rD n a)(hl:a.length*8<=140737488351232)(i:okF c b a=true):Calls prog 30 #[.agg (aF c),.agg (aF b),n] e (aen e (oF c b a a.length) (qH b (oF c b a a.length)) 0):=by
 have j:=Zd<|oQ e 69 50 50 c b (au 8);rw[uR]at j;have B:=Zd λwr (ab:e.grownBy wr none)=>yJ c b m hp n a wr (aR t ab) gO;rw[i]at B;unfold okF at i;simp only[VL]at i;have⟨⟨⟨H,_⟩,F⟩,rl⟩:=i;have HI:=Zd t;have SV:=Zd ac;have RL:=Zd<|(bD a).1 rl;have K:=Zd<|kJ c (-1048576) 1048576 gO gO ((jZ c).1 H);have RP:=Zd F;have P:=Zd λ(d:Nat) f (L:List Int) wr (hL:L.length=d) (i:d<=a.length) (hR:aL L=true) (ae:aY wr f L) (af:rD f L)=>afK c b m hp f L d gO wr ae af gO H F hR;obtain⟨ad,ag,rfl,hc,aa⟩:=t;have Q:=Zd aa;go_enter func30,ntmps30;go_wp2_with (first|refine lA j.1 (by rw[m];exact bZ) ?_|refine lA j.2.1 (by rw[hp];exact bG) ?_);refine(B _ j.2.2.2).mono ?_;rintro s G ⟨rfl,g1⟩;have k:=Zs (iX e G 69 50 50 c b (au 8)) (iX.aC j g1);have Y:=Zs (e.heap.size+1+1+1<=G.heap.size) (k.2.2.1.lt);go_wp2_with fail;go_loopw [9,20] (λf g wr=>∃d:Nat,g=I d/\d<=a.length/\Hid (fO (e.heap.size+1+1+1) wr f (oF c b a d))/\Hid (iX e wr 69 50 50 c b (au 8))/\Hid (e.heap.size+1+1+1<=wr.heap.size)) (λ_ g _=>a.length-(intOf g).toNat)
 case atStart=>exact⟨0,rfl,QN _,bN _ _,k,Y⟩
 case round=>
  rename_i ai _;obtain⟨d,rfl,i,l,g,hN⟩:=hrel;by_cases E:d<a.length
  .obtain⟨ax,rfl,hv⟩:=Q gO;have cx:=aU g.2.2.2 (hv d E);have⟨x1,x2⟩:=RL d E;have M:=Zd g.1;have o:=Zd g.2.1;have R:=Zd<|xO b (oF c b a d) RP (nC c b a d);have x:=Zd<|P d _ (oF c b a d) wr (nZ c b a d) gO (nC c b a d) l.ints l.xJ;rw[K3 (show(oF c b a d).length<=d by rw[nZ];exact Q6 _)]at x;have⟨b1,b2⟩:=ale c (mE b (oF c b a d)) K R;have O:=Zs (oF c b a (d+1)=oF c b a d++[fA (aB a d-gs c (mE b (oF c b a d)))]) (rfl);generalize gs c (mE b (oF c b a d))=w at *
   generalize aB a d=J at *
   have SS:=Zd λf=>qA (J-w) f gO gO;generalize fA (J-w)=v at *
   have ah:(d:Int)<a.length:=gO;go_wp2_with (first|refine lA M (by rw[m];exact bZ) ?_|refine lA o (by rw[hp];exact bG) ?_);refine x.mono ?_;rintro s w3 ⟨rfl,f⟩;have q:=Zd<|l.aC f;have T:=Zd<|g.aC f;have Z:=Zd<|YM hN f.size;go_wp2_with fail;refine(SS _).mono ?_;rintro s u ⟨rfl,r⟩;have z:=Zd<|q.aC r;have U:=Zd<|T.aC r;have y:=Zd<|YM Z r.size;have p:=Zd<|nZ c b a d;go_wp2_with (at_builtin;refine dH (by rfl) _ _ rfl (e.heap.size+1+1+1) _ (.slice (S u.heap.size) 1 1) (oF c b a d) [v] rfl rfl (z.aC (aj _ _ none)) (uj u v) (.inr ⟨_,_,rfl⟩) (by rw[p.out];simp;omega) (by have:=y.out;simp;omega) ?_);intro v5 w5 D C;rw[<-O.out]at D;have O5:=Zd D;have X:=Zd<|agp (U.aC (aj u (.cells #[I v] 3) none)) C (λi j=>(z.lt i j).1);have N5:=Zd<|YM (YM y (by simp)) C.size;go_wp2;go_roundw
   case rel=>exact⟨d+1,by go_num,gO,O5,X,N5⟩
   case measure=>simp[intOf];omega
  obtain rfl:d=a.length:=gO;have o:=Zd g.2.1;have p:=Zd<|nZ c b a a.length;have z:=Zd<|MN b hp _ (oF c b a a.length) wr l.ints (by rw[p.out];omega);have C:=l;have k:=g;have u:=pX b (oF c b a a.length);generalize qH b (oF c b a a.length)=v at *
  generalize oF c b a a.length=L at *
  go_wp2_with (first|refine lA o (by rw[hp];exact bG) ?_);refine z.mono ?_;rintro s w3 ⟨rfl,f⟩;have q:=Zd<|C.aC f;have w:=Zd<|k.2.2.1.aC f;have y:=Zd<|ay k.2.2.2 f;go_wp2_with (first|refine sA v w (by rw[u,ak]) (by rw[ak];exact bG) ?_);have r:=bF (rs':=v) w (by rw[u,ak]);have J:=kU r.1 (by rw[u];exact bG);have x:=Zd<|aG y r.2 gO;have D:=Zd<|(q.bH r.2 gO).base (b':=e.heap.size) gO;refine QB (v:=.tuple #[_,.agg (aF v),I 0]) ?_ rfl ⟨_,rfl,D,x⟩;simp[results,results30,asAddr,Act.put,J]
def pF (c b:L)(g:c.length=9)(hp:b.length=8)(d:V)(a:L)(e:W)(f:aY e d a)(i:rD d a)(h:a.length*8<=140737488351232):Calls prog 30 #[.agg (aF c),.agg (aF b),d] e (aen e (zn c b a) (GH c b a) (Nu c b a)):=by
 rcases hk:okF c b a with _|_
 .rw[show zn c b a=[] by unfold zn;rw[hk];rfl,show GH c b a=au 8 by unfold GH;rw[hk];rfl,show Nu c b a=2 by unfold Nu;rw[hk];rfl];exact acw c b g hp d a e f h hk
 rw[show zn c b a=oF c b a a.length from Q9 hk,show GH c b a=qH b (oF c b a a.length)from Q9 hk,show Nu c b a=0 from Q9 hk];exact Zw c b g hp d a e f i h hk
def kR (b:L)(l:b.length=8)(d:W):Calls prog 88 #[.agg (aF b)] d (fP d (.bool (cZ b))):=by
 have q:=Zd λ(e:∀a,a<8->-32768<aB b a/\aB b a<32768)=>(iO b).2 (λa i=>e a gO);have N:=Zd λa (i:a<8) e=>aao (k:=b) a gO e;have n:=Zd<|bY.new d 50 b;have g:=Zd<|aj d (.cells (aF b) 50) none;have p:=Zd λf c=>gF b underlying50 f c l;have f:=Zs (∀c,cZ b=c->∀j,d.grownBy j none->fP d (.bool (cZ b)) (.returned (.bool c)) j) (λc c j j=>⟨by rw[c],j⟩);generalize fP d (.bool (cZ b))=s at *
 go_enter func88,ntmps88;go_wp2_with (refine lA n (by rw[l];exact bG) ?_);generalize d.alloc (.cells (aF b) 50)=t at *
 go_loop [6] (λa=>∃c:Nat,a=I c/\c<=8/\Hid (∀a,a<c->-32768<aB b a/\aB b a<32768)) (λa=>8-(intOf a).toNat)
 case atStart=>exact⟨0,rfl,QN _,λa i=>gO⟩
 case round=>
  obtain⟨c,rfl,w,k⟩:=hrel;by_cases r:c<8
  .have x:=p c gO;have o:=Zd (λ(e:-32768<aB b c/\aB b c<32768)=>(show ∀a,a<c+1->-32768<aB b a/\aB b a<32768 from λa i=>by
    rcases WZ a c with j|j
    .exact k a j
    obtain rfl:a=c:=gO;exact e))
   have j:=Zd<|N c r;generalize aB b c=m at *
   by_cases u:m<=-32768
   .have a:=Zd<|f false (j gO) _ g;go_wp2_with fail;exact a
   by_cases v:32768<=m
   .have a:=Zd<|f false (j gO) _ g;go_wp2_with fail;exact a
   have a:=Zd<|o gO;go_wp2_with fail;go_round
   case rel=>exact⟨c+1,by go_num,gO,a⟩
   case measure=>simp[intOf];omega
  obtain rfl:c=8:=gO;have a:=Zd<|f true (q k) _ g;go_wp2_with fail;exact a
def afL (a b:W)(c:TypeId)(e:Nat)(d f:L):Prop:=
 bY b a.heap.size c d/\bY b (a.heap.size+1) c (au e)/\bY b (a.heap.size+1+1) c f/\a.grownBy b none
def acy (c:W)(a:TypeId)(b:Nat)(d:L):afL c (((c.alloc (.cells (aF d) a)).alloc (.cells (aF (au b)) a)).alloc (.cells (aF (au b)) a)) a b d (au b):=by have e:=aj ((c.alloc (.cells (aF d) a)).alloc (.cells (aF (au b)) a)) (.cells (aF (au b)) a) none;refine⟨((bY.new c a d).aC (aj _ _ none)).aC e,(bY.new1 c _ a (au b)).aC e,?_,ay (ay (aj _ _ none) (aj _ _ none)) e⟩;simpa using bY.new ((c.alloc (.cells (aF d) a)).alloc (.cells (aF (au b)) a)) a (au b)
def Sb (b:afL w w' T n l p)(a:w'.grownBy u none):afL w u T n l p:=
 ⟨b.1.aC a,b.2.1.aC a,b.2.2.1.aC a,ay b.2.2.2 a⟩
def aiK (b:afL w w' T n l p)(a:Nat)(c:Int):afL w (w'.setCell (A (w.heap.size+1+1) a) (I c)) T n l (p.set a c):=
 ⟨b.1.aH (aD _ (A (w.heap.size+1+1) a) _) (by simp;omega),b.2.1.aH (aD _ (A (w.heap.size+1+1) a) _) (by simp),b.2.2.1.set a c,aG b.2.2.2 (aD _ (A (w.heap.size+1+1) a) _) (by simp;omega)⟩
def Qd (a:L)(D:a.length=9)(b:Int)(g:W):Calls prog 35 #[.agg (aF a),I b] g (qP g (wF a b) (Bu a b)):=by
 by_cases x:0<=b/\b<=32768
 .have⟨B,r⟩:=x;have X:=Zd<|bY.new g 69 a;have H:=Zd λd c=>gF a underlying69 d c D;have F:=Zd<|Sy b B r;have O:=Zd λd (z:d<9) y=>(show OH a b=false from by unfold OH;rw[af4 (k:=a) d gO y];simp);have P:=Zd λ(y:∀d,d<9->-1073741824<=aB a d/\aB a d<=1073741824)=>(show OH a b=true from by unfold OH;rw[(zX a).2 (λd z=>y d gO)];simp[B,r]);have t:=Zd<|acy g 69 9 a;rw[oV]at t;go_enter func35,ntmps35;go_wp2_with (refine lA t.1 (by rw[D];exact bZ) ?_);generalize ((g.alloc (.cells (aF a) 69)).alloc _).alloc _=Y at *
  go_loopw [7,18] (λq d wr=>∃(c:Nat) (e:L),q=I (Er b c)/\d=I c/\c<=9/\Hid (jF 9 (JM a b) c e)/\Hid (afL g wr 69 9 a e)/\Hid (∀d,d<c->-1073741824<=aB a d/\aB a d<=1073741824)) (λ_ d _=>9-(intOf d).toNat)
  case atStart=>exact⟨0,au 9,rfl,rfl,QN _,iP 9 _,t,λd z=>gO⟩
  case round=>
   obtain⟨c,e,rfl,rfl,hm,s,j,C⟩:=hrel;by_cases E:c<9
   .have ix:=H c gO;by_cases v:-1073741824<=aB a c/\aB a c<=1073741824
    .have⟨l,m⟩:=v;have⟨k,o⟩:=F c;have⟨p1,p2⟩:=zY _ _ l m k o;have⟨T,p4⟩:=zY b (Er b c) gO gO k o;rw[V7]at T p4;have f:=Zd λk=>jr (aB a c*Er b c+16384) 15 gO gO gO k;have i:=Zd λk=>jr (Er b c*b+16384) 15 gO gO gO k;rw[show((15:Nat):Int)=15 from rfl,show(2:Int)^15=32768 by decide]at f i;have p:=Zs ((aB a c*Er b c+16384) / 32768=JM a b c) (rfl);have w:=Zs ((Er b c*b+16384) / 32768=Er b (c+1)) (rfl);rw[p.out]at f;rw[w.out]at i;have K:=Zd<|eD s E;have M:=Zd (show ∀d,d<c+1->-1073741824<=aB a d/\aB a d<=1073741824 from λd z=>by
      rcases WZ d c with n|n
      .exact C d n
      obtain rfl:d=c:=gO;exact⟨l,m⟩)
     have n:e.length=9:=s.1;generalize JM a b c=U at *
     generalize aB a c=u at *
     generalize Er b c=q at *
     go_wp2_with fail;refine(f _).mono ?_;rintro Q w1 ⟨rfl,r⟩;have d:=Sb j r;have Z:=d.2.2.1.cell c gO;have fd:=d.2.2.1.free c;have G:=Zd<|aiK d c U;go_wp2_with fail;refine(i _).mono ?_;rintro Q w2 ⟨rfl,R⟩;have J:=Zd<|Sb G R;go_wp2;go_roundw
     case rel=>exact⟨c+1,_,rfl,by go_num,gO,K,J,M⟩
     case measure=>simp[intOf];omega
    have p:=O c E v;have l:=Zs (wF a b=au 9) (by simp[wF,p]);have k:=Zs (Bu a b=2) (by simp[Bu,p]);have G:=Zd v;have K:=Zs (True) (trivial);have d:=Zd j.2.1;have i:=Zd j.2.2.2;generalize aB a c=u at *
    generalize Er b c=q at *
    have J:=JN;rcases (show u < -1073741824\/1073741824<u by have:=G.out;omega)with w|w
    all_goals
     go_wp2_with (refine sA (au 9) d rfl (by rw[ak];exact bZ) ?_);have f:=bF (rs':=au 9) d rfl;have o:=kU f.1 (by rw[ak];exact bZ);have m:=Zd<|aG i f.2 gO;refine QB (v:=.tuple #[.agg (aF (au 9)),I 2]) ?_ rfl ?_
     .simp[results,results35,asAddr,Act.put,o]
     rw[l.out,k.out];exact⟨rfl,m⟩
   obtain rfl:c=9:=gO;have u:=P C;have l:=Zs (wF a b=e) (by rw[fB s.out];simp[wF,u]);have k:=Zs (Bu a b=0) (by simp[Bu,u]);have n:e.length=9:=s.1;have v:=Zd j.2.2.1;have d:=Zd j.2.1;have i:=Zd j.2.2.2;generalize Er b 9=q at *
   go_wp2_with (first|refine lA v (by rw[n];exact bZ) ?_|refine sA e d (by rw[n,ak]) (by rw[ak];exact bZ) ?_);have f:=bF (rs':=e) d (by rw[n,ak]);have o:=kU f.1 (by rw[n];exact bZ);have m:=Zd<|aG i f.2 gO;refine QB (v:=.tuple #[.agg (aF e),I 0]) ?_ rfl ?_
   .simp[results,results35,asAddr,Act.put,o]
   rw[l.out,k.out];exact⟨rfl,m⟩
 have p:OH a b=false:=by
  unfold OH;by_cases c:0<=b
  .have:¬b<=32768:=λe=>x ⟨c,e⟩;simp[this]
  simp[c]
 have l:wF a b=au 9:=by simp[wF,p]
 have k:Bu a b=2:=by simp[Bu,p]
 have d:=Zd<|bY.new1 g (.cells (aF a) 69) 69 (au 9);have i:=Zd<|ay (aj g (.cells (aF a) 69) none) (aj _ (.cells (aF (au 9)) 69) none);rw[l,k];rw[oV]at d i;have c:=Zd x;have J:=JN;rcases (show b<0\/32768<b by have:=c.out;omega)with w|w
 all_goals
  go_enter func35,ntmps35;go_wp2_with (refine sA (au 9) d rfl (by rw[ak];exact bZ) ?_);have f:=bF (rs':=au 9) d rfl;have o:=kU f.1 (by rw[ak];exact bZ);have m:=Zd<|aG i f.2 gO;refine QB (v:=.tuple #[.agg (aF (au 9)),I 2]) ?_ rfl ⟨rfl,m⟩;simp[results,results35,asAddr,Act.put,o]
def Zx (a b:W)(d e:L)(c:Nat)(f:L):Prop:=
 bY b a.heap.size 50 d/\bY b (a.heap.size+1) 50 e/\bY b (a.heap.size+1+1) 50 (au 8)/\bY b c 50 f/\a.heap.size+1+1<c/\a.grownBy b none
def Sc (a:Zx w w' l p n r)(b:w'.grownBy u none):Zx w u l p n r:=
 ⟨a.1.aC b,a.2.1.aC b,a.2.2.1.aC b,a.2.2.2.1.aC b,a.2.2.2.2.1,ay a.2.2.2.2.2 b⟩
def aiL (b:Zx w w' l p n r)(a:Nat)(c:Int):Zx w (w'.setCell (A n a) (I c)) l p n (r.set a c):=by have d:=b.2.2.2.2.1;exact⟨b.1.aH (aD _ (A n a) _) (by simp;omega),b.2.1.aH (aD _ (A n a) _) (by simp;omega),b.2.2.1.aH (aD _ (A n a) _) (by simp;omega),b.2.2.2.1.set a c,d,aG b.2.2.2.2.2 (aD _ (A n a) _) (by simp;omega)⟩
def acz (a:Zx w w' l p n r)(c:w'.grownBy u (some b))(e:n<b):Zx w u l p n r:=by have d:=a.2.2.2.2.1;exact⟨a.1.aH c gO,a.2.1.aH c gO,a.2.2.1.aH c gO,a.2.2.2.1.aH c gO,d,aG a.2.2.2.2.2 c gO⟩
def aiM (S:Int)(c:-262144<=S)(d:S<=262144):-262144<=S.tdiv 4/\S.tdiv 4<=262144:=by
 rcases Int.le_total 0 S with a|a
 .rw[YS a];omega
 have b:S.tdiv 4=-((-S).tdiv 4):=by rw[Int.neg_tdiv];omega
 rw[b,YS gO];omega
def acA (b c:L)(M:b.length=8)(O:c.length=8)(a:Int)(n0:0<=a)(n4:a<=4)(v:cZ b=true)(w:cZ c=true)(e:W):Calls prog 60 #[.agg (aF b),.agg (aF c),I a] e (qP e (pR b c a) (CP b c a)):=by
 have A1:=Zd<|bY.new e 50 b;have F:=Zd<|kR b M;have G:=Zd<|kR c O;rw[v]at F;rw[w]at G;have k:=Zd (show bY (((e.alloc (.cells (aF b) 50)).alloc (.cells (aF c) 50)).alloc (.cells (aF (au 8)) 50)) e.heap.size 50 b/\bY (((e.alloc (.cells (aF b) 50)).alloc (.cells (aF c) 50)).alloc (.cells (aF (au 8)) 50)) (e.heap.size+1) 50 c/\bY (((e.alloc (.cells (aF b) 50)).alloc (.cells (aF c) 50)).alloc (.cells (aF (au 8)) 50)) (e.heap.size+1+1) 50 (au 8)from by
  have d:=aj ((e.alloc (.cells (aF b) 50)).alloc (.cells (aF c) 50)) (.cells (aF (au 8)) 50) none;refine⟨((bY.new e 50 b).aC (aj _ _ none)).aC d,(bY.new1 e _ 50 c).aC d,?_⟩;simpa using bY.new ((e.alloc (.cells (aF b) 50)).alloc (.cells (aF c) 50)) 50 (au 8))
 have z:=Zd<|ay (ay (aj e (.cells (aF b) 50) none) (aj _ (.cells (aF c) 50) none)) (aj _ (.cells (aF (au 8)) 50) none);rw[uR]at k z;go_enter func60,ntmps60;go_wp2_with (first|refine fD (by first|rfl|(simp[Region.wanted,yielded];omega)) 50 _ rfl _ rfl _ k.1 _ underlying50 rfl (by rw[M];exact bG) ?_);refine(F _).mono ?_;rintro m r ⟨rfl,o⟩;have l:=Zs (bY r e.heap.size 50 b/\bY r (e.heap.size+1) 50 c/\bY r (e.heap.size+1+1) 50 (au 8)/\e.grownBy r none) (⟨k.1.aC o,k.2.1.aC o,k.2.2.aC o,ay z o⟩);go_wp2_with (first|refine fD (by first|rfl|(simp[Region.wanted,yielded];omega)) 50 _ rfl _ rfl _ l.2.1 _ underlying50 rfl (by rw[O];exact bG) ?_);refine(G _).mono ?_;rintro m j ⟨rfl,p⟩;have C:=Zd (show Zx e (j.alloc (.cells (aF (au 8)) 50)) b c j.heap.size (au 8)from by
  have i:=aj j (.cells (aF (au 8)) 50) none;have d:=l.2.2.1.aC p;exact⟨(l.1.aC p).aC i,(l.2.1.aC p).aC i,d.aC i,bY.new j _ _,d.lt,ay (ay l.2.2.2 p) i⟩)
 rw[uR]at C;go_wp2_with fail;generalize j.alloc _=W2 at *
 generalize j.heap.size=H at *
 have SY:=Zd<|(iO b).1 v;have SZ:=Zd<|(iO c).1 w;have E:=Zs (V_ b c a=true) (by unfold V_;simp[n0,n4,v,w]);go_loopw [28] (λg wr=>∃(d:Nat) (f:L),g=I d/\d<=8/\Hid (jF 8 (Iq b c a) d f)/\Hid (Zx e wr b c H f)) (λg _=>8-(intOf g).toNat)
 case atStart=>exact⟨0,au 8,rfl,QN _,iP 8 _,C⟩
 case round=>
  obtain⟨d,f,rfl,hm,q,g⟩:=hrel;by_cases ab:d<8
  .have ca:=g.1.cell d gO;have cb:=g.2.1.cell d gO;have⟨a1,a2⟩:=SY d gO;have⟨b1,b2⟩:=SZ d gO;have aa:H<wr.heap.size:=g.2.2.2.1.lt;have n:f.length=8:=q.1;have Y:=Zd<|eD q ab;have D:=Zs (Iq b c a d=(aB b d*(4-a)+aB c d*a).tdiv 4) (rfl);generalize Iq b c a d=ac at *
   generalize aB b d=x at *
   generalize aB c d=y at *
   have i0:(0:Int)<=d:=gO;have i1:(d:Int)<8:=gO;have e1:-131072<=x*(4-a)/\x*(4-a)<=131072:=by
    have u:a=0\/a=1\/a=2\/a=3\/a=4:=gO;rcases u with rfl|rfl|rfl|rfl|rfl<;>omega
   have e2:-131072<=y*a/\y*a<=131072:=by
    have u:a=0\/a=1\/a=2\/a=3\/a=4:=gO;rcases u with rfl|rfl|rfl|rfl|rfl<;>omega
   have⟨ad,ae⟩:=e1;have⟨af,ag⟩:=e2;obtain⟨S,K⟩:∃S,S=x*(4-a)+y*a:=⟨_,rfl⟩;have P:=Zd K;rw[<-K]at D;have s1:-262144<=S:=gO;have s2:S<=262144:=gO;have hq:=aiM S s1 s2;have⟨q1,q2⟩:=hq;go_wp2_with fail;go_quiet (fail);go_wp2_with fail;rw[<-P.out];have z1:Struct ((wr.drewN nq).alloc iW) wr.heap.size:=dW (wr.drewN nq);refine(eP S _ gO gO).mono ?_;rintro m w3 ⟨b3,rfl,ah,i3,J⟩;have i:wr.grownBy ((wr.drewN nq).alloc iW) none:=ay (dY wr nq none) (aj (wr.drewN nq) iW none);have Z3:=Zd<|bQ z1 J (by simp);have Q:=Zd i3;have U:=Zd<|Sc g (ay i J);go_wp2_with fail;refine(kN 4 _ gO gO).mono ?_;rintro m w4 ⟨b4,rfl,ai,i4,t⟩;have Z4:=Zd<|bQ Z3 t (by simp);have R:=Zd<|bP Q t;have T:=Zd i4;have X:=Zd<|Sc U t;have QU:=Zd<|adY wr.heap.size b3 b4 S 4 w4 Z4 R T gO gO gO;go_wp2_with fail;refine QU.mono ?_;rintro m w5 ⟨rfl,i5,g5⟩;have B:=Zd<|oC wr.heap.size _ w5 i5 gO gO;have s:=Zd<|acz X g5 aa;have cd:=s.2.2.2.1.cell d gO;have fd:=s.2.2.2.1.free d;have Z:=Zd<|aiL s d ac;rw[<-D.out]at B;generalize aB f d=y' at *
   go_wp2_with fail;refine B.mono ?_;rintro m w6 ⟨rfl,rfl⟩;go_wp2;go_roundw
   case rel=>exact⟨d+1,_,by go_num,gO,Y,Z⟩
   case measure=>simp[intOf];omega
  obtain rfl:d=8:=gO;have n:f.length=8:=q.1;have y:=Zs (pR b c a=f) (by rw[fB q.out];simp[pR,E.out]);have x:=Zs (CP b c a=0) (by simp[CP,E.out]);have u:=Zd g.2.2.2.1;have s:=Zd g.2.2.1;have D:=Zd g.2.2.2.2.2;go_wp2_with (first|refine lA u (by rw[n];exact bG) ?_|refine sA f s (by rw[n,ak]) (by rw[ak];exact bG) ?_);have t:=bF (rs':=f) s (by rw[n,ak]);have J:=kU t.1 (by rw[n];exact bG);have B:=Zd<|aG D t.2 gO;refine QB (v:=.tuple #[.agg (aF f),I 0]) ?_ rfl ?_
  .simp[results,results60,asAddr,Act.put,J]
  rw[y.out,x.out];exact⟨rfl,B⟩
def afM (f:V)(b:L)(a:Nat)(j:a<b.length)(q:b.length<=1000000000000000000)(c:W)(i:aY c f b):Calls prog 107 #[f,I a] c (lQ c (I (aB b a))):=by
 obtain⟨m,n,rfl,o,d⟩:=i;obtain⟨l,rfl,e⟩:=d gO;have p:=e a j;have g:=Zs (lQ c (I (aB b a)) (.returned (I (aB b a))) c) (⟨rfl,rfl⟩);generalize lQ c (I (aB b a))=k at *
 generalize aB b a=s at *
 clear d e;have r:(a:Int)<b.length:=gO;go_enter func107,ntmps107;go_wp2_with fail;exact g
def Zy (b:L)(e:Int)(d:Nat)(c:L):Prop:=c.length=b.length+1/\∀a,aB c a=if a<d then gr (aB b) b.length e a else aB b a
def acF (b:Zy l i n p)(f:1<=n)(g:n<=l.length):Zy l i (n+1) (p.set n (aB l n+i*aB l (l.length-n) / 32768)):=by
 refine⟨by simpa using b.1,λa=>?_⟩;by_cases d:a=n
 .subst d;have c:=b.1;rw[pO];unfold gr;rw[Q9 ⟨f,g⟩];simp[aB,List.getD,show a<p.length by omega]
 have e:aB (p.set n (aB l n+i*aB l (l.length-n) / 32768)) a=aB p a:=by simp[aB,List.getD,WB,Ne.symm d]
 rw[e,b.2 a];by_cases c:a<n
 .rw[Q9 c,pO]
 rw[X9 c,nO]
def Zz (b:L)(c:Int):Zy b c 1 (b++[0]):=⟨by simp,λb=>by
 rw[aem];by_cases a:b<1
 .rw[Q9 a];unfold gr;rw[nO]
 rw[X9 a]⟩
def afN (a:Zy l i (l.length+1) p):p=f_ (l.length+1) (gr (aB l) l.length i):=dL a.1 (λc b=>by rw[a.2 c,Q9 b])
def Em (b:V)(a:L)(o:1<=a.length)(an:a.length<=8)(e:Int)(q1:-32768<=e)(q2:e<=32768)(Q:Wi (aB a) 4294967296)(f:W)(q:aY f b a)(R:rD b a):Calls prog 56 #[b,I e] f λy k=>∃o,y=.returned o/\fO f.heap.size k o (f_ (a.length+1) (gr (aB a) a.length e))/\f.grownBy k none:=by
 have u:=Zd q;have H:=Zd R;have v:=Zd Q;have Z:=λg:W=>Ad g;clear q R Q;go_enter func56,ntmps56;go_wp2_with (first
  | (refine dH (by rfl) _ _ rfl f.heap.size N b [] a rfl rfl (bN _ _) u H (by simp;omega) (Q6 _) ?_
     intro j c i d;have w:=Zs (fO f.heap.size c j a) (i);have t:=Zs (f.grownBy c none) (d);clear i d)
  | (refine dH (by rfl) _ _ rfl f.heap.size j (.slice (S c.heap.size) 1 1) a [0] rfl rfl (w.aC (aj _ _ none)) (uj c 0) (.inr ⟨_,_,rfl⟩) (by simp;omega) (by have:=t.size;simp;omega) ?_
     intro n l i d;have p:=Zd i;have m:=Zs (f.grownBy l none) (gV (ay t (aj _ _ none)) d (λc j=>(w.lt c j).1));clear i d))
 clear w t Z;have⟨O,M,af,ab,al,aa⟩:=p.form (by simp);subst af;rw[show(a++[(0:Int)]).length=a.length+1 by simp]at p aa ⊢;go_loopw [6] (λd wr=>∃(c:Nat) (s:L),d=I c/\1<=c/\c<=a.length+1/\Hid (Zy a e c s)/\Hid (fO f.heap.size wr (.slice (S O) (a.length+1) M) s)/\Hid (f.grownBy wr none)) (λd _=>a.length+1-(intOf d).toNat)
 case atStart=>exact⟨1,a++[0],rfl,gO,gO,Zz a e,p,m⟩
 case round=>
  obtain⟨c,s,rfl,ad,am,l,n,r⟩:=hrel;clear p m;have z:s.length=a.length+1:=l.1;by_cases ae:c<=a.length
  .have x:=n.cell z.symm c gO;rw[l.out.2 c,X9 gO]at x;have K:=Zd n;have m:=Zd r;have Y:=Zd<|acF l ad ae;have⟨z1,z2⟩:=v c;have⟨x1,x2⟩:=v (a.length-c);have⟨p1,p2⟩:=CQ e _ _ q1 q2 x1 x2;have U:=Zd<|afM b a (a.length-c) gO gO;have C:=Zd λg=>jr (e*aB a (a.length-c)) 15 gO gO gO g;rw[show((15:Nat):Int)=15 from rfl,show(2:Int)^15=32768 by decide]at C;have F:=Zd<|eG (e*aB a (a.length-c)) gO gO;have G:=Zd<|eG (aB a c+e*aB a (a.length-c) / 32768) gO gO;have ac:wr.heap.size<=wr.heap.size:=Q6 _;clear l n r ac;generalize hx:aB a (a.length-c)=B at *
   generalize hz:aB a c=T at *
   clear hx hz;generalize hn:a.length=i at *
   have D:=Zd<|eG (i:Int) gO gO;have E:=Zs (IntKind.i64.wrap ((i:Int)-(c:Int))=((i-c:Nat):Int)) (by rw[eG _ gO gO];omega);generalize i-c=ag at *
   have k0:(0:Int)<=c:=gO;have km:(c:Int)<((i+1:Nat):Int):=gO;have d:=aS wr;go_wp2_with fail;refine bW 16 (dB wr) 17 (by rfl) _ rfl (by kernel_rfl) λb=>?_;refine aZ 0 d b λb=>?_;refine aZ 1 d b λb=>?_;refine aZ 2 d b λb=>?_;refine iN (hy:=by intro k g;have s1:=aU g x;go_simp;try with_reducible rfl) 3 d b λb=>?_;refine aZ 4 d b λb=>?_;refine aZ 5 d b λb=>?_;refine aZ 6 d b λb=>?_;refine aZ 7 d b λb=>?_;refine iN (hy:=by intro k g;(try dsimp only at g);go_simp;(first|exact D|rw[D.out]|trace_state)) (v:=I (i:Int)) 8 d b λb=>?_;refine aZ 9 d b λb=>?_;refine iN (hy:=by intro k g;(try dsimp only at g);go_simp;(first|exact E|rw[E.out]|trace_state)) (v:=I (ag:Int)) 10 d b λb=>?_;refine jY 11 b λp i=>?_;(try simp only[sZ]);go_simp;refine(U _ (aR u (ay m d))).mono ?_;rintro y w3 ⟨rfl,rfl⟩;go_wp2_with fail;refine i.out _ _ (λ_=>d) λb=>?_;clear i;(try simp only[sZ]);refine iN (hy:=by intro k g;(try dsimp only at g);go_simp;(first|exact F|rw[F.out]|(simp;omega))) (v:=I (e*B)) 12 d b λb=>?_;refine jY 13 b λp i=>?_;(try simp only[sZ]);go_simp;refine(C _).mono ?_;rintro y w4 ⟨rfl,P⟩;have j:=Zd<|aX d P;clear P;go_wp2_with fail;refine i.out _ _ (λ_=>j) λb=>?_;clear i;(try simp only[sZ]);refine iN (hy:=by intro k g;(try dsimp only at g);go_simp;(first|exact G|rw[G.out]|(simp;omega))) (v:=I (T+e*B / 32768)) 14 j b λb=>?_;refine aZ 15 j b λb=>?_;have ah:=aU j x;have ai:=(K.aC j).free z.symm c;refine jY 16 b λp i=>?_;(try simp only[sZ]);go_simp;go_wp2_with fail;refine i.out _ _ (λq=>by cases q) λb=>?_;clear i;(try simp only[sZ]);refine bI _ _ _ _ (by rfl) ?_;refine wm ?_;go_wp2_with fail;have J:=(K.aC j).set z.symm c (T+e*B / 32768);have X:=aG (ay m j) J.2 ab;go_roundw
   case rel=>exact⟨c+1,_,by go_num,gO,gO,Y,J.1,X⟩
   case measure=>simp[intOf];omega
  obtain rfl:c=a.length+1:=gO;have d:=Zd<|afN l;have km:¬((a.length+1:Nat):Int)<((a.length+1:Nat):Int):=gO;have g:=Zs (∃o,Ending.returned (.slice (S O) (a.length+1) M)=.returned o/\fO f.heap.size wr o (f_ (a.length+1) (gr (aB a) a.length e))/\f.grownBy wr none) (⟨_,rfl,by rw[<-d.out];exact n,r⟩);clear l n r v d u H;go_wp2_with fail;go_ret;exact g
def adZ (c:Nat->Int)(a:Nat)(hp:∀b,a<=b->c b=0)(e:Int):f_ (a+1) (gr (aB (f_ a c)) a e)=f_ (a+1) (gr c a e):=by
 apply dL (cK _ _);intro b f;rw[dP _ _ _ f];have d:∀b,aB (f_ a c) b=c b:=λb=>by
  by_cases g:b<a
  .exact dP _ _ _ g
  rw[dI _ b (by rw[cK];omega),hp b gO]
 unfold gr;rw[d,d]
def ad4 (c:Wi f i)(a:0<=i)(b:Nat):Wi (aB (f_ b f)) i:=λa=>by
 by_cases d:a<b
 .rw[dP _ _ _ d];exact c a
 rw[dI _ a (by rw[cK];omega)];omega
def akT (c:Nat->Int):[16777216]=f_ 1 (zZ c 0):=by
 apply dL rfl;intro b a
 match b,a with
 | 0,_=>rfl
def Sd {d e:TypeId}(b:iX w w' T d e l p r)(a:Nat)(c:Int):iX w (w'.setCell (A (w.heap.size+1+1) a) (I c)) T d e l p (r.set a c):=
 ⟨b.1.aH (aD _ (A (w.heap.size+1+1) a) _) (by simp;omega),b.2.1.aH (aD _ (A (w.heap.size+1+1) a) _) (by simp),b.2.2.1.set a c,aG b.2.2.2 (aD _ (A (w.heap.size+1+1) a) _) (by simp;omega)⟩
def Qe (b:L)(c:b.length=8)(n:cZ b=true)(d:W):Calls prog 34 #[.agg (aF b)] d (qP d (pG b) (zh b)):=by
 have o:=Zd<|oQ d 50 69 69 b (au 9) (au 9);rw[oV]at o;have y:=Zd<|kR b c;rw[n]at y;have p:=Zd<|Fb c n;have G:=Zs (pG b=f_ 9 (Fa (aB b))) (by simp[pG,n]);have F:=Zs (zh b=0) (by simp[zh,n]);have M:=Zd λe a=>gF b underlying50 e a c;go_enter func34,ntmps34;go_wp2_with (refine lA o.1 (by rw[c];exact bG) ?_);refine(y _).mono ?_;rintro z k ⟨rfl,U⟩;have u:=Zs (iX d k 50 69 69 b (au 9) (au 9)) (iX.aC o U);have Z:d.heap.size+1+1+1<=k.heap.size:=u.2.2.1.lt;have v:=Zd<|u.aC (aj k (.cells #[I 16777216] 3) none);have w:=Zd<|Ad k (d.heap.size+1+1+1) Z 16777216;rw[akT (aB b)]at w;go_wp2_with (refine lA v.1 (by rw[c];exact bG) ?_);generalize k.alloc _=W0 at *
 go_loopw [5,16] (λe c wr=>∃a:Nat,c=I a/\a<=8/\Hid (fO (d.heap.size+1+1+1) wr e (f_ (a+1) (zZ (aB b) a)))/\Hid (iX d wr 50 69 69 b (au 9) (au 9))) (λ_ c _=>8-(intOf c).toNat)
 case atStart=>exact⟨0,rfl,QN _,w,v⟩
 case round=>
  obtain⟨a,rfl,hm,i,r⟩:=hrel;by_cases Y:a<8
  .have x:=M a gO;have⟨j,t⟩:=p a Y;have f:=cK (a+1) (zZ (aB b) a);have e:=Zd<|Em _ _ gO gO (aB b a) j t (ad4 ((zf (aB b) p a gO).le (by decide)) (by decide) (a+1)) wr i.ints i.xJ;rw[f,adZ _ _ (λc j=>acV _ _ _ j)]at e;rw[show f_ (a+1+1) (gr (zZ (aB b) a) (a+1) (aB b a))=f_ (a+1+1) (zZ (aB b) (a+1))from rfl]at e;have q:d.heap.size+1+1+1<=wr.heap.size:=r.2.2.1.lt;generalize aB b a=B at *
   go_wp2_with fail;refine e.mono ?_;rintro z D ⟨C,rfl,s,m⟩;have l:=Zd<|fO.base s q;have g:=Zd<|r.aC m;go_wp2;go_roundw
   case rel=>exact⟨a+1,by go_num,gO,l,g⟩
   case measure=>simp[intOf];omega
  obtain rfl:a=8:=gO;rw[show((8:Nat):Int)=8 from rfl];have f:=cK 9 (zZ (aB b) 8);have O:=Zd λc j=>dP 9 (zZ (aB b) 8) c j;have P:=Zd<|zf (aB b) p 8 gO;have E:=Zs (∀c,Fa (aB b) c=(zZ (aB b) 8 c+2048) / 4096) (λc=>rfl);generalize Fa (aB b)=q at *
  generalize zZ (aB b) 8=s at *
  have⟨T,R,hv,_,_,X⟩:=i.form (by rw[f];omega);subst hv;rw[f]at i X;rw[f];generalize hA:f_ 9 s=A at *
  go_wp2_with fail;go_loopw [25] (λc wr=>∃(a:Nat) (e:L),c=I a/\a<=9/\Hid (jF 9 q a e)/\Hid (fO (d.heap.size+1+1+1) wr (.slice (some ⟨T,0,none⟩) 9 R) A)/\Hid (iX d wr 50 69 69 b (au 9) e)) (λc _=>9-(intOf c).toNat)
  case atStart=>exact⟨0,au 9,rfl,QN _,iP 9 _,i,r⟩
  case round=>
   obtain⟨a,e,rfl,aa,l,B,m⟩:=hrel;by_cases C:a<9
   .have Q:=B.cell f.symm a gO;rw[O.out a C]at Q;have⟨b1,b2⟩:=P a;have t:=Zd λb=>jr (s a+2048) 12 gO gO gO b;rw[show((12:Nat):Int)=12 from rfl,show(2:Int)^12=4096 by decide,<-E.out a]at t;have j:e.length=9:=l.1;have H:=Zd<|eD l C;generalize q a=D at *
    generalize s a=ab at *
    have i1:(a:Int)<9:=gO;go_wp2_with fail;refine(t _).mono ?_;rintro z w3 ⟨rfl,x⟩;have g:=Zd<|m.aC x;have cd:=g.2.2.1.cell a gO;have fd:=g.2.2.1.free a;have K:=Zd<|(B.aC x).bH (aD w3 ⟨d.heap.size+1+1,a,none⟩ (I D)) (by simp);have J:=Zd<|Sd g a D;generalize aB e a=y' at *
    go_wp2;go_roundw
    case rel=>exact⟨a+1,_,by go_num,gO,H,K,J⟩
    case measure=>simp[intOf];omega
   obtain rfl:a=9:=gO;have j:e.length=9:=l.1;have H:=Zs (e=f_ 9 q) (fB l);have D:=Zd m.2.2.1;have t:=Zd m.2.1;have K:=Zd m.2.2.2;go_wp2_with (first|refine lA D (by rw[j];exact bZ) ?_|refine sA e t (by rw[j,ak]) (by rw[ak];exact bZ) ?_);have x:=bF (rs':=e) t (by rw[j,ak]);have Q:=kU x.1 (by rw[j];exact bZ);have J:=Zd<|aG K x.2 gO;refine QB (v:=.tuple #[.agg (aF e),I 0]) ?_ rfl ?_
   .simp[results,results34,asAddr,Act.put,Q]
   rw[G.out,F.out,<-H.out];exact⟨rfl,J⟩
def Cu (b a:L)(B:b.length=8)(p:a.length=8)(J:cZ b=true)(E:cZ a=true)(q:Nat)(r:W):Calls prog 27 #[.agg (aF b),.agg (aF a),I q] r (jB r (.agg (aF (iF b a q)))):=by
 have e:=Zd<|oQ r 50 50 69 b a (au 9);rw[oV]at e;have z:=Zd λc=>acA b a B p 2 gO gO J E c;have v:=Zd λc=>Qe (pR b a 2) (wG _ _ _) (aaJ b a B p J E) c;have w:=Zd λc=>Qe a p E c;by_cases C:q=0
 .subst C;rw[show iF b a 0=pG (pR b a 2)from rfl];have y:=Zd<|wG b a 2;have c:=Zd<|pV (pR b a 2);clear w;generalize pG (pR b a 2)=A at *
  generalize zh (pR b a 2)=P at *
  generalize CP b a 2=R at *
  generalize pR b a 2=x at *
  go_enter func27,ntmps27;go_wp2_with (first|refine lA e.1 (by rw[B];exact bG) ?_|refine lA e.2.1 (by rw[p];exact bG) ?_);refine(z _).mono ?_;rintro G s ⟨rfl,H⟩;have F:=Zs (iX r s 50 50 69 b a (au 9)) (iX.aC e H);have⟨f,g,i⟩:=dG s 50 8 x y;have t:=Zd f;have u:=Zd g;have l:=Zd<|iX.aC F i;rw[uR]at t u l;clear e H z f g i F;go_upto_region 3 with(first|refine sA x t (by rw[y.out,ak]) (by rw[ak];exact bG) ?_);clear t;generalize b_ _ s.heap.size x=M at *
  generalize s.heap.size=Q at *
  go_wp2_with (first|refine lA u (by rw[y.out];exact bG) ?_);refine(v M).mono ?_;rintro G j ⟨rfl,o⟩;have⟨f,g,i⟩:=dG j 69 9 A c;have k:=Zd f;have m:=Zd g;have d:=Zd<|iX.aC (iX.aC l o) i;rw[oV]at k m d;clear o v f g i l u;go_upto_region 4 with(first|refine sA A k (by rw[c.out,ak]) (by rw[ak];exact bZ) ?_);clear k;generalize b_ _ j.heap.size A=O at *
  generalize j.heap.size=K at *
  go_wp2_with (first|refine lA m (by rw[c.out];exact bZ) ?_|refine sA A d.2.2.1 (by rw[c.out,ak]) (by rw[ak];exact bZ) ?_);have n:=bF (rs':=A) d.2.2.1 (by rw[c.out,ak]);have D:=kU n.1 (by rw[c.out];exact bZ);refine QB (v:=.agg (aF A)) ?_ rfl ⟨rfl,aG d.2.2.2 n.2 gO⟩;simp[results,results27,asAddr,Act.put,D]
 rw[show iF b a q=pG a from X9 C];have c:=Zd<|pV a;have s:¬(q:Int)=0:=gO;clear v z C;generalize pG a=A at *
 generalize zh a=P at *
 go_enter func27,ntmps27;go_wp2_with (first|refine lA e.2.1 (by rw[p];exact bG) ?_);refine(w _).mono ?_;rintro G j ⟨rfl,o⟩;have l:=Zs (iX r j 50 50 69 b a (au 9)) (iX.aC e o);have⟨f,g,i⟩:=dG j 69 9 A c;have k:=Zd f;have m:=Zd g;have d:=Zd<|iX.aC l i;rw[oV]at k m d;clear o w f g i l e;go_upto_region 6 with(first|refine sA A k (by rw[c.out,ak]) (by rw[ak];exact bZ) ?_);clear k;generalize b_ _ j.heap.size A=O at *
 generalize j.heap.size=K at *
 go_wp2_with (first|refine lA m (by rw[c.out];exact bZ) ?_|refine sA A d.2.2.1 (by rw[c.out,ak]) (by rw[ak];exact bZ) ?_);have n:=bF (rs':=A) d.2.2.1 (by rw[c.out,ak]);have D:=kU n.1 (by rw[c.out];exact bZ);refine QB (v:=.agg (aF A)) ?_ rfl ⟨rfl,aG d.2.2.2 n.2 gO⟩;simp[results,results27,asAddr,Act.put,D]
def acG:(prog.info? 74).map (·.size)=some 4:=by kernel_rfl
def acH (a:jF n f b l)(d:aB l b=f b):jF n f (b+1) l:=
 ⟨a.1,λc e=>by
  by_cases e:c=b
  .subst e;exact d
  exact a.2 c gO⟩
def MQ (d:Nat)(a:Nat->Int)(b:Nat)(c:L):Prop:=jF d a b c/\∀a,b<=a->aB c a=0
def Ij (a:Nat)(b:Nat->Int):MQ a b 0 (au a):=⟨iP a b,λb _=>jU a b⟩
def MR (a:MQ n f b l)(c:b<n):MQ n f (b+1) (l.set b (f b)):=⟨eD a.1 c,λc d=>by rw[lF _ _ _ _ gO];exact a.2 c gO⟩
def MW (a:MQ n f b l)(c:f b=0):MQ n f (b+1) l:=⟨acH a.1 (by rw[c];exact a.2 b (Q6 _)),λc d=>a.2 c gO⟩
def Vn (f:L)(a b:Int)(d:¬((0<=a/\a<=15)/\0<=b/\b<=32767))(e:W):Calls prog 69 #[.agg (aF f),I a,I b] e (gP e [] 2):=by
 have c:=Zd<|aj e (.cells (aF f) 74) none;by_cases g:a<0
 .clear d;go_enter func69,ntmps69;go_wp2_with fail;go_ret2;exact⟨_,rfl,bN _ _,c⟩
 by_cases i:15<a
 .clear d;go_enter func69,ntmps69;go_wp2_with fail;go_ret2;exact⟨_,rfl,bN _ _,c⟩
 by_cases j:b<0
 .clear d;go_enter func69,ntmps69;go_wp2_with fail;go_ret2;exact⟨_,rfl,bN _ _,c⟩
 have k:32767<b:=gO;go_enter func69,ntmps69;go_wp2_with fail;go_ret2;exact⟨_,rfl,bN _ _,c⟩
def aiO (a:Nat)(c:a<l.length)(b:¬(0<=aB l a/\aB l a<=9)):gY l=false:=by
 rcases hb:gY l with _|_
 .rfl
 exact absurd ((jf l).1 hb a c) b
def En (b:L)(U:b.length=4)(c d:Int)(e:W):Calls prog 69 #[.agg (aF b),I c,I d] e (gP e (Pp b c d) (Og b c d)):=by
 by_cases r:(0<=c/\c<=15)/\0<=d/\d<=32767
 .have M:=Zd (λ(f:W) (i:gY b=false) (y:e.grownBy f none)=>(show gP e (Pp b c d) (Og b c d) (.returned (.tuple #[N,I 2])) f from by
   have⟨o,p⟩:=aaH (x:=b) (s:=c) (z:=d) (λm=>by rw[i]at m;exact absurd m.2.2 (by decide));rw[o,p];exact⟨_,rfl,bN _ _,y⟩))
  have O:=Zd (λ(f:W) a (i:gY b=true) (y:e.grownBy f none) (X:fO e.heap.size f a (f_ 40 (Tw b c d)))=>(show gP e (Pp b c d) (Og b c d) (.returned (.tuple #[a,I 0])) f from by
   have⟨o,p⟩:=Jl (x:=b) (s:=c) (z:=d) ⟨r.1,r.2,i⟩;rw[o,p];exact⟨_,rfl,X,y⟩))
  have⟨⟨Y,s2⟩,z1,z2⟩:=r;have Q:=gU 40 gO;rw[show((40:Nat):Int)=40 from rfl]at Q;have s:=Zd U;have H:=Zs (jc e ((e.alloc (.cells (aF b) 74)).alloc (.cells (aF (au 40)) 3)) 74 3 b (au 40)) (nI e 74 3 b (au 40));have G:=Zd λg=>(show Tw b c d g=if aB b (g % 4)=((g / 4:Nat):Int)then(if c / 2^(g % 4) % 2=1 then d else -d)else 0 from rfl);generalize gP e (Pp b c d) (Og b c d)=aa at *
  go_enter func69,ntmps69;go_wp2_with fail;generalize (e.alloc _).alloc _=W0 at *
  go_loopw [29] (λg wr=>∃(a:Nat) (j:L),g=I a/\a<=40/\Hid (∀f,f<a->f<4->0<=aB b f/\aB b f<=9)/\Hid (MQ 40 (Tw b c d) a j)/\Hid (jc e wr 74 3 b j)) (λg _=>40-(intOf g).toNat)
  case atStart=>exact⟨0,au 40,rfl,QN _,λf y=>gO,Ij 40 _,H⟩
  case round=>
   obtain⟨a,j,rfl,hm,D,q,g⟩:=hrel;by_cases P:a<40
   .have i1:(a:Int)<40:=gO;have cx:=g.1.cell (a % 4) (by rw[s.out];omega);have E:j.length=40:=q.1.1;have cd:=g.2.1.cell a gO;have fd:=g.2.1.free a;have tm:(a:Int).tmod 4=((a % 4:Nat):Int):=by rw[V3 gO];exact(Int.natCast_emod a 4).symm
    have ac:(a:Int) % 4=((a % 4:Nat):Int):=(Int.natCast_emod a 4).symm;have td:(a:Int).tdiv 4=((a / 4:Nat):Int):=by rw[YS gO];exact(Int.natCast_ediv a 4).symm
    have ab:(a:Int) / 4=((a / 4:Nat):Int):=(Int.natCast_ediv a 4).symm;have t4:((a % 4:Nat):Int)<4:=gO;have B:=Zd λ(i:¬(0<=aB b (a % 4)/\aB b (a % 4)<=9))=>M wr (aiO (a % 4) (by rw[s.out];omega) i) g.2.2;have J:=Zd (λ(i:0<=aB b (a % 4)/\aB b (a % 4)<=9)=>(show ∀f,f<a+1->f<4->0<=aB b f/\aB b f<=9 from λf y k=>by
     by_cases l:f=a
     .subst l;rw[Nat.mod_eq_of_lt k]at i;exact i
     exact D f gO k))
    have k:=G a;have u:=Zd<|MR q P;have K:=Zd<|MW q;have t:=Zs (jc e (wr.setCell (A (e.heap.size+1) a) (I (Tw b c d a))) 74 3 b (j.set a (Tw b c d a))) (⟨g.1.aH (aD wr (A (e.heap.size+1) a) (I (Tw b c d a))) (by simp),g.2.1.set a _,aG g.2.2 (aD wr (A (e.heap.size+1) a) (I (Tw b c d a))) (by simp)⟩);generalize Tw b c d a=Z at *
    generalize aB j a=m at *
    generalize hT:a % 4=l at *
    generalize hP:a / 4=C at *
    generalize aB b l=w at *
    by_cases y1:w<0
    .have n:=Zd<|B gO;go_wp2_with fail;exact n
    by_cases y2:9<w
    .have n:=Zd<|B gO;go_wp2_with fail;exact n
    have x:=Zd<|J ⟨gO,gO⟩;by_cases v:w=(C:Int)
    .rw[Q9 v]at k;subst v;have F:0<=c / 2^l:=F7 Y (by have:(0:Int)<2^l:=Int.pow_pos gO;omega);by_cases z:c / 2^l % 2=1
     .rw[Q9 z]at k;have T:(c / 2^l).tmod 2=1:=by rw[V3 F];exact z
      rw[k]at u t;go_wp2;go_roundw
      case rel=>exact⟨a+1,_,by go_num,gO,x,u,t⟩
      case measure=>simp[intOf];omega
     rw[X9 z]at k;have R:c / 2^l % 2=0:=gO;have T:(c / 2^l).tmod 2=0:=by rw[V3 F];exact R
     rw[k]at u t;go_wp2;go_roundw
     case rel=>exact⟨a+1,_,by go_num,gO,x,u,t⟩
     case measure=>simp[intOf];omega
    rw[X9 v]at k;have z:=Zd<|K k;have F:(w==(C:Int))=false:=by simp[v]
    go_wp2;go_roundw
    case rel=>exact⟨a+1,_,by go_num,gO,x,z,g⟩
    case measure=>simp[intOf];omega
   obtain rfl:a=40:=gO;have E:j.length=40:=q.1.1;have k:=Di (base:=e.heap.size) g.2.1 gO gO;rw[E,show j=f_ 40 (Tw b c d)from fB q.out.1]at k;have n:=Zd<|O.out wr _ ((jf b).2 (λf y=>D.out f (by have:=s.out;omega) (by have:=s.out;omega))) g.2.2 k;rw[show((40:Nat):Int)=40 from rfl];go_wp2_with fail;exact n
 have⟨o,p⟩:=aaH (x:=b) (s:=c) (z:=d) (λm=>r ⟨m.1,m.2.1⟩);rw[o,p];exact Vn b c d r e
def Pv (b:L)(one c d:Int):Nat->Nat
 | 0=>0
 | a+1=>if(aB b (a+1)+aB b a)*d<2*one*c then a+1 else Pv b one c d a
def aiP (d:L)(one b c:Int):∀a,Pv d one b c a<=a
 | 0=>Q6 _
 | a+1=>by
  have:=aiP d one b c a;unfold Pv;split<;>omega
def Sg (b c:Int):∀a,a<=7->Pv gains 16384 b c a=IW b c a
 | 0,_=>rfl
 | a+1,g=>by
  unfold Pv IW;rw[Sg b c a gO];have e:aB gains (a+1)=jG (a+1):=rfl;have f:aB gains a=jG a:=rfl;rw[e,f];by_cases d:(jG (a+1)+jG a)*c<2*16384*b
  .rw[Q9 d,Q9 ⟨gO,d⟩]
  rw[X9 d,X9 (λa=>d a.2)]
def ad5 (a b c d:Int)(h:0<=a)(e:0<=b)(f:a<=c)(g:b<=d):0<=a*b/\a*b<=c*d:=
 ⟨ZA h e,Int.mul_le_mul f g e gO⟩
def zV (c:W)(a:Addr)(b:Nat):Prop:=TabS c 0 a b gains 8
def ng {a:Addr}(c:zV w a n)(b:w.grownBy w' none):zV w' a n:=iq c b
def ZF (a:Int)(e:Addr)(f:Nat)(d:W)(l:zV d e f):Calls prog 72 #[I a] d λb c=>b=.returned (.tuple #[I (Es a),I (gaE a)])/\c=d:=by
 by_cases b:0<=a/\a<=7
 .rw[show Es a=jG a.toNat from Q9 b,show gaE a=0 from Q9 b];obtain⟨c,rfl⟩:∃c:Nat,a=(c:Int):=⟨a.toNat,gO⟩;have⟨g,i,j⟩:=l;have k:=j c gO;rw[show gains.getD c 0=jG c from rfl]at k;rw[Int.toNat_natCast];have⟨m,n⟩:=b;generalize jG c=o at *
  go_enter func72,ntmps72;go_wp2_with fail;go_ret2;exact⟨rfl,rfl⟩
 rw[show Es a=0 from X9 b,show gaE a=2 from X9 b];by_cases g:a<0
 .clear b;go_enter func72,ntmps72;go_wp2_with fail;go_ret2;exact⟨rfl,rfl⟩
 have i:7<a:=gO;go_enter func72,ntmps72;go_wp2_with fail;go_ret2;exact⟨rfl,rfl⟩
def NeS (g:W)(e:Nat)(c d:Int)(f:V)(a:W):Prop:=∃b,f=.pointer (S b)/\kD a b d/\kD a e c/\g.grownBy a none
def M_ (ab:V)(e:L)(one j f:Int)(c:W)(am:aY c ab e)(hl:e.length<=1000)(h1:1<=e.length)(o1:0<=one)(o2:one<=16384)(c1:0<=j)(c2:j<=1152921504606846976)(e1:0<=f)(e2:f<=17592186044416)(hv:∀a,0<=aB e a/\aB e a<=2147483647):Calls prog 112 #[ab,I one,I j,I f] c (fP c (I (Pv e one j f (e.length-1)))):=by
 have D:=Zd hv;obtain⟨ad,cc,rfl,hc,O⟩:=am;obtain⟨M,rfl,aa⟩:=O gO;have C:=Zd aa;have⟨q1,q2⟩:=ad5 (2*one) j 32768 1152921504606846976 gO c1 gO c2;clear O aa hv;go_enter func112,ntmps112;go_wp2_with fail;go_loopw [9,10] (λb a wr=>∃d:Nat,a=I ((d:Int)+1)/\b=I (Pv e one j f d:Int)/\d+1<=e.length/\Hid (c.grownBy wr none)) (λ_ a _=>e.length-(intOf a).toNat)
 case atStart=>exact⟨0,rfl,rfl,h1,aM _ _⟩
 case round=>
  obtain⟨d,rfl,rfl,hm,t⟩:=hrel;by_cases ap:d+1<e.length
  .have cx:=C (d+1) ap;have cy:=C d gO;have⟨x1,x2⟩:=D (d+1);have⟨y1,y2⟩:=D d;have⟨r1,r2⟩:=ad5 (aB e (d+1)+aB e d) f 4294967294 17592186044416 gO e1 gO e2;have B:=Zs (Pv e one j f (d+1)=if(aB e (d+1)+aB e d)*f<2*one*j then d+1 else Pv e one j f d) (rfl);have NB:=aiP e one j f d;clear D C;generalize aB e (d+1)=k at *
   generalize aB e d=m at *
   generalize Pv e one j f d=K at *
   have i1:(d:Int)+1<e.length:=gO;have i2:(d:Int)<e.length:=gO;have i3:(e.length:Int)<=1000:=gO;have i4:(0:Int)<=(d:Int)+1:=gO;have g:=Zd<|dW wr;have a:=Zd<|ay t (aj wr iW none);have G:=Zd<|K4 t;rw[show iW=.cells #[.bool false,N] 113 from rfl]at g a;clear t;go_wp2_with fail;generalize wr.alloc (.cells #[.bool false,N] 113)=wz at *
   generalize wr.heap.size=v at *
   refine(eP (2*one) _ gO gO).mono ?_;rintro n wa ⟨w,rfl,an,y,J⟩;have i:=Zd y;have g:=Zd<|bQ g J (by simp);have a:=Zd<|ay a J;clear y J an;go_wp2_with fail;refine(eP j _ gO gO).mono ?_;rintro n wb ⟨u,rfl,ao,z,E⟩;have l:=Zd z;have i:=Zd<|bP i E;have g:=Zd<|bQ g E (by simp);have a:=Zd<|ay a E;clear z E ao;go_wp2_with fail;refine(jh v w u (2*one) j _ g i l (by rw[P8];omega) (by rw[P8];omega)).mono ?_;rintro n wc ⟨rfl,ip,g3⟩;have b:=Zd ip;have t:=Zd<|aG a g3 G;have WS:=G.out;clear ip g3 i l g a G;go_upto_region 6 with fail;go_cut [12]from 13 to 45 (λa o=>NeS c v (2*one*j) ((k+m)*f) a o)
   case first=>
    refine wp_region_held_drew (S:=dB c) (by kernel_rfl) (aX t (bB (aM _ none))) λa=>?_;have b:=Zd<|bP b (bB (aM wc none));clear t;refine aV 1 a ?_;refine aV 2 a ?_;refine aV 3 a ?_;refine aV (hy:=by intro F o;have c1:F.cell? { block:=M.block,off:=M.off+(d+1) }=some (I k):=aU o cx;go_simp;(try with_reducible rfl)) (v:=I k) 4 a ?_;refine aV 5 a ?_;refine aV 6 a ?_;refine aV (hy:=by intro F o;go_simp;(try(first|with_reducible rfl|exact eG _ gO gO|(rw[eG _ gO gO];omega)|omega))) (v:=I (d:Int)) 7 a ?_;refine aV 8 a ?_;refine aV (hy:=by intro F o;have c2:=aU o cy;go_simp;(try with_reducible rfl)) (v:=I m) 9 a ?_;refine aV (hy:=by intro F o;go_simp;(try(first|with_reducible rfl|exact eG _ gO gO|omega))) (v:=I (k+m)) 10 a ?_;refine aV 12 a ?_;refine qN 0 11 (λo c=>?ai) λo c=>?al
    case ai=>
     (try simp only[sZ]);go_simp;go_wp2_with fail;have q:=Zs (v<wc.heap.size) (WK (lS b) (by first|exact Q6 _|simp));refine c.out _ _ (dZ a (.cells #[.bool false,N] 113)) λa=>?_;clear c;have b:=Zd<|bP b (aj (wc.drew) (.cells #[.bool false,N] 113) none);have g:=Zs (Struct ((wc.alloc (.cells #[.bool false,N] 113)).drew) (wc.heap.size)) (dW (wc.drew));have Q:(wc.drew).alloc (.cells #[.bool false,N] 113)=(wc.alloc (.cells #[.bool false,N] 113)).drew:=rfl;rw[Q]at b;clear Q;generalize (wc.alloc (.cells #[.bool false,N] 113)).drew=ar at *
     generalize wc.heap.size=s at *
     (try simp only[sZ]);refine eU 11 λo c=>?_;(try simp only[sZ]);go_simp;refine(eP (k+m) _ gO gO).mono ?_;rintro n az ⟨w,rfl,Z,R,T⟩;have r:=Zd T;have i:=Zd R;have b:=Zd<|bP b r;have g:=Zd<|bQ g r (by simp);clear R Z T;go_wp2_with fail;refine c.out _ _ (aX a r) λa=>?_;clear c;(try simp only[sZ]);refine eU 13 λo c=>?_;(try simp only[sZ]);go_simp;refine(eP f _ gO gO).mono ?_;rintro n aA ⟨u,rfl,af,U,H⟩;have p:=Zd H;have l:=Zd U;have b:=Zd<|bP b p;have g:=Zd<|bQ g p (by simp);have i:=Zd<|bP i p;clear U af H;go_wp2_with fail;refine c.out _ _ (aX a p) λa=>?_;clear c;(try simp only[sZ]);refine eU 14 λo c=>?_;(try simp only[sZ]);go_simp;refine(jh s w u (k+m) f _ g i l (by rw[P8];omega) (by rw[P8];omega)).mono ?_;rintro n aC ⟨rfl,X,P⟩;have Y:=Zd P;have x:=Zd X;have b:=Zd<|dR b.out Y.out g.out (by have:=q.out;omega);clear X P i l;go_wp2_with fail;refine c.out _ _ (jq a Y (by have:=q.out;omega)) λa=>?_;clear c g;(try simp only[sZ]);refine aV 15 a ?_;refine jX ?_;go_wp2_with fail;go_meet;exact⟨s,rfl,x,b,a⟩
    case al=>
     (try simp only[sZ]);go_simp;refine(eP (k+m) _ gO gO).mono ?_;rintro n r ⟨w,rfl,ag,Q,R⟩;have T:=Zd R;have i:=Zd Q;have b:=Zd<|bP b T;clear Q ag R;go_wp2_with fail;refine c.out _ _ (aX a T) λa=>?_;clear c;(try simp only[sZ]);refine qN 0 13 (λo c=>?ac) λo c=>?ae
     case ac=>
      (try simp only[sZ]);go_simp;go_wp2_with fail;have q:=Zs (v<r.heap.size) (WK (lS b) (by first|exact Q6 _|simp));refine c.out _ _ (dZ a (.cells #[.bool false,N] 113)) λa=>?_;clear c;have b:=Zd<|bP b (aj (r) (.cells #[.bool false,N] 113) none);have i:=Zd<|bP i (aj (r) (.cells #[.bool false,N] 113) none);have g:=Zs (Struct (r.alloc (.cells #[.bool false,N] 113)) (r.heap.size)) (dW (r));generalize r.alloc (.cells #[.bool false,N] 113)=av at *
      generalize r.heap.size=s at *
      (try simp only[sZ]);refine eU 13 λo c=>?_;(try simp only[sZ]);go_simp;refine(eP f _ gO gO).mono ?_;rintro n aq ⟨u,rfl,Z,P,U⟩;have p:=Zd U;have l:=Zd P;have b:=Zd<|bP b p;have i:=Zd<|bP i p;have g:=Zd<|bQ g p (by simp);clear P Z U;go_wp2_with fail;refine c.out _ _ (aX a p) λa=>?_;clear c;(try simp only[sZ]);refine eU 14 λo c=>?_;(try simp only[sZ]);go_simp;refine(jh s w u (k+m) f _ g i l (by rw[P8];omega) (by rw[P8];omega)).mono ?_;rintro n aE ⟨rfl,X,H⟩;have Y:=Zd H;have x:=Zd X;have b:=Zd<|dR b.out Y.out g.out (by have:=q.out;omega);clear X H i l;go_wp2_with fail;refine c.out _ _ (jq a Y (by have:=q.out;omega)) λa=>?_;clear c g;(try simp only[sZ]);refine aV 15 a ?_;refine jX ?_;go_wp2_with fail;go_meet;exact⟨s,rfl,x,b,a⟩
     case ae=>
      (try simp only[sZ]);go_simp;refine(eP f _ gO gO).mono ?_;rintro n p ⟨u,rfl,ah,U,X⟩;have H:=Zd X;have l:=Zd U;have b:=Zd<|bP b H;have i:=Zd<|bP i H;clear U ah X;go_wp2_with fail;refine c.out _ _ (aX a H) λa=>?_;clear c;(try simp only[sZ]);refine eU 0 λo c=>?_;(try simp only[sZ]);go_simp;go_wp2_with fail;have q:=Zs (v<p.heap.size) (WK (lS b) (by first|exact Q6 _|simp));refine c.out _ _ (dZ a (.cells #[.bool false,N] 113)) λa=>?_;clear c;have b:=Zd<|bP b (aj (p) (.cells #[.bool false,N] 113) none);have i:=Zd<|bP i (aj (p) (.cells #[.bool false,N] 113) none);have l:=Zd<|bP l (aj (p) (.cells #[.bool false,N] 113) none);have g:=Zs (Struct (p.alloc (.cells #[.bool false,N] 113)) (p.heap.size)) (dW (p));generalize p.alloc (.cells #[.bool false,N] 113)=aw at *
      generalize p.heap.size=s at *
      (try simp only[sZ]);refine eU 14 λo c=>?_;(try simp only[sZ]);go_simp;refine(jh s w u (k+m) f _ g i l (by rw[P8];omega) (by rw[P8];omega)).mono ?_;rintro n ax ⟨rfl,Y,P⟩;have Z:=Zd P;have x:=Zd Y;have b:=Zd<|dR b.out Z.out g.out (by have:=q.out;omega);clear Y P i l;go_wp2_with fail;refine c.out _ _ (jq a Z (by have:=q.out;omega)) λa=>?_;clear c g;(try simp only[sZ]);refine aV 15 a ?_;refine jX ?_;go_wp2_with fail;go_meet;exact⟨s,rfl,x,b,a⟩
   case rest=>
   obtain⟨x,rfl,z,y,s⟩:=hcut;have o:=Zd<|yc v x (2*one*j) ((k+m)*f) _ y z;have r:=Zd s;clear y z s b t cx cy;by_cases p:(k+m)*f<2*one*j
   .rw[show gI (2*one*j) ((k+m)*f)=1 by unfold gI;rw[X9 gO,Q9 p]]at o;have q:=Zs (Pv e one j f (d+1)=d+1) (by rw[B.out,Q9 p]);clear B p r1 r2 q1 q2;go_wp2_with fail;refine o.mono ?_;rintro n H ⟨rfl,F,rfl⟩;clear o;go_wp2_with fail;go_roundw
    case rel=>exact⟨d+1,by go_num,by rw[q.out];go_num,gO,ay r (dY _ _ none)⟩
    case measure=>simp[intOf];omega
   have Q:¬0<gI (2*one*j) ((k+m)*f):=by
    unfold gI
    repeat' split
    all_goals omega
   have q:=Zs (Pv e one j f (d+1)=K) (by rw[B.out,X9 p]);clear B p r1 r2 q1 q2;generalize gI (2*one*j) ((k+m)*f)=P at *
   go_wp2_with fail;refine o.mono ?_;rintro n H ⟨rfl,F,rfl⟩;clear o;go_wp2_with fail;go_roundw
   case rel=>exact⟨d+1,by go_num,by rw[q.out],gO,ay r (dY _ _ none)⟩
   case measure=>simp[intOf];omega
  obtain g:e.length-1=d:=gO;clear C D;generalize a:Pv e one j f d=K at *
  have b:=Zd a;clear a;go_wp2_with fail;go_ret;exact⟨by rw[g,b.out];rfl,t⟩
def Na (a b:Int)(d:Addr)(f:Nat)(c:W)(t:-9223372036854775808<=a)(u:a<=9223372036854775807)(v:-9223372036854775808<=b)(w:b<=9223372036854775807)(m:zV c d f):Calls prog 65 #[I a,I b] c (fP c (I (PW a b))):=by
 by_cases n:a<=0
 .rw[show PW a b=0 from Q9 (.inl n)];have e:=Zd<|aM c none;go_enter func65,ntmps65;go_wp2_with fail;go_ret;exact⟨rfl,e⟩
 by_cases o:b<=0
 .rw[show PW a b=0 from Q9 (.inr o)];have e:=Zd<|aM c none;have i:0<a:=gO;go_enter func65,ntmps65;go_wp2_with fail;go_ret;exact⟨rfl,e⟩
 rw[show PW a b=(IW (jH a) (jH b) 7:Int)from nO];have i:0<a:=gO;have p:0<b:=gO;have⟨z,B⟩:=Dc a i;have⟨C,D⟩:=Dc b p;have⟨y,k,l⟩:=m;have g:=Zd<|M_ (.slice (some d) 8 f) gains 16384 (jH a) (jH b) c ⟨some d,f,rfl,k,λ_=>⟨d,rfl,l⟩⟩ (by decide) (by decide) gO gO gO gO gO gO (λc=>by have:=wK c;show 0<=jG c/\jG c<=2147483647;omega);rw[Sg _ _ _ (by decide),show gains.length-1=7 from rfl]at g;have E:min a 1099511627776=jH a:=by unfold jH;split<;>omega
 have F:min b 1099511627776=jH b:=by unfold jH;split<;>omega
 have G:(if 1099511627776<a then 1099511627776 else a)=jH a:=rfl;have H:(if 1099511627776<b then 1099511627776 else b)=jH b:=rfl;generalize IW (jH a) (jH b) 7=s at *
 generalize jH a=q at *
 generalize jH b=r at *
 go_enter func65,ntmps65;go_wp2_with fail;refine g.mono ?_;rintro x J ⟨rfl,j⟩;go_wp2_with fail;go_ret;exact⟨rfl,j⟩
def xI (b:Int)(e:Addr)(f:Nat)(c:W)(l:Steps c e f):Calls prog 71 #[I b] c λg a=>g=.returned (.tuple #[I (BO b),I (glE b)])/\c.grownBy a none:=by
 by_cases d:0<=b/\b<=31
 .obtain⟨a,rfl⟩:∃a:Nat,b=(a:Int):=⟨b.toNat,gO⟩;have i:a<=31:=gO;rw[(uW a i).1,(uW a i).2];have P:=Zd<|acI (3+3*a / 8) ((3*a % 8*4096:Nat):Int) gO gO gO e f c l;rw[ac0 a gO]at P;have q:(24+3*(a:Int)).tdiv 8=((3+3*a / 8:Nat):Int):=by rw[YS gO];omega
  have r:(24+3*(a:Int)) / 8=((3+3*a / 8:Nat):Int):=gO;have s:(24+3*(a:Int)).tmod 8=((3*a % 8:Nat):Int):=by rw[V3 gO];omega
  have t:(24+3*(a:Int)) % 8=((3*a % 8:Nat):Int):=gO;rw[show((3*a % 8*4096:Nat):Int)=((3*a % 8:Nat):Int)*4096 by omega]at P;have n:3*a % 8<=7:=gO;generalize 3+3*a / 8=u at *
  generalize 3*a % 8=m at *
  generalize mD a=w at *
  have o:(m:Int)<=7:=gO;have p:(a:Int)<=31:=gO;go_enter func71,ntmps71;go_wp2_with fail;refine P.mono ?_;rintro g v ⟨rfl,k⟩;have j:=Zd k;go_wp2_with fail;go_ret2;exact⟨rfl,j⟩
 rw[show BO b=0 from X9 d,show glE b=2 from X9 d];by_cases a:b<0
 .clear d;go_enter func71,ntmps71;go_wp2_with fail;go_ret2;exact⟨rfl,aM _ _⟩
 have i:31<b:=gO;go_enter func71,ntmps71;go_wp2_with fail;go_ret2;exact⟨rfl,aM _ _⟩
def aiQ (a:Nat):0<=aB (f_ 32 mD) a/\aB (f_ 32 mD) a<=2147483647:=by
 by_cases b:a<32
 .rw[dP _ _ _ b];have:=Jf a;omega
 rw[dI (f_ 32 mD) a (by rw[cK];omega)];omega
def ad6 (a c:Int):∀b,b<=31->Pv (f_ 32 mD) 1 a c b=goN a c b
 | 0,_=>rfl
 | b+1,d=>by
  unfold Pv goN;rw[ad6 a c b gO,dP _ _ _ gO,dP _ _ _ gO,show(2:Int)*1*a=2*a by omega]
def Nb (b c:Int)(f:Addr)(n:Nat)(d:W)(J:Steps d f n)(z:0<b)(U:b<=9223372036854775807)(B:0<c)(X:c<=9223372036854775807):Calls prog 70 #[I b,I c] d (fP d (I (goN (uS b) (uT c) 31:Int))):=by
 have w:=Zd λa wr (j:d.grownBy wr none)=>xI a f n wr (kS J j);have C:min b 1152921504606846976=uS b:=by unfold uS;split<;>omega
 have D:min c 17592186044416=uT c:=by unfold uT;split<;>omega
 have E:(if 1152921504606846976<b then 1152921504606846976 else b)=uS b:=rfl;have F:(if 17592186044416<c then 17592186044416 else c)=uT c:=rfl;have⟨P,Q⟩:=ac1 b z;have⟨R,T⟩:=ac2 c B;have r:=Zd<|And.intro (And.intro C D) (And.intro E F);have t:=Zs (∀f,d.grownBy f none->fP d (I (goN (uS b) (uT c) 31:Int)) (.returned (I (goN (uS b) (uT c) 31:Int))) f) (λf a=>⟨rfl,a⟩);generalize fP d (I (goN (uS b) (uT c) 31:Int))=M at *
 go_enter func70,ntmps70;go_wp2_with fail;go_loopw [5,6] (λg e wr=>∃(a:Nat),e=I a/\a<=32/\Hid (fO d.heap.size wr g (f_ a mD))/\Hid (d.grownBy wr none)) (λ_ e _=>32-(intOf e).toNat)
 case atStart=>exact⟨0,rfl,QN _,bN _ _,aM _ _⟩
 case round=>
  obtain⟨a,rfl,Y,q,k⟩:=hrel;by_cases O:a<32
  .have e:=Zd<|w (a:Int) wr k;rw[(uW a gO).1,(uW a gO).2]at e;have s:=Zs (f_ (a+1) mD=f_ a mD++[mD a]) (by unfold f_;rw[List.range_succ];simp);have v:=Zd<|cK a mD;have Z:(a:Int)<32:=gO;generalize mD a=i at *
   go_wp2_with fail;refine e.mono ?_;rintro G g ⟨rfl,o⟩;have m:=Zd<|q.aC o;have l:=Zd<|ay k o;have y:=Zs (d.heap.size<=(g.alloc (.cells #[I i] 3)).heap.size) (by have:=l.size;simp;omega);go_wp2_with (at_builtin;refine dH (by rfl) _ _ rfl d.heap.size _ (.slice (S g.heap.size) 1 1) (f_ a mD) [i] rfl rfl (m.aC (aj _ _ none)) (uj g i) (.inr ⟨_,_,rfl⟩) (by rw[v.out];simp;omega) y ?_);intro v5 w5 p H;rw[<-s.out]at p;have x:=Zd p;have K:∀e,u5.ownBlock=some e->d.heap.size<=e:=λe d=>(m.lt e d).1;have u:=Zd<|gV (ay l (aj g (.cells #[I i] 3) none)) H (λe d=>by have:=K e d;omega);go_wp2;go_roundw
   case rel=>exact⟨a+1,by go_num,gO,x,u⟩
   case measure=>simp[intOf];omega
  obtain rfl:a=32:=gO;rw[show((32:Nat):Int)=32 from rfl];have g:=Zd<|M_ u5 (f_ 32 mD) 1 (uS b) (uT c) wr q.ints (by rw[cK];omega) (by rw[cK];omega) gO gO gO gO gO gO aiQ;rw[cK,show 32-1=31 from rfl,ad6 _ _ _ (Q6 _)]at g;have i:=Zd λf (j:wr.grownBy f none)=>t f (ay k j);have⟨⟨u,v⟩,x,y⟩:=r;generalize goN (uS b) (uT c) 31=s at *
  generalize uS b=o at *
  generalize uT c=p at *
  go_wp2_with fail;refine g.mono ?_;rintro G m ⟨rfl,l⟩;have e:=Zd<|i m l;go_wp2_with fail
  first|exact e|(go_ret;exact e)
def Nc (a b:Int)(e:Addr)(f:Nat)(c:W)(l:Steps c e f)(j:a<=9223372036854775807)(k:b<=9223372036854775807):Calls prog 70 #[I a,I b] c (fP c (I (Py a b))):=by
 by_cases g:a<=0
 .rw[show Py a b=0 from Q9 (.inl g)];have d:=Zd<|aM c none;go_enter func70,ntmps70;go_wp2_with fail;go_ret;exact⟨rfl,d⟩
 by_cases i:b<=0
 .rw[show Py a b=0 from Q9 (.inr i)];have d:=Zd<|aM c none;have m:0<a:=gO;go_enter func70,ntmps70;go_wp2_with fail;go_ret;exact⟨rfl,d⟩
 rw[show Py a b=(goN (uS a) (uT b) 31:Int)from X9 (λd=>d.elim g i)];exact Nb a b e f c l gO j gO k
def acJ (c:L)(b a:Nat)(d:b+a<=c.length):((aQ c).drop b).take a=aQ (bM c b a):=by have:=tH c [] b a d;unfold mI at this;rwa [F3]at this
def Nf (b:W)(e:List Int)(f:Bool)(L:List Int)(d:Ending)(c:W):Prop:=∃a,d=.returned (.tuple #[bL e f,a])/\fO b.heap.size c a L/\b.grownBy c none
def VX (a:W)(c:L)(d:Bool)(e:L)(b:W):Prop:=bU b a.heap.size c d/\aW b (a.heap.size+1) 76 (aQ e)/\bU b (a.heap.size+1+1) (au 101) false/\a.grownBy b none
def VX.new (c:W)(a:L)(b:Bool)(d:L):VX c a b d (((c.alloc (.cells (aP a b).toArray 53)).alloc (.cells (aF d) 76)).alloc (.cells (aP (au 101) false).toArray 53)):=by
 refine⟨((bU.new c a b).aC (aj _ _ none)).aC (aj _ _ none),?_,?_,ay (ay (aj _ _ none) (aj _ _ none)) (aj _ _ none)⟩
 .have:=(aW.new (c.alloc (.cells (aP a b).toArray 53)) 76 (aQ d)).aC (aj _ (.cells (aP (au 101) false).toArray 53) none);rw[tF]at this;simpa using this
 have:=bU.new ((c.alloc (.cells (aP a b).toArray 53)).alloc (.cells (aF d) 76)) (au 101) false;simpa using this
def VX.aC (b:VX w l s p w')(a:w'.grownBy u none):VX w l s p u:=⟨b.1.aC a,b.2.1.aC a,b.2.2.1.aC a,ay b.2.2.2 a⟩
def VX.set (b:VX w l s p w')(a:Nat)(c:Int)(d:a<l.length):VX w (l.set a c) s p (w'.setCell (A w.heap.size a) (I c)):=
 ⟨b.1.set a c d,b.2.1.aH (aD w' (A w.heap.size a) _) (by simp),b.2.2.1.aH (aD w' (A w.heap.size a) _) (by simp<;>omega),aG b.2.2.2 (aD w' (A w.heap.size a) _) (Q6 _)⟩
def VX.put (b:VX w l s p w')(c:Nat)(a:L)(d:c+a.length<=l.length):VX w (jd l c a) s p (dz w' w.heap.size c (aQ a)):=by have:=b.1.put c a d;exact⟨this.1,b.2.1.aH this.2 gO,b.2.2.1.aH this.2 gO,aG b.2.2.2 this.2 (Q6 _)⟩
def VX.fin (c:VX w l s p w')(a:L)(b:Bool)(d:a.length=101):bU (dz w' (w.heap.size+1+1) 0 (aP a b)) (w.heap.size+1+1) a b/\w.grownBy (dz w' (w.heap.size+1+1) 0 (aP a b)) none:=by have:=c.2.2.1.dQ (m:=a) (t:=b) (ak 101) d;exact⟨this.1,aG c.2.2.2 this.2 gO⟩
def VX.sub (c:VX w l s p w')(a:Nat)(d:a<p.length):w'.cell? (A (w.heap.size+1) a)=some (I (aB p a)):=by have b:=rH p [] a d;unfold mI at b;rw[F3]at b;exact(c.2.1.cell a).trans b
def Bq (c:W)(Z:Addr)(c1:Nat)(hS:Steps c Z c1)(a2:Addr)(c2:Nat)(hG:zV c a2 c2)(b:L)(d:Bool)(hl:b.length=101)(af:iI b)(a:L)(g:vO a):Calls prog 29 #[bL b d,.agg (aF a)] c (Nf c (Cb b a) d (tQ b a)):=by
 have y:=Zd<|VX.new c b d a;have H:=Zd λe (B:c.grownBy e none)=>xI (aB a 7) Z c1 e (kS hS B);rw[show BO (aB a 7)=Nv a from rfl]at H;have G:=Zd λe (B:c.grownBy e none)=>ZF (aB a 1) a2 c2 e (ng hG B);rw[show Es (aB a 1)=Nw a from rfl]at G;have E:=Zd λe=>En (bM a 2 4) (aT _ _ _) (aB a 6) (Nv a) e;rw[show Pp (bM a 2 4) (aB a 6) (Nv a)=TM a from rfl]at E;have ad:iI (bM b 16 80):=λf=>by
  by_cases i:f<80
  .rw[fV _ _ _ _ i];exact af (16+f)
  rw[dI _ f (by rw[aT];omega)];omega
 have aa:iI (TM a):=λf=>by
  by_cases i:f<40
  .rw[(adg g).2,dP _ _ _ i];have:=TP g;unfold Tw;split<;>(try split)<;>omega
  rw[dI _ f (by rw[Jm g];omega)];omega
 have P:=Zd λj e (D:aY e j (TM a))=>Zv (bM b 16 80) (20+aB a 0) (Nw a) j (TM a) e (aT _ _ _) ad D aa (alS g);rw[show Df (bM b 16 80) (20+aB a 0) (Nw a) (TM a)=tQ b a from rfl]at P;have KP:=Zd λj e (D:aY e j (tQ b a))=>Zu (bM b 16 80) j (tQ b a) e (aT _ _ _) D (Dp g b) (qD (FM g b));have x:=Zd<|Tg (bM b 16 80) (tQ b a);have F:=Zs (∀j k,fO c.heap.size k j (tQ b a)->c.grownBy k none->Nf c (Cb b a) d (tQ b a) (.returned (.tuple #[bL ((((jd b 16 (Jk (bM b 16 80) (tQ b a))).set 98 (20+aB a 0)).set 97 (Nw a)).set 96 (Nv a)) d,j])) k) (λj k k l=>⟨j,rfl,k,l⟩);have t:=Zd λe (C:VX c b d a e) f (i:f<8)=>C.sub f (by rw[g.len];exact i);have U':=Zd λj e (C:VX c j d a e) f (i:f<8)=>C.sub f (by rw[g.len];exact i);have UL:=Zs ((aQ a).length=8) (by rw[aN];exact g.len);have UP:=Zd<|acJ a 2 4 (by rw[g.len];omega);have⟨l0,l1⟩:=g.eZ;have w:=Zd hl;have v:=Zd<|aJ hl d;have T:=Zd<|bU.part (l:=b) d 16 80 gO;have ZL:=Zd<|aJ (ak 101) false;have hz:=dM;generalize Nf c (Cb b a) d (tQ b a)=ai at *
 unfold bL at hz F ⊢;generalize Jk (bM b 16 80) (tQ b a)=f at *
 generalize VI (tQ b a)=x1 at *
 generalize B_ (20+aB a 0) (Nw a) (TM a)=x2 at *
 generalize Og (bM a 2 4) (aB a 6) (Nv a)=x3 at *
 generalize tQ b a=al at *
 generalize TM a=ah at *
 generalize Nv a=n at *
 generalize Nw a=k at *
 go_enter func29,ntmps29;go_upto_region 1 with fail;generalize ((c.alloc (.cells (aP b d).toArray 53)).alloc (.cells (aF a) 76)).alloc (.cells (aP (au 101) false).toArray 53)=U at *
 have u7:=t U y 7 gO;go_wp2_with fail;refine(H U y.2.2.2).mono ?_;rintro u X ⟨rfl,g1⟩;have l:=Zd<|y.aC g1;have u1:=t X l 1 gO;go_wp2_with fail;refine(G X l.2.2.2).mono ?_;rintro u ae ⟨rfl,rfl⟩;have u6:=t _ l 6 gO;go_wp2_with (first|refine lV 2 l.2.1 acG (by rw[UL.out];omega) UP ?_);refine(E _).mono ?_;rintro u W2 ⟨v2,rfl,o2,g2⟩;have B2:=Zs (c.heap.size+1+1+1<=ae.heap.size) (l.2.2.1.lt);have r:=Zd<|l.aC g2;have ac:=Zd<|P v2 W2 o2.ints;have u0:=t _ r 0 gO;go_wp2_with (first|refine lV 16 r.1 dU (by rw[v.out];omega) T ?_);refine ac.mono ?_;rintro u W3 ⟨v3,rfl,o3,g3⟩;have O:=Zd<|r.aC g3;have Q:=Zd<|o3.base (b':=c.heap.size+1+1+1) (by have:=r.2.2.1.lt;omega);have ab:=Zd<|KP v3 W3 Q.ints;go_wp2_with (first|refine lV 16 O.1 dU (by rw[v.out];omega) T ?_);refine ab.mono ?_;rintro u W4 ⟨rfl,g4⟩;have z:=Zd<|O.aC g4;have O4:=Zd<|Q.aC g4;have e:=Zd<|z.put 16 f (by rw[x.out,w.out];omega);have O5:=Zd<|O4.bH (z.1.put 16 f (by rw[x.out,w.out];omega)).2 gO;have I_:=Zd<|dO f;have J:=Zs ((aQ f).length=80) (by rw[aN];exact x);go_upto_region 6 with(first|refine sV 16 (aQ f) z.1 (by rw[J.out,v.out];omega) (by rw[J.out];exact dU) I_ ?_);generalize dz W4 c.heap.size 16 (aQ f)=Y at *
 have m:=Zs ((jd b 16 f).length=101) (by rw[dV];exact w);generalize jd b 16 f=j at *
 have u0:=U' j _ e 0 gO;have ao:=e.1.cell 98 (by rw[m.out];omega);have an:=e.1.cell 97 (by rw[m.out];omega);have am:=e.1.cell 96 (by rw[m.out];omega);have ar:=e.1.free 98;have aq:=e.1.free 97;have ap:=e.1.free 96;have K:=Zs ((j.set 98 (20+aB a 0)).length=101) (by rw[XB];exact m);have M:=Zs (((j.set 98 (20+aB a 0)).set 97 k).length=101) (by rw[XB];exact K);have q:=Zs ((((j.set 98 (20+aB a 0)).set 97 k).set 96 n).length=101) (by rw[XB];exact M);have M6:=Zd<|e.set 98 (20+aB a 0) (by rw[m.out];omega);have M7:=Zd<|M6.set 97 k (by rw[K.out];omega);have s:=Zd<|M7.set 96 n (by rw[M.out];omega);have O8:=Zd<|((O5.bH (aD Y (A c.heap.size 98) (I (20+aB a 0))) (by simp<;>omega)).bH (aD _ (A c.heap.size 97) (I k)) (by simp<;>omega)).bH (aD _ (A c.heap.size 96) (I n)) (by simp<;>omega);generalize aB a 0=x0 at *
 go_upto_region 7 with fail;generalize ((Y.setCell (A c.heap.size 98) (I (20+x0))).setCell (A c.heap.size 97) (I k)).setCell (A c.heap.size 96) (I n)=W8 at *
 generalize ((j.set 98 (20+x0)).set 97 k).set 96 n=o at *
 have A5:=Zd<|bU.all d q;have p:=Zd<|aJ q d;have ON:=Zd<|bO o d;have R:=Zd<|s.fin o d q;have O9:=Zd<|O8.bH (s.2.2.1.dQ (m:=o) (t:=d) (ak 101) q).2 gO;have FF:=Zd<|F _ _ (O9.base (b':=c.heap.size) gO) R.2;go_wp2_with (first|refine lV 0 s.1 aK (by rw[p.out];omega) A5 ?_|refine sV 0 (aP o d) s.2.2.1 (by rw[ZL.out,p.out];omega) (by rw[p.out];exact aK) ON ?_);have ag:=qG R.1 (by rw[p.out];exact aK);refine QB (v:=.tuple #[.agg (aP o d).toArray,_]) ?_ rfl FF;simp[results,results29,asAddr,Act.put,ag]
def CPl (d:Nat)(f:W):Prop:=∀(b:L) (e:Bool),b.length=101->bJ b=true->∀(a:L),a.length=25->jC a=true->∀c,f.grownBy c none->Calls prog d #[bL b e,.agg (aF a)] c (Nf c (lH b a) (mU a) (qK b a))
def Gv (b:W):Sem.run prog (zeroValue 79) b=.ok (.agg (aF (au 25))) b:=by
 have a:=Un;cases hq:prog.info? 79 with
 | none=>simp[hq]at a
 | some d=>
  have c:d.zero=some (.agg (aF (au 25))):=by simpa [hq] using a
  simp[zeroValue,typeInfo,hq,c]
def Gw (a:L):(oJ a).length=25:=by
 unfold oJ;split
 .exact cK _ _
 exact cK _ _
def kT.anL {m:L}{t:Bool}(a:kT w l s w')(b:l.length=101)(c:m.length=101):kT w m t (dz w' w.heap.size 0 (aP m t))/\w'.grownBy (dz w' w.heap.size 0 (aP m t)) (some w.heap.size):=by have:=a.1.dQ (m:=m) (t:=t) b c;exact⟨⟨this.1,a.2.1.aH this.2 gO,aG a.2.2 this.2 (Q6 _)⟩,this.2⟩
def Qf (c:W)(pl:CPl 32 c)(T:∀(f:V) (a:L) d,c.grownBy d none->jI d f a->yP a->a.length<=140737488351232->Calls prog 33 #[f] d (AZ d a))(f:V)(a:L)(Q:jI c f a)(K:yP a)(M:a.length<=140737488351232)(b:L)(e:Bool)(i:b.length=101)(J:iI b)(g:bJ b=true)(j:xV a≠0):Calls prog 16 #[bL b e,f] c (fu c (mV b a) (r_ b a) (nP b a) (kM b a)):=by
 have o:=Zd<|kT.new c b e;have k:=Zd λd=>fH b e i J d;rw[g]at k;have s:=Zd λd (t:c.grownBy d none)=>T f a d t (jy Q t) K M;unfold AZ at s;have r:=Zd<|Gw a;have n:=Zs (∀d,c.grownBy d none->fu c (mV b a) (r_ b a) (nP b a) (kM b a) (.returned (.tuple #[bL (au 101) false,N,I (xV a)])) d) (λd d=>⟨_,by rw[(xX g j).1,(xX g j).2.1,(xX g j).2.2.2],by rw[(xX g j).2.2.1];exact bN _ _,d⟩);have C:=Zd<|bO (au 101) false;have Y:=Zd i;have x:=Zd<|aJ i e;have v:=Zd<|bU.all e i;have m:=Zd<|aJ (ak 101) false;have R:=dM;have ab:=Gv;generalize fu c (mV b a) (r_ b a) (nP b a) (kM b a)=aa at *
 unfold bL at R n k ⊢;generalize oJ a=P at *
 generalize xV a=U at *
 go_enter func16,ntmps16;go_upto_region 1 with fail;generalize (c.alloc (.cells (aP b e).toArray 53)).alloc (.cells (aP (au 101) false).toArray 53)=z at *
 go_wp2_with (refine lV 0 o.1 aK (by rw[x.out];omega) v ?_);refine(k z).mono ?_;rintro G B ⟨rfl,H⟩;have d:=Zd<|o.aC H;go_wp2_with fail;refine(s B d.2.2).mono ?_;rintro G l ⟨rfl,u⟩;have⟨D,E,F⟩:=dG l 79 25 P r;have w:=Zd D;have X:=Zd E;have p:=Zd<|(d.aC u).aC F;have Z:=Zs (c.heap.size+1+1<=l.heap.size) ((d.aC u).2.1.lt);go_upto_region 5 with(first|refine sA P w (by rw[r.out,ak]) (by rw[ak];exact dS) ?_);generalize b_ _ l.heap.size P=W3 at *
 have q:=Zd<|p.fin (au 101) false (ak 101);have y:=Zd<|n _ q.2;go_wp2_with (first|refine sV 0 (aP (au 101) false) p.2.1 (by rw[m.out];omega) (by rw[m.out];exact aK) C ?_);have O:=qG q.1 (by rw[m.out];exact aK);refine QB (v:=.tuple #[.agg (aP (au 101) false).toArray,N,I U]) ?_ rfl y;simp[results,results16,asAddr,Act.put,O]
def Qg (c:W)(pl:CPl 32 c)(pu:∀(l:V) (a:List Int) d,c.grownBy d none->jI d l a->yP a->a.length<=140737488351232->Calls prog 33 #[l] d (AZ d a))(l:V)(a:List Int)(hv:jI c l a)(hb:yP a)(ab:a.length<=140737488351232)(b:List Int)(f:Bool)(j:b.length=101)(aa:iI b)(i:bJ b=true)(k:xV a=0):Calls prog 16 #[bL b f,l] c (fu c (mV b a) (r_ b a) (nP b a) (kM b a)):=by
 have z:=Zd<|kT.new c b f;have s:=Zd λd=>fH b f j aa d;rw[i]at s;have v:=Zd λd (q:c.grownBy d none)=>pu l a d q (jy hv q) hb ab;unfold AZ at v;have u:=Zd<|Gw a;have E:=Zd λd (q:c.grownBy d none)=>pl b f j i (oJ a) (Gw a) (Aj a k) d q;have x:=Zd (show ∀d e,fO c.heap.size e d (qK b (oJ a))->c.grownBy e none->fu c (mV b a) (r_ b a) (nP b a) (kM b a) (.returned (.tuple #[bL (lH b (oJ a)) (mU (oJ a)),d,I 0])) e from λd e e g=>
  ⟨d,by rw[(qp i k).1,(qp i k).2.1,(qp i k).2.2.2],by rw[(qp i k).2.2.1];exact e,g⟩)
 have m:=Zd<|uD (oJ a) j;rw[k]at v;have Q:=Zd j;have r:=Zd<|aJ j f;have w:=Zd<|bU.all f j;have ZL:=Zd<|aJ (ak 101) false;have hz:=dM;have ae:=Gv;generalize fu c (mV b a) (r_ b a) (nP b a) (kM b a)=ad at *
 unfold bL at hz x s E ⊢;generalize oJ a=P at *
 go_enter func16,ntmps16;go_upto_region 1 with fail;generalize (c.alloc (.cells (aP b f).toArray 53)).alloc (.cells (aP (au 101) false).toArray 53)=X at *
 go_wp2_with (refine lV 0 z.1 aK (by rw[r.out];omega) w ?_);refine(s X).mono ?_;rintro G Y ⟨rfl,g1⟩;have t:=Zd<|z.aC g1;go_wp2_with fail;refine(v Y t.2.2).mono ?_;rintro G p ⟨rfl,H⟩;have⟨b1,b2,b3⟩:=dG p 79 25 P u;have K:=Zd b1;have M:=Zd b2;have n:=Zd<|(t.aC H).aC b3;have N2:=Zs (c.heap.size+1+1<=p.heap.size) ((t.aC H).2.1.lt);go_upto_region 4 with(first|refine sA P K (by rw[u.out,ak]) (by rw[ak];exact dS) ?_);generalize b_ _ p.heap.size P=F at *
 generalize p.heap.size=bp at *
 go_wp2_with (first|refine lV 0 n.1 aK (by rw[r.out];omega) w ?_|refine lA M (by rw[u.out];exact dS) ?_);refine(E F n.2.2).mono ?_;rintro G Z ⟨v4,rfl,o4,g4⟩;unfold bL;generalize lH b P=e at *
 generalize mU P=d at *
 generalize qK b P=L at *
 have B:=Zd<|n.aC g4;have R:=Zd<|o4.base (b':=c.heap.size+1+1) (show c.heap.size+1+1<=F.heap.size from n.2.1.lt);have C:=B.anL (m:=e) (t:=d) Q m;have o:=Zd C.1;have T:=Zd<|R.bH C.2 gO;have y:=Zd<|bO e d;have g:=Zd<|aJ m d;go_upto_region 7 with(first|refine sV 0 (aP e d) B.1 (by rw[g.out,r.out];omega) (by rw[g.out];exact aK) y ?_);generalize dz Z c.heap.size 0 (aP e d)=W5 at *
 have J:=Zd<|bU.all d m;have D:=Zd<|o.fin e d m;have U:=Zd<|T.bH (o.2.1.dQ (m:=e) (t:=d) (ak 101) m).2 gO;have O:=Zd<|x _ _ (U.base (b':=c.heap.size) gO) D.2;go_wp2_with (first|refine lV 0 o.1 aK (by rw[g.out];omega) J ?_|refine sV 0 (aP e d) o.2.1 (by rw[ZL.out,g.out];omega) (by rw[g.out];exact aK) y ?_);have ac:=qG D.1 (by rw[g.out];exact aK);refine QB (v:=.tuple #[.agg (aP e d).toArray,_,I 0]) ?_ rfl O;simp[results,results16,asAddr,Act.put,ac]
def ZG (c:bY w n T l)(b:w.grownBy w' z)(d:∀a,z=some a->n≠a):bY w' n T l:=by
 rcases z with _|a
 .exact c.aC b
 exact c.aH b (d a rfl)
def amC:(prog.info? 76).map (·.size)=some 8:=by kernel_rfl
def afP (g:W)(a0:Addr)(c0:Nat)(hW:rU g a0 c0)(a1:Addr)(c1:Nat)(hS:Steps g a1 c1)(a2:Addr)(c2:Nat)(hG:zV g a2 c2)(t:L)(ad:Bool)(hl:t.length=101)(hg:bJ t=true)(b:L)(hp:b.length=25)(z:jC b=true)  :
 Calls prog 32 #[bL t ad,.agg (aF b)] g (Nf g (lH t b) (mU b) (qK t b)):=by
 have M0:=Zd<|yX.new g t ad b;obtain⟨f,ac⟩:∃f,plF t b=f:=⟨_,rfl⟩;have⟨f1,f2⟩:=zu (p:=b) hl hg;rw[ac]at f1 f2;obtain⟨d,X⟩:∃d,UD b=d:=⟨_,rfl⟩;have nl:d.length=8:=by rw[<-X];exact xW b
 have ns:cZ d=true:=by rw[<-X];exact uz b z
 obtain⟨c,ah⟩:∃c,mU b=c:=⟨_,rfl⟩;have VA:=Zd λwr (D:g.grownBy wr none)=>vT (bM b 1 8) (aT _ _ _) a0 c0 wr (kC hW D);rw[(Ar z).1,(Ar z).2,X]at VA;obtain⟨i,ax⟩:∃i:Bool,(if aB b 0=1 then false else ad)=i:=⟨_,rfl⟩;have p:=Zd λa=>qo c d b f1 a;have P:∀a,a<=2->bJ (kY c d f b a)=true:=λa k=>nS c f1 f2 nl ns z a k;have OL:=Zd λa (k:a<=2)=>(wS c f1 f2 nl ns z a k).1;have af:=Zd (show c=false->∀(a:Nat),a<2->∀wr,g.grownBy wr none->Calls prog 29 #[bL (kY c d f b a) i,.agg (aF (d9 b a))] wr (Nf wr (nK c (kY c d f b a) (d9 b a)) i (yV c (kY c d f b a) (d9 b a)))from λe a k wr B=>by
  have D:=P a gO;have Y:=Bq wr a1 c1 (kS hS B) a2 c2 (ng hG B) (kY c d f b a) i (p a) (og (p a) D) (d9 b a) (nG b z a k);rw[e]at Y ⊢;rw[adv,adw];exact Y)
 have ag:=Zd (show c=true->∀(a:Nat),a<2->∀wr,Calls prog 83 #[bL (kY c d f b a) i] wr (fu wr (nK c (kY c d f b a) (d9 b a)) i (yV c (kY c d f b a) (d9 b a)) 0)from λe a k wr=>by
  have D:=P a gO;have Y:=PI (kY c d f b a) i (p a) (og (p a) D) D wr;rw[(oG (s:=i) D).2.1,(oG (s:=i) D).2.2.2]at Y;rw[e]at Y ⊢;rw[adu,ag7];exact Y)
 have an:=Zd λa=>Ai c (p a) (d9 b a);have XL:=Zd λa (k:a<2)=>(wR c (P a gO) (nG b z a k)).1;have am:=Zd λ(a:Nat) (k:a<2) wr=>Cu (bM (nK c (kY c d f b a) (d9 b a)) 0 8) d (aT _ _ _) nl (jM (Dq c (p a) (P a gO) (nG b z a k))) ns a wr;have AL:=Zd λa (k:a<2)=>(tO (bM (nK c (kY c d f b a) (d9 b a)) 0 8) d a (aT _ _ _) nl (jM (Dq c (p a) (P a gO) (nG b z a k))) ns).len;have ai:=Zd λ(a:Nat) (k:a<2) e wr (s:aY wr e (yV c (kY c d f b a) (d9 b a))) (sh:rD e (yV c (kY c d f b a) (d9 b a)))=>pF (iF (bM (nK c (kY c d f b a) (d9 b a)) 0 8) d a) (bM (nK c (kY c d f b a) (d9 b a)) 8 8) (AL a k) (aT _ _ _) e (yV c (kY c d f b a) (d9 b a)) wr s sh (by rw[XL.out a k];omega);have SN:=Zd (λ(a:Nat) (k:a<2)=>show(zn (iF (bM (nK c (kY c d f b a) (d9 b a)) 0 8) d a) (bM (nK c (kY c d f b a) (d9 b a)) 8 8) (yV c (kY c d f b a) (d9 b a))).length<=40 by
  have:=J8 (iF (bM (nK c (kY c d f b a) (d9 b a)) 0 8) d a) (bM (nK c (kY c d f b a) (d9 b a)) 8 8) (yV c (kY c d f b a) (d9 b a));rw[XL.out a k]at this;exact this)
 have S1:=Zd λ(a:Nat)=>show jd (nK c (kY c d f b a) (d9 b a)) 8 (GH (iF (bM (nK c (kY c d f b a) (d9 b a)) 0 8) d a) (bM (nK c (kY c d f b a) (d9 b a)) 8 8) (yV c (kY c d f b a) (d9 b a)))=kY c d f b (a+1)from rfl;have S2:=Zd λ(a:Nat)=>show Ny c d f b a++zn (iF (bM (nK c (kY c d f b a) (d9 b a)) 0 8) d a) (bM (nK c (kY c d f b a) (d9 b a)) 8 8) (yV c (kY c d f b a) (d9 b a))=Ny c d f b (a+1)from rfl;have E0:=Zs (kY c d f b 0=f) (rfl);have E1:=Zs (Ny c d f b 0=[]) (rfl);have ae:=Zd (show ∀e o,fO g.heap.size o e (Ny c d f b 2)->g.grownBy o none->Nf g (lH t b) (mU b) (qK t b) (.returned (.tuple #[bL ((jd (kY c d f b 2) 0 d).set 99 0) c,e])) o from λe o j B=>
  ⟨e,by unfold lH;rw[ah,X,ac],by unfold qK;rw[ah,X,ac];exact j,B⟩)
 have FR:=Zd λD=>qF D;have G:=Zd nl;have HP:=Zd hp;have HL:=Zd hl;have aa:=Zs (f=if aB b 0=1 then iY else t) (by rw[<-ac];rfl);have CL:=Zd<|aJ hl ad;have PS:=Zd λa (k:a<2)=>vJ b (9+8*a) 8 gO;have PV:=Zd<|vJ b 1 8 gO;have ZL:=Zd<|aJ (ak 101) false;have hz:=dM;obtain⟨O,ao⟩:∃O,aB b 0=O:=⟨_,rfl⟩;have a6:(O==2)=c:=by
  rw[<-ah,<-ao];unfold mU;by_cases B:aB b 0=2
  .rw[KN B];exact beq_iff_eq.2 B
  rw[KF B];exact beq_eq_false_iff_ne.2 B
 have KD:=Zd ao;have ab:=Zd ax;clear hg hl z hp f1 f2 nl ns X ah ao hW hS hG P ac ax;generalize Nf g (lH t b) (mU b) (qK t b)=a9 at *
 generalize kY c d f b=l at *
 generalize Ny c d f b=LO at *
 unfold bL at hz ae af ag FR ⊢;unfold jB at FR;go_enter func32,ntmps32;go_upto_region 1 with fail;generalize ((g.alloc (.cells (aP t ad).toArray 53)).alloc (.cells (aF b) 79)).alloc (.cells (aP (au 101) false).toArray 53)=W0 at *
 clear hz;have K:=M0.num 0 (by rw[HP.out];omega);rw[KD.out]at K;rw[KD.out]at aa ab;go_upto_if 14 with fail;go_cut []from 12 (λe=>yX g f i b e)
 case first=>
  by_cases k:O=1
  .have y:(O==1)=true:=beq_iff_eq.2 k;rw[Q9 k]at aa ab;clear k;go_wp2_with fail;refine(FR _).mono ?_;rintro r x ⟨rfl,u⟩;have n:=Zd<|M0.aC u;have j:=n.all (m:=iY) (t:=false) HL j5;have q:=Zs (yX g f i b (dz x g.heap.size 0 (aP iY false))) (by rw[aa.out,<-ab.out];exact j.1);have m:=Zd<|aJ j5 false;have w:=Zd<|bO iY false;clear M0 u j;generalize aP iY false=v at *
   go_wp2_with (first|refine sV 0 v n.1 (by rw[CL.out,m.out];omega) (by rw[m.out];exact aK) w ?_);go_meet;exact q
  have y:(O==1)=false:=beq_eq_false_iff_ne.2 k;rw[X9 k]at aa ab;clear k;go_wp2_with fail;go_meet;rw[aa.out,<-ab.out];exact M0
 case rest=>
 have q:=Zd hcut;clear hcut M0;go_upto_region 3 with fail;clear K;go_wp2_with (first|refine lV 1 q.2.1 dX (by rw[aN,HP.out];omega) PV ?_);refine(VA _ q.2.2.2).mono ?_;rintro r m ⟨rfl,w⟩;have⟨x,C,E⟩:=dG m 50 8 d G;have v:=Zd x;have B2:=Zd C;have u:=Zd<|(q.aC w).aC E;have n:=Zs (g.heap.size+1+1+1<=m.heap.size) ((q.aC w).2.2.1.lt);rw[uR]at v B2 u;clear w VA x C E q PV;go_upto_region 4 with(first|refine sA d v (by rw[G.out,ak]) (by rw[ak];exact dX) ?_);clear v;generalize b_ _ m.heap.size d=F at *
 generalize m.heap.size=y at *
 have N4:=Zs (y+1<=F.heap.size) (B2.lt);go_wp2_with fail;go_loopw [8,9] (λm f wr=>∃a:Nat,f=I a/\a<=2/\Hid (fO (y+1) wr m (LO a))/\Hid (yX g (l a) i b wr)/\Hid (bY wr y 50 d)/\Hid (y+1<=wr.heap.size)) (λ_ f _=>2-(intOf f).toNat)
 case atStart=>exact⟨0,rfl,QN _,by rw[E1.out];exact bN _ _,by rw[E0.out];exact u,B2,N4⟩
 case round=>
  obtain⟨a,rfl,k,hO,w,Z,hN⟩:=hrel;clear u B2 N4;by_cases M:a<2
  .have bd:(a:Int)<2:=gO;have A1:=Zd<|bU.all i (p a);have C1:=Zd<|aJ (p a) i;have K:=w.num 0 (by rw[HP.out];omega);rw[KD.out]at K;have U:=Zd<|an a;have PR:=Zd<|am a M;have MK:=Zd<|ai a M;have Q1:=Zd<|S1 a;have Q2:=Zd<|S2 a;have OK:=Zd<|OL a k;have SK:=Zd<|SN a M;have av:=Zd λr=>af r a M;have aw:=Zd λr=>ag r a M;have PU:=Zd<|PS a M;rw[show bM b (9+8*a) 8=d9 b a from rfl]at PU;clear an am ai S1 S2 OL SN af ag PS AL XL FR ae;have al:=Zd<|sS (iF (bM (nK c (l a) (d9 b a)) 0 8) d a) (bM (nK c (l a) (d9 b a)) 8 8) (yV c (l a) (d9 b a));generalize GH (iF (bM (nK c (l a) (d9 b a)) 0 8) d a) (bM (nK c (l a) (d9 b a)) 8 8) (yV c (l a) (d9 b a))=PP at *
   generalize zn (iF (bM (nK c (l a) (d9 b a)) 0 8) d a) (bM (nK c (l a) (d9 b a)) 8 8) (yV c (l a) (d9 b a))=LX at *
   generalize Nu (iF (bM (nK c (l a) (d9 b a)) 0 8) d a) (bM (nK c (l a) (d9 b a)) 8 8) (yV c (l a) (d9 b a))=x3 at *
   generalize iF (bM (nK c (l a) (d9 b a)) 0 8) d a=AK at *
   generalize yV c (l a) (d9 b a)=XK at *
   generalize nK c (l a) (d9 b a)=v at *
   have F:=Zd<|aJ U i;have IK:=Zd<|bO v i;have P0:=Zd<|bU.part (l:=v) i 0 8 (by rw[U.out];omega);have P8:=Zd<|bU.part (l:=v) i 8 8 (by rw[U.out];omega);go_upto_if 28 with fail;go_cut [10]from 22 to 60 (λf e=>fO (y+1) e f XK/\fO (y+1) e u8 (LO a)/\yX g v i b e/\bY e y 50 d/\y+1<=e.heap.size)
   case first=>
    rcases c with _|_
    .have aE:=Zd λD (s:dB wr D)=>av rfl D (ay w.2.2.2 s);go_upto_region 11 with fail;clear K;refine bW 9 (dB wr) 11 (by rfl) _ rfl (by kernel_rfl) λf=>?_;have e:=(aS wr);refine iN (hy:=by intro o m;(try dsimp only at m);exact bS rfl rfl (w.1.aC m) _ underlying53 rfl aK (by rw[C1.out];omega) _ A1) (v:=.agg (aP (l a) i).toArray) 0 e f λf=>?_;refine aZ 1 e f λf=>?_;refine aZ 2 e f λf=>?_;refine iN (hy:=by intro o m;(try dsimp only at m);go_simp;(try simp only[Nat.mul_comm]);(try with_reducible rfl)) (v:=.pointer (some ⟨g.heap.size+1,9+8*a,none⟩)) 3 e f λf=>?_;refine iN (hy:=by intro o m;(try dsimp only at m);exact bS rfl rfl (w.2.1.aC m) _ underlying76 rfl amC (by rw[aN,HP.out];omega) _ PU) (v:=.agg (aQ (d9 b a)).toArray) 4 e f λf=>?_;refine jY 5 f λt k=>?_;(try simp only[sZ]);go_simp;refine(aE _ e).mono ?_;rintro r w2 ⟨v2,rfl,Q,H⟩;have Q2:=Zd H;have C:=Zd<|Q.base (YM hN e.size);clear H Q;unfold bL;go_wp2_with fail;have x:=(aX e Q2);refine k.out _ _ (λ_=>x) λf=>?_;clear k;replace e:=x;clear x;(try simp only[sZ]);refine aZ 6 e f λf=>?_;refine aZ 7 e f λf=>?_;refine iB (i:=8) (v:=?bh) rfl (by kernel_rfl) f (λ_ _ _ s=>s) (Or.inl ⟨by rfl,?a5⟩) e λf=>?bi
     case a5=>(intro o _;go_simp;(try with_reducible rfl))
     (try simp only[sZ]);refine jY 9 f λt k=>?_;(try simp only[sZ]);have q:=Zd<|w.aC e;have j:=q.all (m:=v) (t:=i) (p a) U;have u:=Zd j.1;have T:=Zd<|(hO.out.aC e).bH j.2 (by have:=n.out;omega);have J:=Zd<|C.out.bH j.2 (by have:=n.out;omega);have E:=Zd<|(Z.out.aC e).aH j.2 (by have:=n.out;omega);have R:=Zd<|YM (YM hN e.size) j.2.size;clear j C;refine dD rfl 53 _ _ rfl g.heap.size 0 53 (aP (l a) i) (aP v i) rfl rfl q.1 (by rw[C1.out,F.out];omega) (by rw[F.out];exact aK) IK ?_;refine k.out _ _ (λs=>by cases s) λf=>?_;clear k e;(try simp only[sZ]);clear q Q2 w hO Z;generalize dz w2 g.heap.size 0 (aP v i)=w3 at *
     refine bI _ _ _ _ (by rfl) ?_;refine wpAny_take (i:=10) (v:=?bf) rfl (by kernel_rfl) (by kernel_rfl) (by kernel_rfl) (λ_ _ _ s=>s) (Or.inl ⟨by rfl,?a4⟩) ?bg
     case a4=>(intro o;go_simp;(try with_reducible rfl))
     (try simp only[sZ]);refine wm ?_;go_wp2_with fail;go_meet;exact⟨J,T,u,E,R⟩
    go_upto_region 10 with fail;clear K;go_wp2_with (first|refine lV 0 w.1 aK (by rw[C1.out];omega) A1 ?_);refine(aw (by trivial) _).mono ?_;rintro r w2 ⟨v2,rfl,Q,H⟩;have q:=Zd<|w.aC H;have C:=Zd<|Q.base hN;have j:=q.all (m:=v) (t:=i) (p a) U;have u:=Zd j.1;have T:=Zd<|(hO.out.aC H).bH j.2 (by have:=n.out;omega);have J:=Zd<|C.out.bH j.2 (by have:=n.out;omega);have E:=Zd<|(Z.out.aC H).aH j.2 (by have:=n.out;omega);have R:=Zd<|YM (YM hN H.size) j.2.size;clear j C w hO Z hN H Q;unfold bL;go_wp2_with (first|refine sV 0 (aP v i) q.1 (by rw[C1.out,F.out];omega) (by rw[F.out];exact aK) IK ?_);go_meet;exact⟨J,T,u,E,R⟩
   case rest=>
   have⟨aA,az,H,C,Q⟩:=hcut;have J:=Zd aA;have T:=Zd az;have u:=Zd H;have E:=Zd C;have R:=Zd Q;clear aA az H C Q w hO Z hN av aw K;clear A1 C1 PU;go_upto_region 12 with fail;refine bW 15 (dB wc) 16 (by rfl) _ rfl (by kernel_rfl) λf=>?_;have e:=(aS wc);refine aZ 0 e f λf=>?_;refine iN (hy:=by intro o m;(try dsimp only at m);exact bS rfl rfl (u.1.aC m) _ underlying50 rfl dX (by rw[F.out];omega) _ P0) (v:=.agg (aQ (bM v 0 8)).toArray) 1 e f λf=>?_;refine iN (hy:=by intro o m;(try dsimp only at m);exact yA (E.aC m) (by rw[G.out];exact dX)) (v:=.agg (aF d)) 2 e f λf=>?_;refine aZ 3 e f λf=>?_;refine aZ 5 e f λf=>?_;refine iN (hy:=by intro o m;(try dsimp only at m);exact bS rfl rfl (u.1.aC m) _ underlying50 rfl dX (by rw[F.out];omega) _ P8) (v:=.agg (aQ (bM v 8 8)).toArray) 6 e f λf=>?_;refine aZ 7 e f λf=>?_;refine jY 4 f λt k=>?_;(try simp only[sZ]);go_simp;refine(PR _).mono ?_;rintro r w4 ⟨rfl,q4⟩;have Q4:=Zd q4;clear q4;go_wp2_with fail;have x:=(aX e Q4);refine k.out _ _ (λ_=>x) λf=>?_;clear k;replace e:=x;clear x;(try simp only[sZ]);refine jY 8 f λt k=>?_;(try simp only[sZ]);go_simp;refine(MK u10 _ (J.aC e).ints (J.aC e).xJ).mono ?_;rintro r w5 ⟨v5,rfl,o5,q5⟩;have Q5:=Zd q5;have X5:=Zd<|o5.base (YM R e.size);clear q5 o5;go_wp2_with fail;have x:=(aX e Q5);refine k.out _ _ (λ_=>x) λf=>?_;clear k;replace e:=x;clear x;(try simp only[sZ]);refine aZ 9 e f λf=>?_;refine aZ 10 e f λf=>?_;refine aZ 11 e f λf=>?_;refine iB (i:=12) (v:=?bb) rfl (by kernel_rfl) f (λ_ _ _ s=>s) (Or.inl ⟨by rfl,?a3⟩) e λf=>?bc
   case a3=>(intro o _;go_simp;(try with_reducible rfl))
   (try simp only[sZ]);refine aZ 13 e f λf=>?_;refine aZ 14 e f λf=>?_;refine jY 15 f λt k=>?_;(try simp only[sZ]);have M5:=Zd<|u.aC e;have j:=M5.put 8 PP (by rw[al.out,U.out];omega);have C:=Zd j.1;have H:=Zd<|(T.out.aC e).bH j.2 (by have:=n.out;omega);have X6:=Zd<|X5.out.bH j.2 (by have:=n.out;omega);have B6:=Zd<|(E.out.aC e).aH j.2 (by have:=n.out;omega);have N6:=Zd<|YM (YM R e.size) j.2.size;rw[Q1.out]at C;clear j X5 Q1;refine dD rfl 50 _ _ rfl g.heap.size 8 53 (aP v i) (aQ PP) rfl rfl M5.1 (by rw[aN,al.out,F.out];omega) (by rw[aN,al.out];exact dX) (dO _) ?_;refine k.out _ _ (λs=>by cases s) λf=>?_;clear k e;(try simp only[sZ]);clear M5 u T E J Q5 Q4;generalize dz w5 g.heap.size 8 (aQ PP)=w6 at *
   refine bI _ _ _ _ (by rfl) ?_;refine wm ?_;clear PR MK P0 P8 M;go_upto_region 13 with fail;have LB:=Zs (((LO a).length+LX.length)*8<=140737488355328) (by rw[OK.out];have:=SK.out;omega);have XI:=Zd X6.ints;have XS:=Zd X6.xJ;go_wp2_with (at_builtin;refine dH (by rfl) _ _ rfl (y+1) _ _ (LO a) LX rfl rfl H XI XS LB N6 ?_);intro v7 w7 h7 g7;rw[Q2.out]at h7;have O7:=Zd h7;have Q:=Zd<|C.own g7 (λf r=>by have:=(H.lt f r).1;have:=n.out;omega);have B7:=Zd<|ZG B6 g7 (λf r=>by have:=(H.lt f r).1;omega);have N7:=Zd<|YM N6 g7.size;clear h7 g7 H C B6 N6 X6 Q2 XI XS;go_wp2_with fail;go_roundw
   case rel=>exact⟨a+1,by go_num,gO,O7,Q,B7,N7⟩
   case measure=>simp[intOf];omega
  obtain rfl:a=2:=gO;have C2:=Zd<|aJ (p 2) i;clear an am ai S1 S2 OL SN af ag PS AL XL FR;go_upto_region 14 with fail;refine wp_region_held_drew (S:=λD=>aW D (g.heap.size+1) 79 (aQ b)/\bY D y 50 d) (by kernel_rfl) ⟨w.2.1.aC (aS wr),Z.aC (aS wr)⟩ λe=>?_;refine aV (hy:=by intro o m;exact yA m.2 (by rw[G.out];exact dX)) (v:=.agg (aF d)) 0 e ?_;refine aV 1 e ?_;refine aV (hy:=by intro o m;have cc:=(m.1.cell 0).trans (Cm b 0 (by rw[HP.out];omega));rw[KD.out]at cc;go_simp;(try with_reducible rfl)) (v:=I O) 2 e ?_;refine aV (hy:=by intro o m;go_simp;(try simp only[a6]);(try with_reducible rfl)) (v:=.bool c) 3 e ?_;refine aV 4 e ?_;refine eU 5 λt k=>?_;(try simp only[sZ]);have R:=Zd<|w.aC (aS wr);have j:=R.put 0 d (by rw[G.out,p.out];omega);have C:=Zd j.1;have H:=Zd<|(hO.out.aC (aS wr)).bH j.2 (by have:=n.out;omega);have ap:=And.intro (e.1.aH j.2 gO) (e.2.aH j.2 (by have:=n.out;omega));clear j;refine dD rfl 50 _ _ rfl g.heap.size 0 53 (aP (l 2) i) (aQ d) rfl rfl R.1 (by rw[aN,G.out,C2.out];omega) (by rw[aN,G.out];exact dX) (dO _) ?_;refine k.out _ _ ap λe=>?_;clear k;(try simp only[sZ]);clear R ap;generalize dz wr.drew g.heap.size 0 (aQ d)=w6 at *
  have F:=Zs ((jd (l 2) 0 d).length=101) (by rw[dV];exact p 2);generalize jd (l 2) 0 d=m6 at *
  refine aV 6 e ?_;refine eU 7 λt k=>?_;(try simp only[sZ]);have U:=C.1.cell 99 (by rw[F.out];omega);have fk:=C.1.free 99;have Q:=Zd<|C.set 99 0 (by rw[F.out];omega);have O7:=Zd<|H.out.bH (aD w6 ⟨g.heap.size,99,none⟩ (I 0)) (by have:=n.out;simp;omega);have aq:=And.intro (e.1.aH (aD w6 ⟨g.heap.size,99,none⟩ (I 0)) (by simp)) (e.2.aH (aD w6 ⟨g.heap.size,99,none⟩ (I 0)) (by have:=n.out;simp;omega));go_simp;go_wp2_with fail;refine k.out _ _ aq λe=>?_;clear k;(try simp only[sZ]);clear U fk C H aq;generalize w6.setCell ⟨g.heap.size,99,none⟩ (I 0)=w7 at *
  have v:=Zs ((m6.set 99 0).length=101) (by rw[XB];exact F);generalize m6.set 99 0=E at *
  refine aV 8 e ?_;refine eU 9 λt k=>?_;(try simp only[sZ]);have U:=Q.1.cellS v;have fk:=Q.1.free 101;have J:=Zd<|Q.ah4 v c;have O8:=Zd<|O7.out.bH (aD w7 ⟨g.heap.size,101,none⟩ (.bool c)) (by have:=n.out;simp;omega);have ar:=And.intro (e.1.aH (aD w7 ⟨g.heap.size,101,none⟩ (.bool c)) (by simp)) (e.2.aH (aD w7 ⟨g.heap.size,101,none⟩ (.bool c)) (by have:=n.out;simp;omega));go_simp;go_wp2_with fail;refine k.out _ _ ar λe=>?_;clear k;(try simp only[sZ]);clear U fk Q O7 ar;generalize w7.setCell ⟨g.heap.size,101,none⟩ (.bool c)=w8 at *
  refine jX ?_;clear e;go_upto_region 15 with fail;have A8:=Zd<|bU.all c v;have x:=Zd<|aJ v c;have ON:=Zd<|bO E c;have T:=Zd<|J.fin E c v;have O9:=Zd<|O8.out.bH T.out.2.2 (by have:=n.out;omega);have FF:=Zd<|ae.out _ _ (O9.out.base (b':=g.heap.size) (by have:=n.out;omega)) T.2.1;clear ae O8 O9;go_wp2_with (first|refine lV 0 J.1 aK (by rw[x.out];omega) A8 ?_|refine sV 0 (aP E c) J.2.2.1 (by rw[ZL.out,x.out];omega) (by rw[x.out];exact aK) ON ?_);have a7:=qG T.1 (by rw[x.out];exact aK);refine QB (v:=.tuple #[.agg (aP E c).toArray,_]) ?_ rfl FF;simp[results,results32,asAddr,Act.put,a7]
def Ik (a:W)(b:Addr)(e:Nat)(k:rU a b e)(c:Addr)(f:Nat)(j:Steps a c f)(d:Addr)(g:Nat)(i:zV a d g):CPl 32 a:=λn p m l o hp h q a=>
 afP q b e (kC k a) c f (kS j a) d g (ng i a) n p m l o hp h
def FoldM (a b:W)(c:L):Prop:=bY b a.heap.size 3 c/\a.grownBy b none
def FoldM.set (c:FoldM w w' l)(a:Nat)(b:Int):FoldM w (w'.setCell (A w.heap.size a) (I b)) (l.set a b):=
 ⟨c.1.set a b,aG c.2 (aD _ (A w.heap.size a) _) (by simp)⟩
def FoldM.aC (b:FoldM w w' l)(a:w'.grownBy u none):FoldM w u l:=⟨b.1.aC a,ay b.2 a⟩
def foC (a:Int):Int:=fA ((a+2048) / 4096)
def Vp (i g:V)(b a:L)(c:W)(l:aY c i b)(k:aY c g a)(f:yG b a=false)(p:b.length<=1000000000000000000)(o:a.length<=1000000000000000000):Calls prog 63 #[i,g] c (gP c [] 1):=by
 obtain⟨m,q,rfl,t,_⟩:=l;obtain⟨n,r,rfl,u,_⟩:=k;have d:=Zd<|aM c none;by_cases e:b.length=a.length
 .have s:¬a.length<=80:=by
   intro j;unfold yG at f;simp[e,j]at f
  have j:(80:Int)<a.length:=gO;rw[e];go_enter func63,ntmps63;go_wp2_with fail;go_ret2;exact⟨_,rfl,bN _ _,d⟩
 have j:¬(b.length:Int)=a.length:=gO;go_enter func63,ntmps63;go_wp2_with fail;go_ret2;exact⟨_,rfl,bN _ _,d⟩
def Qi (g f:V)(d a:L)(b:W)(m:aY b g d)(l:aY b f a)(p:d.length=a.length)(u:a.length<=80)(e:okO d a=false):Calls prog 63 #[g,f] b (gP b [] 2):=by
 have c:=Zd<|cO g d b m gO;have j:=Zd<|cO f a b l gO;obtain⟨q,s,rfl,w,_⟩:=m;obtain⟨r,t,rfl,x,_⟩:=l;have i:=Zd<|aM b none;have v:(a.length:Int)<=80:=gO;rw[p]at c ⊢;rcases h:aL d with _|_
 .rw[h]at c;go_enter func63,ntmps63;go_wp2_with fail;refine c.mono ?_;rintro k n ⟨rfl,rfl⟩;go_wp2_with fail;go_ret2;exact⟨_,rfl,bN _ _,i⟩
 have o:aL a=false:=by unfold okO at e;rw[h]at e;simpa using e
 rw[h]at c;rw[o]at j;go_enter func63,ntmps63;go_wp2_with fail;refine c.mono ?_;rintro k n ⟨rfl,rfl⟩;go_wp2_with fail;refine j.mono ?_;rintro k n ⟨rfl,rfl⟩;go_wp2_with fail;go_ret2;exact⟨_,rfl,bN _ _,i⟩
def ZH (E D:V)(e c:L)(i:W)(Z:aY i E e)(R:aY i D c)(h1:e.length=c.length)(M:c.length<=80)(C:aL e=true)(B:aL c=true):Calls prog 63 #[E,D] i (gP i (f_ c.length (PO e c)) 0):=by
 have r:=Zd<|cO E e i Z gO;have x:=Zd<|cO D c i R gO;rw[C]at r;rw[B]at x;have RB:=Zd<|kJ e _ _ gO gO ((bD e).1 C);have l:=Zd<|kJ c _ _ gO gO ((bD c).1 B);obtain⟨ad,af,rfl,hc,Q⟩:=Z;obtain⟨ae,c',rfl,ag,P⟩:=R;have n:=Zd Q;have q:=Zd P;have F:=Zs (FoldM i (i.alloc (.cells (aF (au c.length)) 3)) (au c.length)) (⟨bY.new i 3 (au c.length),aj _ _ none⟩);have ac:=gU c.length gO;have h3:(c.length:Int)<=80:=gO;rw[h1]at r hc n ⊢;clear Q P C B;generalize O:c.length=N at *
 have HN:=Zd O;clear O;go_enter func63,ntmps63;go_wp2_with fail;refine r.mono ?_;rintro z w1 ⟨rfl,rfl⟩;go_wp2_with fail;refine x.mono ?_;rintro z u ⟨rfl,rfl⟩;clear r x;go_wp2_with fail;clear ac;generalize u.alloc (.cells (aF (au N)) 3)=W0 at *
 go_loopw [35] (λb wr=>∃(a:Nat) (d:L),b=I a/\a<=N/\Hid (zo c e N a 0 d)/\Hid (FoldM u wr d)) (λb _=>N-(intOf b).toNat)
 case atStart=>exact⟨0,au N,rfl,QN _,Wq c e N,F⟩
 case round=>
  obtain⟨a,d,rfl,hi,f,g⟩:=hrel;clear F;by_cases ah:a<N
  .obtain⟨al,rfl,o⟩:=q gO;have G:=aU g.2 (o a gO);have⟨H,J⟩:=l a;have i1:(a:Int)<N:=gO;have DI:decide ((a:Int)<N)=true:=by simp;omega
   clear o;obtain⟨p,y⟩:∃p,p=aB c a:=⟨_,rfl⟩;rw[<-y]at G H J;have K:=Zd y;clear y;go_wp2_with fail;go_loopw [42] (λi r=>∃(b:Nat) (d:L),i=I b/\b<=N/\Hid (zo c e N a b d)/\Hid (FoldM u r d)) (λi _=>N-(intOf i).toNat)
   case atStart=>exact⟨0,d,rfl,QN _,f,g⟩
   case round=>
    obtain⟨b,t,rfl,hk,k,m⟩:=hrel;clear f g G;by_cases ai:b<N
    .obtain⟨ar,rfl,o⟩:=n gO;have cy:=aU m.2 (o b gO);have⟨X,Y⟩:=RB b;have⟨p1,p2⟩:=sF p (aB e b) H J X Y;have k1:(b:Int)<N:=gO;by_cases w:a+b<N
     .have U:(a:Int)+b<N:=gO;have T:t.length=N:=k.1;have s:=m.1.cell (a+b) gO;have fd:=m.1.free (a+b);have⟨b1,b2⟩:=Ws k M RB l (a+b) w gO;have j:=Zd<|aej k w;have v:=Zd<|m.set (a+b) (aB t (a+b)+p*aB e b);rw[<-K.out]at j;clear k m o RB l n q;generalize aB e b=aa at *
      generalize aB t (a+b)=ab at *
      go_wp2_with fail;go_roundw
      case rel=>exact⟨b+1,_,by go_num,gO,j,v⟩
      case measure=>simp[intOf];omega
     have U:¬(a:Int)+b<N:=gO;have j:=Zd<|aav k w;clear k o RB l n q;generalize aB e b=aa at *
     go_wp2_with fail;go_roundw
     case rel=>exact⟨b+1,_,by go_num,gO,j,m⟩
     case measure=>simp[intOf];omega
    obtain rfl:b=N:=gO;have j:=Zd<|aek k;clear k RB l n q;go_wp2_with fail;go_roundw
    case rel=>exact⟨a+1,t,by go_num,gO,j,m⟩
    case measure=>simp[intOf];omega
  obtain rfl:a=N:=gO;have w:=Zd<|ael f;have o:=Zd λb (X:b<a)=>Ws f M RB l b X (Q6 _);have T:d.length=a:=f.1;have G:=g;clear f g RB l n q;go_wp2_with fail;go_loopw [68] (λi r=>∃(b:Nat) (k:L),i=I b/\b<=a/\Hid (agn a foC d b k)/\Hid (FoldM u r k)) (λi _=>a-(intOf i).toNat)
  case atStart=>exact⟨0,d,rfl,QN _,⟨⟨T,λi l=>gO⟩,λi l=>rfl⟩,G⟩
  case round=>
   obtain⟨b,k,rfl,X,f,g⟩:=hrel;clear G;by_cases Y:b<a
   .have U:k.length=a:=f.1.1;have s:=g.1.cell b gO;rw[f.out.2 b (Q6 _)]at s;have⟨b1,b2⟩:=o b Y;have j:=Zd<|aax f Y;have m1:(b:Int)<a:=gO;have t:=Zd λm=>jr (aB d b+2048) 12 gO gO gO m;rw[show((12:Nat):Int)=12 from rfl,show(2:Int)^12=4096 by decide]at t;have y:=Zd λm=>qA ((aB d b+2048) / 4096) m gO gO;rw[show fA ((aB d b+2048) / 4096)=foC (aB d b)from rfl]at y;clear f o w;generalize foC (aB d b)=ab at *
    generalize aB d b=p at *
    generalize (p+2048) / 4096=aa at *
    go_wp2_with fail;refine(t _).mono ?_;rintro z w3 ⟨rfl,J⟩;have H:=Zd<|g.aC J;clear J g s t;go_wp2_with fail;refine(y _).mono ?_;rintro z w4 ⟨rfl,K⟩;have m:=Zd<|H.aC K;clear K H y;have s:=m.1.cell b gO;have fd:=m.1.free b;have v:=Zd<|m.set b ab;clear m;generalize aB k b=am at *
    go_wp2_with fail;go_roundw
    case rel=>exact⟨b+1,_,by go_num,gO,j,v⟩
    case measure=>simp[intOf];omega
   obtain rfl:b=a:=gO;have y:=Zd (show k=f_ b (PO e c)from dL f.1.1 (λi l=>by
    rw[f.out.1.2 i l];show foC (aB d i)=PO e c i;rw[w.out i l];rfl))
   have U:k.length=b:=f.1.1;have m:=Di g.1 (Q6 _) gO;rw[U]at m;have H:=Zd g.2;have t:=Zd m;clear f o w g m;go_wp2_with fail;go_ret2;rw[y.out]at t;exact⟨_,rfl,t,H⟩
def ZI (f e:V)(b a:L)(c:W)(h:aY c f b)(g:aY c e a)(j:b.length<=1000000000000000000)(i:a.length<=1000000000000000000):Calls prog 63 #[f,e] c (gP c (J9 b a) (Qu b a)):=by
 rcases hs:yG b a with _|_
 .rw[show J9 b a=[] by unfold J9;rw[hs];simp,show Qu b a=1 by unfold Qu;rw[hs];rfl];exact Vp f e b a c h g hs j i
 have d:=hs;unfold yG at d;simp only[VL,decide_eq_true_eq]at d;rcases hk:okO b a with _|_
 .rw[show J9 b a=[] by unfold J9;rw[hk];simp,show Qu b a=2 by unfold Qu;rw[hs,hk];rfl];exact Qi f e b a c h g d.1 d.2 hk
 rw[show J9 b a=f_ a.length (PO b a) by unfold J9;rw[Q9 ⟨hs,hk⟩],show Qu b a=0 by unfold Qu;rw[hs,hk];rfl];unfold okO at hk;simp only[VL]at hk;exact ZH f e b a c h g d.1 d.2 hk.1 hk.2
def RingM (a b:W)(d:L)(c:Nat)(e:L):Prop:=bY b a.heap.size 69 d/\bY b c 3 e/\a.heap.size<c/\a.grownBy b none
def RingM.set (a:RingM w w' l n p)(b:Nat)(c:Int):RingM w (w'.setCell (A n b) (I c)) l n (p.set b c):=
 ⟨a.1.aH (aD _ (A n b) _) (by have:=a.2.2.1;simp;omega),a.2.1.set b c,a.2.2.1,aG a.2.2.2 (aD _ (A n b) _) (by have:=a.2.2.1;simp;omega)⟩
def acK (d:L)(a:Int)(g:¬(0<=a/\a<=80))(b:W):Calls prog 61 #[.agg (aF d),I a] b (gP b [] 1):=by
 have c:=Zd<|aj b (.cells (aF d) 69) none;by_cases e:a<0
 .go_enter func61,ntmps61;go_wp2_with fail;go_ret2;exact⟨_,rfl,bN _ _,c⟩
 have f:80<a:=gO;go_enter func61,ntmps61;go_wp2_with fail;go_ret2;exact⟨_,rfl,bN _ _,c⟩
def ZJ (c:List Int)(o:c.length=9)(a:Nat)(K:a<=80)(d:W):Calls prog 61 #[.agg (aF c),I a] d (gP d (zn c (au 8) (jV a)) (Nu c (au 8) (jV a))):=by
 have H:=gU a gO;have x:=pU;have r:=Zd (show RingM d ((d.alloc (.cells (aF c) 69)).alloc (.cells (aF (au a)) 3)) c (d.heap.size+1) (au a)from
  ⟨(bY.new d 69 c).aC (aj _ _ none),bY.new1 d _ 3 (au a),gO,ay (aj _ _ none) (aj _ _ none)⟩)
 have t:=Zd λwr b (f:aY wr b (jV a)) (z:rD b (jV a))=>pF c (au 8) o (ak 8) b (jV a) wr f z (by unfold jV;rw[cK];omega);have p:=sS c (au 8) (jV a);have n:(jV a).length=a:=cK _ _;generalize zn c (au 8) (jV a)=L at *
 generalize Nu c (au 8) (jV a)=F at *
 generalize GH c (au 8) (jV a)=P at *
 go_enter func61,ntmps61;go_wp2_with fail;generalize (d.alloc (.cells (aF c) 69)).alloc _=C at *
 go_loopw [21] (λe wr=>∃b:Nat,e=I b/\b<=a/\Hid (RingM d wr c (d.heap.size+1) (if b=0 then au a else jV a))) (λe _=>a-(intOf e).toNat)
 case atStart=>exact⟨0,rfl,QN _,r⟩
 case round=>
  obtain⟨b,rfl,G,e⟩:=hrel;by_cases J:b<a
  .have k:(b:Int)<a:=gO;by_cases i:b=0
   .subst i;rw[Q9 rfl]at e;have j:=e.2.1.cell 0 (by simp[au];omega);have l:=e.2.1.free 0;have g:=Zd<|e.set 0 4096;rw[one_set a gO]at g;rw[jU]at j;rw[show((0:Nat):Int)=0 from rfl]at k ⊢;go_wp2;go_roundw
    case rel=>exact⟨1,by go_num,gO,g⟩
    case measure=>simp[intOf];omega
   have g:¬(b:Int)=0:=gO;rw[X9 i]at e;go_wp2;go_roundw
   case rel=>exact⟨b+1,by go_num,gO,e⟩
   case measure=>simp[intOf];omega
  obtain rfl:b=a:=gO;have w:(if b=0 then au b else jV b)=jV b:=by
   split
   .rename_i f;subst f;rfl
   rfl
  rw[w]at e;have q:=Zd e.1;have g:=Di e.2.1 (Q6 _) (by rw[n];omega);rw[n]at g;have s:=Zd<|t wr (.slice (S (d.heap.size+1)) b b) g.ints g.xJ;have k:=Zd e.2.2.2;have x:=pU;go_wp2_with (first|refine lA q (by rw[o];exact bZ) ?_);refine s.mono ?_;rintro E B ⟨M,rfl,y,v⟩;have⟨u,D,m⟩:=dG B 50 8 P p;have i:=Zd u;have j:=Zd<|ay (ay k v) m;have l:=Zd<|(y.aC m).base (K4 k);rw[uR]at i j l;go_wp2_with (first|refine sA P i (by rw[p,ak]) (by rw[ak];exact bG) ?_);go_ret2;exact⟨_,rfl,l,j⟩
def ZN (b:L)(f:b.length=9)(a:Int)(d:W):Calls prog 61 #[.agg (aF b),I a] d (gP d (Vm b a) (Vq b a)):=by
 by_cases c:0<=a/\a<=80
 .rw[show Vm b a=zn b (au 8) (jV a.toNat)from Q9 c,show Vq b a=Nu b (au 8) (jV a.toNat)from Q9 c];have e:a=(a.toNat:Int):=gO;have:=ZJ b f a.toNat gO d;rw[<-e]at this;exact this
 rw[show Vm b a=[]from X9 c,show Vq b a=1 from X9 c];exact acK b a c d
def afR (b c:W)(e:L)(d:Nat)(a:Nat×Int×Int):Prop:=bY c b.heap.size 51 e/\bY c d 168 [(a.1:Int),a.2.1,a.2.2]/\b.heap.size<d/\b.grownBy c none
def afR.aC {c:Nat×Int×Int}(a:afR w w' l n c)(b:w'.grownBy u none):afR w u l n c:=⟨a.1.aC b,a.2.1.aC b,a.2.2.1,ay a.2.2.2 b⟩
def ZP (a c:L)(hh:a.length=80)(O:Nat)(ae:Array V)(b:L->L)(vt:V)(f:W)(am:∀d e,(callFunc O d).run prog e=.ok (.enter O d) e)(HF:Folds f O ae b)(ht:aY f vt c)(ai:c.length=40)(r1:aL c=true)(r2:aL a=true):Calls prog 64 #[.agg (aF a),.func (.func O) #[] ae,vt] f λl d=>l=.returned (if kV b a=true then zw (kE (om c b a) (oq b a) 60)else .tuple #[I 0,I 0,I 0,I 1])/\f.grownBy d none:=by
 generalize al:(if kV b a=true then zw (kE (om c b a) (oq b a) 60)else .tuple #[I 0,I 0,I 0,I 1])=RV;have ab:=Zd al;clear al;have G0:=Zd<|aj f (.cells (aF a) 51) none;have B0:=Zd<|bY.new f 51 a;have K:=Zd ht;have Y:=Zd<|cO vt c _ (aR ht G0) gO;have RH:=Zd (cO (.slice (S f.heap.size) 80 80) a _ (by
  have:=(B0);refine⟨some (A f.heap.size 0),80,by rw[hh],gO,λ_=>⟨_,rfl,λg d=>?_⟩⟩;rw[Addr.add_mid,WT];exact this.cell g d) gO)
 rw[r1]at Y;rw[r2]at RH;have M0:=Zs (afR f ((f.alloc (.cells (aF a) 51)).alloc (.cells (aF [20,0,0]) 168)) a (f.heap.size+1) (20,0,0)) (⟨B0.aC (aj _ _ none),bY.new1 f _ 168 [20,0,0],gO,ay G0 (aj _ _ none)⟩);have FO:=Zd HF;have ac:=Zd<|zU a hh;have PR:=Zd λd=>xP a d r2;have X:=Zd r1;have BD:=Zd<|aaw (om c b a) (oq b a) 42949672960 gO (aaL c b a) (aaM b a);have LG:=Zd<|Tf (om c b a) (oq b a);obtain⟨ad,aw,rfl,hc,_⟩:=ht;rw[ai]at Y K ⊢;have aq:=Dr (.func O) #[] ae;clear B0 G0 hc r1 r2 HF;go_enter func64,ntmps64;go_wp2_with fail;refine Y.mono ?_;rintro l w1 ⟨rfl,rfl⟩;go_wp2_with fail;refine RH.mono ?_;rintro l w1 ⟨rfl,rfl⟩;clear Y RH;go_wp2_with fail;clear aq;rw[show aF [20,0,0]=#[I 20,I 0,I 0]from rfl]at M0;generalize (f.alloc (.cells (aF a) 51)).alloc _=W0 at *
 generalize ao:f.heap.size+1=k at *
 clear ao;go_loopw [11] (λg wr=>∃d e:Nat,g=I d/\Hid (d=20+e)/\20<=d/\d<=80/\Hid (∀i,i<e->kg (b (kW a (20+i)))=true)/\Hid (afR f wr a k (kE (om c b a) (oq b a) e))) (λg _=>80-(intOf g).toNat)
 case atStart=>exact⟨20,0,rfl,rfl,gO,gO,λi j=>gO,M0⟩
 case round=>
  obtain⟨d,e,rfl,t,ap,az,aa,o⟩:=hrel;clear M0;by_cases hk:d<80
  .obtain⟨e1,e2⟩:=uh a d ap gO;have P1:=Zd<|ac d wr;rw[e1,e2]at P1;have G:=Zd o.1;have an:e<60:=by have:=t.out;omega
   have i1:(d:Int)<80:=gO;obtain⟨q1,q2,q3,q4⟩:=BD e;have F:=Zd λ(g:kg (b (kW a d))=false)=>aaN b a e an (by rw[<-t.out];exact g);have U:=Zd (λ(g:kg (b (kW a d))=true)=>(show ∀i,i<e+1->kg (b (kW a (20+i)))=true from λi j=>by
    by_cases j:i=e
    .subst j;rw[<-t.out];exact g
    exact aa i gO))
   have w:=Zd λi=>Ji (om c b a) (oq b a) e i;have s:=Zd λi=>Te (om c b a) (oq b a) e i;rw[<-t.out]at w s;have P:=Zd λ(g:kg (b (kW a d))=true)=>(show om c b a d=fU c (b (kW a d)) 40 by unfold om;rw[X.out,g];rfl);have R:=Zd λ(g:kg (b (kW a d))=true)=>(show oq b a d=fU (b (kW a d)) (b (kW a d)) 40 by unfold oq;rw[Q9 g]);have ag:=Zd<|PR d;clear e1 e2 aa BD LG ac PR;go_wp2_with (first|refine lA G (by rw[hh];exact amA) ?_);refine P1.mono ?_;rintro l w2 ⟨v2,rfl,o2,g2⟩;have F1:=Zd<|FO w2 v2 (kW a d) (ay o.2.2.2 g2) o2.ints o2.xJ (mR a d) ag;have M2:=Zd<|o.aC g2;clear o2 g2 o G P1 ag FO;generalize om c b a d=j at *
   generalize oq b a d=m at *
   generalize b (kW a d)=i at *
   go_wp2_with fail;refine F1.mono ?_;rintro l w3 ⟨v3,rfl,i3,b3,g3⟩;have q:=Zd i3;have v:=Zd<|M2.aC g3;clear g3 M2 F1;obtain⟨av,c3,rfl,ax,ar⟩:=i3;clear ar am;by_cases M:i.length=40
   .rw[M]at q ⊢;have y:=Zd<|cO _ i w3 q gO;rcases hr:aL i with _|_
    .rw[hr]at y;have E:=Zd<|F (by unfold kg;rw[hr];simp);have J:=Zd v.2.2.2;clear hr F U w s P R q v K;go_wp2_with fail;refine y.mono ?_;rintro l w4 ⟨rfl,rfl⟩;clear y;go_wp2_with fail;(try simp only[Exit.inBlock,Exit.then]);refine QB (jl rfl _ _ _) rfl ?_;exact⟨by rw[<-ab.out,E.out];rfl,J⟩
    rw[hr]at y;have gd:kg i=true:=by unfold kg;rw[hr];simp[M]
    have GD:=Zd<|U gd;have Q:=Zd<|P gd;have T:=Zd<|R gd;have D1:=Zd<|AR _ _ c i w3 (aR K v.2.2.2) q gO gO X hr;have D2:=Zd λn (ah:w3.grownBy n none)=>AR _ _ i i n (aR q ah) (aR q ah) gO gO hr hr;rw[ai,<-Q.out]at D1;rw[M,<-T.out]at D2;have cB:j<=42949672960:=by rw[Q.out];have:=n_ c i X hr 40;omega
    have cA:-42949672960<=j:=by rw[Q.out];have:=n_ c i X hr 40;omega
    have eB:m<=42949672960:=by rw[T.out];have:=n_ i i hr hr 40;omega
    have eA:0<=m:=by rw[T.out];exact Fp i 40
    clear hr F U P R Q T q gd;go_wp2_with fail;refine y.mono ?_;rintro l w4 ⟨rfl,rfl⟩;clear y;go_wp2_with fail;refine D1.mono ?_;rintro l w5 ⟨rfl,g5⟩;have M5:=Zd<|v.aC g5;have af:=Zd<|D2 w5 g5;clear g5 v D1 D2;go_wp2_with fail;refine af.mono ?_;rintro l w6 ⟨rfl,g6⟩;have n:=Zd<|M5.aC g6;clear g6 M5 af;have C:=n.2.1.cell 1 (by simp);have D:=n.2.1.cell 2 (by simp);rw[show aB [((kE (om c b a) (oq b a) e).1:Int),(kE (om c b a) (oq b a) e).2.1,(kE (om c b a) (oq b a) e).2.2] 1=(kE (om c b a) (oq b a) e).2.1 from rfl]at C;rw[show aB [((kE (om c b a) (oq b a) e).1:Int),(kE (om c b a) (oq b a) e).2.1,(kE (om c b a) (oq b a) e).2.2] 2=(kE (om c b a) (oq b a) e).2.2 from rfl]at D;have u:=Zd<|Br j m (kE (om c b a) (oq b a) e).2.1 (kE (om c b a) (oq b a) e).2.2 gO gO gO gO w6;by_cases hC:0<j
    .rcases g:Bz j m (kE (om c b a) (oq b a) e).2.1 (kE (om c b a) (oq b a) e).2.2 with _|_
     .rw[g]at u;have H:=Zd<|s (λy=>by rw[g]at y;cases y.2);clear s w g;generalize (kE (om c b a) (oq b a) e).2.1=z at *
      generalize (kE (om c b a) (oq b a) e).2.2=B at *
      go_wp2_with fail;refine u.mono ?_;rintro l w7 ⟨rfl,x⟩;have p:=Zd<|n.aC x;clear x n u C D;go_wp2_with fail;go_roundw
      case rel=>exact⟨d+1,e+1,by go_num,by have:=t.out;show d+1=20+(e+1);omega,gO,gO,GD,by rw[H.out];exact p⟩
      case measure=>simp[intOf];omega
     rw[g]at u;have H:=Zd<|w ⟨hC,g⟩;clear s w g;generalize kE (om c b a) (oq b a) e=p3 at *
     obtain⟨Z,z,B⟩:=p3;dsimp only at C D q1 q2 q3 q4;go_wp2_with fail;refine u.mono ?_;rintro l w7 ⟨rfl,x⟩;have G:=Zd<|n.1.aC x;have p:=Zd<|n.2.1.aC x;have r:=Zd n.2.2.1;have GM:=Zd<|ay n.2.2.2 x;clear x n u C D;have x0:=p.cell 0 (by simp);have x1:=p.cell 1 (by simp);have x2:=p.cell 2 (by simp);rw[show aB [(Z:Int),z,B] 0=(Z:Int)from rfl]at x0;rw[show aB [(Z:Int),z,B] 1=z from rfl]at x1;rw[show aB [(Z:Int),z,B] 2=B from rfl]at x2;have y0:=p.free 0;have y1:=p.free 1;have y2:=p.free 2;have B8:=Zs (bY (((w7.setCell (A k 0) (I (d:Int))).setCell (A k 1) (I j)).setCell (A k 2) (I m)) k 168 [(d:Int),j,m]) (((p.set 0 (d:Int)).set 1 j).set 2 m);have H8:=Zd<|((G.out.aH (aD w7 (A k 0) (I (d:Int))) (by have:=r.out;simp;omega)).aH (aD _ (A k 1) (I j)) (by have:=r.out;simp;omega)).aH (aD _ (A k 2) (I m)) (by have:=r.out;simp;omega);have G8:=Zd<|aG (aG (aG GM.out (aD w7 (A k 0) (I (d:Int))) (by have:=r.out;simp;omega)) (aD _ (A k 1) (I j)) (by have:=r.out;simp;omega)) (aD _ (A k 2) (I m)) (by have:=r.out;simp;omega);have M8:=Zs (afR f _ a k (d,j,m)) (⟨H8,B8,r,G8⟩);clear G p r GM B8 H8 G8;go_wp2_with fail;go_roundw
     case rel=>exact⟨d+1,e+1,by go_num,by have:=t.out;show d+1=20+(e+1);omega,gO,gO,GD,by rw[H.out];exact M8⟩
     case measure=>simp[intOf];omega
    have H:=Zd<|s (λy=>absurd y.1 hC);clear s w u;have p:j<=0:=gO;generalize (kE (om c b a) (oq b a) e).2.1=z at *
    generalize (kE (om c b a) (oq b a) e).2.2=B at *
    go_wp2_with fail;go_roundw
    case rel=>exact⟨d+1,e+1,by go_num,by have:=t.out;show d+1=20+(e+1);omega,gO,gO,GD,by rw[H.out];exact n⟩
    case measure=>simp[intOf];omega
   have g:¬(i.length:Int)=40:=gO;have E:=Zd<|F (by unfold kg;simp[M]);have J:=Zd v.2.2.2;clear M F U w s P R q v K;go_wp2_with fail;(try simp only[Exit.inBlock,Exit.then]);refine QB (jl rfl _ _ _) rfl ?_;exact⟨by rw[<-ab.out,E.out];rfl,J⟩
  obtain rfl:d=80:=gO;obtain rfl:e=60:=by have:=t.out;omega
  have E:=Zd<|GV b a aa;have i:=o.2.1.cell 0 (by simp);have C:=o.2.1.cell 1 (by simp);have D:=o.2.1.cell 2 (by simp);have g:=Zs (zw (kE (om c b a) (oq b a) 60)=.tuple #[I ((kE (om c b a) (oq b a) 60).1:Int),I (kE (om c b a) (oq b a) 60).2.1,I (kE (om c b a) (oq b a) 60).2.2,I 0]) (rfl);rw[show aB [((kE (om c b a) (oq b a) 60).1:Int),(kE (om c b a) (oq b a) 60).2.1,(kE (om c b a) (oq b a) 60).2.2] 0=((kE (om c b a) (oq b a) 60).1:Int)from rfl]at i;rw[show aB [((kE (om c b a) (oq b a) 60).1:Int),(kE (om c b a) (oq b a) 60).2.1,(kE (om c b a) (oq b a) 60).2.2] 1=(kE (om c b a) (oq b a) 60).2.1 from rfl]at C;rw[show aB [((kE (om c b a) (oq b a) 60).1:Int),(kE (om c b a) (oq b a) 60).2.1,(kE (om c b a) (oq b a) 60).2.2] 2=(kE (om c b a) (oq b a) 60).2.2 from rfl]at D;have J:=Zd o.2.2.2;clear o aa FO ac PR BD LG am K;generalize (kE (om c b a) (oq b a) 60).1=j at *
  generalize (kE (om c b a) (oq b a) 60).2.1=m at *
  generalize (kE (om c b a) (oq b a) 60).2.2=n at *
  rw[show((80:Nat):Int)=80 from rfl];go_wp2_with fail;go_quiet (fail);go_wp2_with fail;(try simp only[Exit.inBlock,Exit.then]);refine QB (jl rfl _ _ _) rfl ?_;exact⟨by rw[<-ab.out,E.out,Q9 rfl,g.out];rfl,ay J (dY _ _ none)⟩
def ZR (H:Value)(d:L)(c:Nat)(hn:c<=40)(b:World)(z:aY b H d)(r:d.length=40)(D:iI d):Calls prog 113 #[H,I (c:Int)] b λw a=>w=.returned (.slice (S b.heap.size) 40 40)/\bY a b.heap.size 3 (late d c)/\b.grownBy a none:=by
 have j:=Zd λwr (l:b.grownBy wr none)=>aR z l;have v:=Zs (bY (b.alloc (.cells (aF (au 40)) 3)) b.heap.size 3 (au 40)/\b.grownBy (b.alloc (.cells (aF (au 40)) 3)) none) (⟨bY.new b 3 (au 40),aj _ _ none⟩);obtain⟨ad,ac,rfl,R,_⟩:=z;have t:=Zd r;rw[r]at j ⊢;have F:=gU 40 gO;rw[show((40:Nat):Int)=40 from rfl]at F;have o:=Zd D;have k:=Zd λf=>(show fM d c f=if c<=f then fA (aB d (f-c))else 0 from rfl);clear R r D;go_enter func113,ntmps113;go_wp2_with fail;clear F;generalize b.alloc (.cells (aF (au 40)) 3)=W0 at *
 go_loopw [10] (λf wr=>∃(a:Nat) (e:L),f=I a/\a<=40/\Hid (MQ 40 (fM d c) a e)/\Hid (bY wr b.heap.size 3 e/\b.grownBy wr none)) (λf _=>40-(intOf f).toNat)
 case atStart=>exact⟨0,au 40,rfl,QN _,Ij 40 _,v⟩
 case round=>
  obtain⟨a,e,rfl,hm,f,g⟩:=hrel;clear v;by_cases M:a<40
  .have i1:(a:Int)<40:=gO;have E:e.length=40:=f.1.1;by_cases G:c<=a
   .have T:(c:Int)<=a:=gO;have U:=j wr g.2;have⟨ab,c',x,Q,B⟩:=U;simp only[Value.slice.injEq]at x;obtain⟨rfl,P,rfl⟩:=x;obtain⟨aa,rfl,C⟩:=B (by rw[t.out];omega);have O:=C (a-c) (by rw[t.out];omega);have⟨X,Y⟩:=o (a-c);have q:=Zd<|qA (aB d (a-c)) wr X Y;have n:=k a;rw[Q9 G]at n;rw[<-n]at q;have p:=Zd<|MR f M;have u:=Zd λW (l:wr.grownBy W none)=>(show bY W b.heap.size 3 e/\b.grownBy W none from⟨g.1.aC l,ay g.2 l⟩);have J1:(a:Int)-(c:Int)=((a-c:Nat):Int):=gO;have i3:((a-c:Nat):Int)<40:=gO;clear P Q B C f g n o k j;have J:=Zd E;clear E;generalize fM d c a=s at *
    generalize aB d (a-c)=af at *
    generalize a-c=Z at *
    go_wp2_with fail;refine q.mono ?_;rintro w m ⟨rfl,y⟩;have i:=Zd<|u m y;have cd:=i.1.cell a (by rw[J.out];omega);have fd:=i.1.free a;have K:=Zs (bY (m.setCell (A b.heap.size a) (I s)) b.heap.size 3 (e.set a s)/\b.grownBy (m.setCell (A b.heap.size a) (I s)) none) (⟨i.1.set a _,aG i.2 (aD m (A b.heap.size a) _) (Q6 _)⟩);clear q y u i O;generalize aB e a=ae at *
    go_wp2_with fail;go_roundw
    case rel=>exact⟨a+1,_,by go_num,gO,p,K⟩
    case measure=>simp[intOf];omega
   have T:¬(c:Int)<=a:=gO;have p:=Zd<|MW f (by rw[k.out a,X9 G]);clear f;go_wp2_with fail;go_roundw
   case rel=>exact⟨a+1,_,by go_num,gO,p,g⟩
   case measure=>simp[intOf];omega
  obtain rfl:a=40:=gO;have m:=Zs (e=late d c) (fB f.1);have i:=Zd g;clear f g j o k;rw[show((40:Nat):Int)=40 from rfl];go_wp2_with fail;go_ret;rw[m.out]at i;exact⟨rfl,i.1,i.2⟩
def ZT (b:L)(a:Nat):(late b a).length=40:=cK _ _
def akU {L:List Int}(a:bY w n 3 L)(b:L.length=40):aY w (.slice (S n) 40 40) L:=by have:=rX a 40 gO;rw[b]at this;exact this
def acL (a b:L):(¬(a.length=40/\b.length=40)/\QD a b=1/\NJ a b=[])\/((a.length=40/\b.length=40)/\aL a=false/\QD a b=2/\NJ a b=[])\/((a.length=40/\b.length=40)/\aL a=true/\aL b=false/\QD a b=2/\NJ a b=[])\/((a.length=40/\b.length=40)/\aL a=true/\aL b=true/\QD a b=0/\NJ a b=tgL a b):=by
 by_cases c:a.length=40/\b.length=40
 .rcases ht:aL a with _|_
  .exact .inr (.inl ⟨c,rfl,by unfold QD;rw[Q9 c,ht];rfl,by unfold NJ;rw[X9 (by rw[ht];simp)]⟩)
  rcases hr:aL b with _|_
  .exact .inr (.inr (.inl ⟨c,rfl,rfl,by unfold QD;rw[Q9 c,ht,hr];rfl,by unfold NJ;rw[X9 (by rw[ht,hr];simp)]⟩))
  exact .inr (.inr (.inr ⟨c,rfl,rfl,by unfold QD;rw[Q9 c,ht,hr];rfl,by unfold NJ;rw[Q9 (by rw[ht,hr];exact⟨c.1,c.2,rfl⟩)]⟩))
 exact .inl ⟨c,X9 c,by unfold NJ;rw[X9 (λa=>c ⟨a.1,a.2.1⟩)]⟩
def Qk (q s:Value)(b a:L)(f:World)(i:aY f q b)(n:aY f s a)(F:b.length<=1000000000000000000)(Q:a.length<=1000000000000000000)(aa:iI a):Calls prog 67 #[q,s] f (gP f (NJ b a) (QD b a)):=by
 rcases acL b a with⟨c,l,m⟩|⟨c,p,l,m⟩|⟨c,p,E,l,m⟩|⟨c,p,E,l,m⟩
 .rw[l,m];obtain⟨y,B,rfl,_,_⟩:=i;obtain⟨x,z,rfl,_,_⟩:=n;generalize b.length=d at *
  generalize a.length=e at *
  by_cases g:d=40
  .have j:((e:Int) != 40)=true:=by simp;omega
   subst g;go_enter func67,ntmps67;go_wp2_with fail;go_ret2;exact⟨_,rfl,bN _ _,aM _ _⟩
  have j:((d:Int) != 40)=true:=by simp;omega
  go_enter func67,ntmps67;go_wp2_with fail;go_ret2;exact⟨_,rfl,bN _ _,aM _ _⟩
 .rw[l,m];have e:=Zd<|cO q b f i F;rw[p]at e;obtain⟨y,B,rfl,_,_⟩:=i;obtain⟨x,z,rfl,_,_⟩:=n;rw[c.1]at e;rw[c.1,c.2];go_enter func67,ntmps67;go_wp2_with fail;refine e.mono ?_;rintro o R ⟨rfl,rfl⟩;go_wp2_with fail;go_ret2;exact⟨_,rfl,bN _ _,aM _ _⟩
 .rw[l,m];have e:=Zd<|cO q b f i F;have j:=Zd<|cO s a f n Q;rw[p]at e;rw[E]at j;obtain⟨y,B,rfl,_,_⟩:=i;obtain⟨x,z,rfl,_,_⟩:=n;rw[c.1]at e;rw[c.2]at j;rw[c.1,c.2];go_enter func67,ntmps67;go_wp2_with fail;refine e.mono ?_;rintro o R ⟨rfl,rfl⟩;go_wp2_with fail;refine j.mono ?_;rintro o r ⟨rfl,rfl⟩;go_wp2_with fail;go_ret2;exact⟨_,rfl,bN _ _,aM _ _⟩
 rw[l,m];have e:=Zd<|cO q b f i F;have j:=Zd<|cO s a f n Q;have J:=Zd λ(g:Nat) (hn:g<=40) W (C:f.grownBy W none)=>ZR s a g hn W (aR n C) c.2 aa;have w:=Zd λ(g:Nat) W (k:Nat) (C:f.grownBy W none) (ac:bY W k 3 (late a g))=>AR q (.slice (S k) 40 40) b (late a g) W (aR i C) (akU ac (ZT a g)) gO (by rw[ZT];omega) p (aaB a g);rw[c.1]at w;have U:=Zd λg=>aji b a g;rw[p]at e;rw[E]at j;obtain⟨y,B,rfl,_,_⟩:=i;obtain⟨x,z,rfl,_,_⟩:=n;rw[c.1]at e w;rw[c.2]at j J;rw[c.1,c.2];go_enter func67,ntmps67;go_wp2_with fail;refine e.mono ?_;rintro o R ⟨rfl,rfl⟩;go_wp2_with fail;refine j.mono ?_;rintro o r ⟨rfl,rfl⟩;go_wp2_with fail;go_loopw [6,7] (λe c wr=>∃(d:Nat),c=I d/\d<=40/\Hid (fO r.heap.size wr e (f_ d (QC b a)))/\Hid (r.grownBy wr none)) (λ_ c _=>40-(intOf c).toNat)
 case atStart=>exact⟨0,rfl,QN _,bN _ _,aM _ _⟩
 case round=>
  obtain⟨d,rfl,hm,P,v⟩:=hrel;by_cases ad:d<40
  .have i1:(d:Int)<40:=gO;have Z:=Zd<|J d hm wr v;have T:=Zs (f_ (d+1) (QC b a)=f_ d (QC b a)++[QC b a d]) (by unfold f_;rw[List.range_succ];simp);have LN:=Zd<|cK d (QC b a);go_wp2_with fail;refine Z.mono ?_;rintro o w3 ⟨rfl,k3,D⟩;have G:=Zd<|w d w3 wr.heap.size (ay v D) k3;rw[U.out]at G;have X:=Zd<|ay v D;have O3:=Zd<|P.aC D;generalize QC b a d=u at *
   go_wp2_with fail;refine G.mono ?_;rintro o t ⟨rfl,M⟩;have H:=Zd<|ay X M;have K:=Zd<|O3.aC M;have SZ:=Zs (r.heap.size<=(t.alloc (.cells #[I u] 3)).heap.size) (YM H.size (aj t (.cells #[I u] 3) none).size);go_wp2_with (at_builtin;refine dH (by rfl) _ _ rfl r.heap.size _ (.slice (S t.heap.size) 1 1) (f_ d (QC b a)) [u] rfl rfl (K.aC (aj _ _ none)) (uj t u) (.inr ⟨_,_,rfl⟩) (by rw[LN.out];simp;omega) SZ ?_);intro v5 w5 O g5;rw[<-T.out]at O;have O5:=Zd O;have ga:=aj t (.cells #[I u] 3) none;have ab:∀k,u6.ownBlock=some k->r.heap.size<=k:=λk a=>(K.lt k a).1;have Y:=Zd<|gV (ay H ga) g5 ab;go_wp2;go_roundw
   case rel=>exact⟨d+1,by go_num,gO,O5,Y⟩
   case measure=>simp[intOf];omega
  obtain rfl:d=40:=gO;have u:=P;have t:=v;rw[show((40:Nat):Int)=40 from rfl];go_wp2_with fail;go_ret2;exact⟨_,rfl,u,t⟩
def acO:(prog.info? 76).map (·.size)=some 8:=by kernel_rfl
def z8u:aF (au 8)=#[I 0,I 0,I 0,I 0,I 0,I 0,I 0,I 0]:=rfl
def Gx (a:bY w n 3 l)(b:l.length=40):aY w (.slice (S n) 40 40) l:=by refine⟨some (A n 0),40,by rw[b],gO,λ_=>⟨_,rfl,λc b=>?_⟩⟩;rw[Addr.add_mid,WT,a.cell c b]
def anM (b a:L)(e:Int)(c:b.length=8)(d:a.length=4):bM ((jd b 2 a).set 6 e) 2 4=a:=by refine(dL d (λa b=>?_)).symm;rw[iM _ _ _ (by rw[dV,c];omega),nO,gT _ _ _ _ (by rw[c];omega),pO,show 2+a-2=a by omega]
def akZ (a:L)(f:a.length=4)(d b e c:Int):(((jd (((au 8).set 0 d).set 1 b) 2 a).set 6 e).set 7 c)=[d,b,aB a 0,aB a 1,aB a 2,aB a 3,e,c]:=by
 match a,f with
 | [g,h,i,j],_=>rfl
def afV (f:Nat)(e:V)(c:List Int)(d:V)(b:List Int)(a:W)(t:a.cell? (A f 0)=some e)(i:aY a e c)(o:aY a d b)(m:c.length<=1000000000000000000)(l:b.length<=1000000000000000000):Calls prog 62 #[d,.pointer (S f)] a λg j=>∃f,g=.returned f/\fO a.heap.size j f (J9 c b)/\a.grownBy j none:=by
 have j:=Zd<|ZI e d c b a i o m l;obtain⟨q,r,rfl,_,_⟩:=i;generalize J9 c b=L at *
 generalize Qu c b=s at *
 go_enter func62,ntmps62;go_wp2_with fail;refine j.mono ?_;rintro g v ⟨u,rfl,p,n⟩;have I:=Zd p;have k:=Zd n;go_wp2_with fail;go_ret;exact⟨_,rfl,I,k⟩
def acP (a:Array V)(b:W):(callFunc 62 a).run prog b=.ok (.enter 62 a) b:=by kernel_rfl
def Nj (e c f:L)(d:Nat)(b:L):Prop:=b.length=40/\(∀a,a<d->aB b a=aaO e c f a)/\∀a,d<=a->aB b a=aB (Kz e c f) a
def Vu (b a c:L):Nj b a c 0 (Kz b a c):=⟨(vQ b a c).1,λa b=>gO,λa _=>rfl⟩
def Z_ {b:L}(a:Nj l p r n b)(d:n<40):Nj l p r (n+1) (b.set n (aaO l p r n)):=by
 refine⟨by rw[XB];exact a.1,λb c=>?_,λb c=>?_⟩
 .rw[iM _ _ _ (by rw[a.1];exact d)];by_cases c:b=n
  .rw[Q9 c,c]
  rw[X9 c];exact a.2.1 b gO
 rw[iM _ _ _ (by rw[a.1];exact d),nO];exact a.2.2 b gO
def acQ {b:L}(a:Nj l p r 40 b):b=Cc l p r:=dL a.1 (λc b=>a.2.1 c b)
def anN (a:W)(L:List Int)(c:V)(b:W):Prop:=fO a.heap.size b c L/\a.grownBy b none
structure ChB (w W:World) (m a:L) (s:Bool) (br:Nat) (vr:Value):Prop where
 mem:bU W w.heap.size m s
 zZ:bY W (w.heap.size+1) 69 a
 res:iQ W (w.heap.size+1+1) 76 (au 8)
 rng:W.cell? ⟨br,0,none⟩=some vr
 ring:aY W vr (qW a)
 Ie:w.grownBy W none
def ChB.aC {W:World}(b:ChB w W l p s n x)(a:W.grownBy w' none):ChB w w' l p s n x:=⟨b.mem.aC a,b.zZ.aC a,b.res.aC a,aU a b.rng,aR b.ring a,ay b.Ie a⟩
def Qc (W:World)(b c:Nat)(d e:L)(a:World):Prop:=W.grownBy a none/\bY a b 3 d/\iQ a c 76 e
def Qc.aC {W:World}(c:Qc W n b l p w)(a:w.grownBy w' none):Qc W n b l p w':=⟨ay c.1 a,c.2.1.aC a,c.2.2.aC a⟩
def Qc.anO {W:World}(c:Qc W n b l p w)(f:W.heap.size<=n)(e:b≠n)(a:Nat)(d:Int):Qc W n b (l.set a d) p (w.setCell (A n a) (I d)):=
 ⟨aG c.1 (aD w (A n a) _) f,c.2.1.set a d,c.2.2.aH (aD w (A n a) _) e⟩
def Qc.ace {W:World}(c:Qc W n b l p w)(g:W.heap.size<=b)(e:n≠b)(a:Nat)(d:Int)(f:a<p.length):Qc W n b l (p.set a d) (w.setCell (A b a) (I d)):=
 ⟨aG c.1 (aD w (A b a) _) g,c.2.1.aH (aD w (A b a) _) e,c.2.2.set a d f⟩
def Qc.amv {W:World}(d:Qc W n b l p w)(g:W.heap.size<=b)(e:n≠b)(c:Nat)(a:L)(f:c+a.length<=p.length):Qc W n b l (jd p c a) (dz w b c (aQ a)):=by have:=d.2.2.put c a f;exact⟨aG d.1 this.2 g,d.2.1.aH this.2 e,this.1⟩
def Qm (i:World)(a1:Addr)(c1:Nat)(hS:Steps i a1 c1)(a2:Addr)(c2:Nat)(hG:zV i a2 c2)(a:L)(p:Bool)(hm:a.length=101)(hg:bJ a=true)(b:L)(e:j6 b)(vx:Value)(c:L)(hx:aY i vx c)(xl:c.length=40)(xr:aL c=true):Calls prog 28 #[bL a p,.agg (aF b),vx] i (jB i (.agg (aF (WW a b c)))):=by
 have bb:=Zs (∀t,i.grownBy t none->jB i (.agg (aF (WW a b c))) (.returned (.agg (aF (WW a b c)))) t) (λt a5=>⟨rfl,a5⟩);have M:=Zd (show bU (((i.alloc (.cells (aP a p).toArray 53)).alloc (.cells (aF b) 69)).alloc (.cells #[I 0,I 0,I 0,I 0,I 0,I 0,I 0,I 0] 76)) i.heap.size a p/\bY (((i.alloc (.cells (aP a p).toArray 53)).alloc (.cells (aF b) 69)).alloc (.cells #[I 0,I 0,I 0,I 0,I 0,I 0,I 0,I 0] 76)) (i.heap.size+1) 69 b/\iQ (((i.alloc (.cells (aP a p).toArray 53)).alloc (.cells (aF b) 69)).alloc (.cells #[I 0,I 0,I 0,I 0,I 0,I 0,I 0,I 0] 76)) (i.heap.size+1+1) 76 (au 8)/\i.grownBy (((i.alloc (.cells (aP a p).toArray 53)).alloc (.cells (aF b) 69)).alloc (.cells #[I 0,I 0,I 0,I 0,I 0,I 0,I 0,I 0] 76)) none from by
  refine⟨((bU.new i a p).aC (aj _ _ none)).aC (aj _ _ none),?_,?_,ay (ay (aj _ _ none) (aj _ _ none)) (aj _ _ none)⟩
  .have:=(bY.new (i.alloc (.cells (aP a p).toArray 53)) 69 b).aC (aj _ (.cells #[I 0,I 0,I 0,I 0,I 0,I 0,I 0,I 0] 76) none);simpa using this
  have:=iQ.new ((i.alloc (.cells (aP a p).toArray 53)).alloc (.cells (aF b) 69)) 76 (au 8);rw[z8u]at this;simpa using this)
 have HX:=Zd λwr (u:i.grownBy wr none)=>aR hx u;obtain⟨co,cu,rfl,b5,_⟩:=hx;rw[xl]at HX b5 ⊢;have XL:=Zd xl;have XR:=Zd<|(bD c).1 xr;have MK:=Zd λd wr (B:aY wr d (au 40)) (sh:rD d (au 40))=>pF b (bM a 8 8) e.len (aT _ _ _) d (au 40) wr B sh (by rw[ak];omega);rw[show zn b (bM a 8 8) (au 40)=Pq a b from rfl]at MK;have P:=Zd<|sS b (bM a 8 8) (au 40);have ah:=Zd λf=>show rD (.slice (some ⟨f,0,none⟩) 40 40) (au 40)from .inr ⟨_,_,by rw[ak]⟩;have RG:=Zd λwr=>ZN b e.len 40 wr;rw[show Vm b 40=qW b from rfl]at RG;have ZK:=Zd<|TQ hg e;have RK:=Zd<|sH e;have TK:=Zd<|vQ a b c;have UK:=Zd<|oK a b c;have R:=Zd λW E r (B:ChB i W a b p E r) d (s:L) (hl:aY W d s) (ll:s.length=40)=>afV E r (qW b) d s W B.rng B.ring hl (by rw[(sH e).1];omega) gO;have a7:=Zd λ(s:L) (ll:s.length=40) (lr:aL s=true)=>FQ e ll lr;have Y:=Zd λW E r (B:ChB i W a b p E r) f (it:aY W f (Kz a b c))=>ZP (bM a 16 80) (Kz a b c) (aT _ _ _) 62 #[.pointer (some ⟨E,0,none⟩)] (UF b) f W acP (λj d s u g k ll l=>(R j E r (B.aC u) d s g ll).mono (λn t ⟨m,d,k,g⟩=>⟨m,d,k.ints,by rw[(FQ e ll l).1];omega,g⟩)) it (vQ a b c).1 (vQ a b c).2 (FX hg);rw[Q9 (aaP hg e),show kE (om (Kz a b c) (UF b) (bM a 16 80)) (oq (UF b) (bM a 16 80)) 60=yQ a b c from rfl]at Y;have PB:=Jo a b c;have PC:=W_ a b c;have U:=Zd λwr (u:i.grownBy wr none)=>Na (yQ a b c).2.1 (yQ a b c).2.2 a2 c2 wr gO gO gO gO (ng hG u);rw[show PW (yQ a b c).2.1 (yQ a b c).2.2=KA a b c from rfl]at U;have PA:=Zd λwr=>zU (bM a 16 80) (aT _ _ _) ((yQ a b c).1:Int) wr;have bf:=Zs ((lW (bM a 16 80) ((yQ a b c).1:Int)).length=40) (by rw[(agQ a b c).1];exact mR _ _);have bg:=Zs (J9 (qW b) (lW (bM a 16 80) ((yQ a b c).1:Int))=VP a b c) (rfl);have VK:=Zd<|FZ c hg e;have TG:=Zd λf r wr (h1:aY wr f (Cc a b c)) (g:aY wr r (qW b))=>Qk f r (Cc a b c) (qW b) wr h1 g (by rw[(oK a b c).1];omega) (by rw[(sH e).1];omega) (qD (sH e).2.1);rw[show NJ (Cc a b c) (qW b)=Ev a b c from rfl]at TG;have DK:=Zd<|F4 (m:=a) c e;have FW:=Zd λvd r wr (h1:aY wr vd (Ev a b c)) (g:aY wr r (qW b))=>acN vd r (Ev a b c) (qW b) wr h1 g (by rw[(F4 (m:=a) c e).2.2.1];omega) (by rw[(sH e).1];omega) (λk=>by have:=ajj (F4 (m:=a) c e).2.2.2 k;omega);rw[show Kr (Ev a b c) (qW b) (mJ (Ev a b c) (qW b))=qX a b c from rfl,show N8 (Ev a b c) (qW b) (mJ (Ev a b c) (qW b))=yR a b c from rfl]at FW;have XK:=Zd<|Ce (m:=a) c e;have BU:=Zd λwr=>En (qX a b c) (Ce (m:=a) c e).1 (yR a b c) 4096 wr;rw[show Pp (qX a b c) (yR a b c) 4096=Dh a b c from rfl]at BU;have OK:=Zd<|TV (m:=a) c e;have KO:=Zs (J9 (qW b) (Dh a b c)=wT a b c) (rfl);have KK:=Zd<|kZ (m:=a) c e;have D1:=Zd λf Q wr (h1:aY wr f (Cc a b c)) (g:aY wr Q (wT a b c))=>AR f Q (Cc a b c) (wT a b c) wr h1 g (by rw[(oK a b c).1];omega) (by rw[(oK a b c).1,(kZ (m:=a) c e).1];omega) (oK a b c).2 (kZ (m:=a) c e).2.1;rw[(oK a b c).1]at D1;have D2:=Zd λQ wr (g:aY wr Q (wT a b c))=>AR Q Q (wT a b c) (wT a b c) wr g g (by rw[(kZ (m:=a) c e).1];omega) (Q6 _) (kZ (m:=a) c e).2.1 (kZ (m:=a) c e).2.1;rw[(kZ (m:=a) c e).1]at D2;have b9:=Dt (Cc a b c) (wT a b c) (oK a b c).2 (kZ (m:=a) c e).2.1;have ca:=Dt (wT a b c) (wT a b c) (kZ (m:=a) c e).2.1 (kZ (m:=a) c e).2.1;have GO:=Zd λwr (u:i.grownBy wr none)=>Nc (4096*fU (Cc a b c) (wT a b c) 40) (fU (wT a b c) (wT a b c) 40) a1 c1 wr (kS hS u) gO gO;rw[show Py (4096*fU (Cc a b c) (wT a b c) 40) (fU (wT a b c) (wT a b c) 40)=P7 a b c from rfl]at GO;have O:=Zd<|akZ (qX a b c) XK.1 (((yQ a b c).1:Int)-20) (KA a b c) (yR a b c) (P7 a b c);rw[show[((yQ a b c).1:Int)-20,KA a b c,aB (qX a b c) 0,aB (qX a b c) 1,aB (qX a b c) 2,aB (qX a b c) 3,yR a b c,P7 a b c]=WW a b c from rfl]at O;have GB:0<=KA a b c/\KA a b c<=7:=aaQ _ _;obtain⟨l,a4⟩:∃l:Nat,KA a b c=(l:Int):=⟨(KA a b c).toNat,gO⟩;have GT:=Zd λwr (u:i.grownBy wr none)=>ng hG u;have UN:=Zd (λf=>show fA (aB (Kz a b c) f-fA ((aB (VP a b c) f*jG l+8192) / 16384))=aaO a b c f by
  unfold aaO Es;rw[Q9 GB,a4,show((l:Nat):Int).toNat=l by omega])
 have ce:=wK l;have LA:=Zd e.len;have CM:=Zd<|aJ hm p;have P8:=Zd<|bU.part (l:=a) p 8 8 gO;have PX:=Zd<|bU.part (l:=a) p 16 80 gO;have bC:=gU 40 gO;rw[show((40:Nat):Int)=40 from rfl]at bC;rw[a4]at U O;have cG:l<=7:=gO;have T0:=Zs (∀k,k<40->aB (Kz a b c) k=fA (aB c k-aB (Pq a b) k)) (λk d=>dP _ _ _ d);have TF:=Zs (∀v,jF 40 (λk=>fA (aB c k-aB (Pq a b) k)) 40 v->v=Kz a b c) (λv B=>fB B);have TS:=Zd<|iP 40 (λk=>fA (aB c k-aB (Pq a b) k));have US:=Zd<|Vu a b c;clear hS hG hm hg e xl xr a4 GB;generalize jB i (.agg (aF (WW a b c)))=cf at *
 unfold zw at Y;generalize WW a b c=T at *
 generalize GH b (bM a 8 8) (au 40)=Z at *
 generalize Nu b (bM a 8 8) (au 40)=cy at *
 generalize Vq b 40=cA at *
 generalize yQ a b c=PP at *
 obtain⟨G,pc,pe⟩:=PP;simp only at Y U PA bf bg PB PC O VK;generalize Fj (G:Int)=cB at *
 generalize lW (bM a 16 80) (G:Int)=PL at *
 generalize Pq a b=ab at *
 generalize QD (Cc a b c) (qW b)=cC at *
 generalize yU (Ev a b c) (qW b)=cD at *
 generalize Og (qX a b c) (yR a b c) 4096=cE at *
 unfold bL at *
 go_enter func28,ntmps28;go_upto_region 1 with fail;generalize ((i.alloc (.cells (aP a p).toArray 53)).alloc (.cells (aF b) 69)).alloc (.cells #[I 0,I 0,I 0,I 0,I 0,I 0,I 0,I 0] 76)=o at *
 have BM:=Zd M.1;have BA:=Zd M.2.1;go_cut [7,8,9]from 29 (λd e e j=>anN o ab d j)
 case first=>
  refine wp_region_held_drew (S:=dB o) (by kernel_rfl) (aS _) λd=>?_;refine aV (hy:=by intro t j;exact yA (BA.aC j) (by rw[LA.out];exact bZ)) (v:=.agg (aF b)) 0 d ?_;refine aV 1 d ?_;refine aV (hy:=by intro t j;exact bS rfl rfl (BM.aC j) _ underlying50 rfl dX (by rw[CM.out];omega) _ P8) (v:=.agg (aQ (bM a 8 8)).toArray) 2 d ?_;refine qN 3 9 (λs g=>?K) λs g=>?X
  case K=>
   (try simp only[sZ]);go_simp;go_wp2_with fail;refine g.out _ _ (dZ d (.cells (aF (au 40)) 3)) λd=>?_;clear g;have m:=Zs (bY ((o.alloc (.cells (aF (au 40)) 3)).drew) o.heap.size 3 (au 40)) (bY.new o.drew 3 (au 40));generalize (o.alloc (.cells (aF (au 40)) 3)).drew=C at *
   (try simp only[sZ]);refine qN 4 9 (λs g=>?b1) λs g=>?b2
   case b1=>
    (try simp only[sZ]);go_simp;refine(MK _ _ (Gx m (ak 40)) (ah _)).mono ?_;rintro n y ⟨J,rfl,z,F⟩;have H:=Zd F;have w:=Zd<|z.base (b':=o.heap.size) (K4 d);clear F z;go_wp2_with fail;refine g.out _ _ (aX d H) λd=>?_;clear g;have m:=Zd<|m.aC H;(try simp only[sZ]);refine aV 5 d ?_;refine aV 6 d ?_;refine aV 7 d ?_;refine aV 8 d ?_;refine eU 9 λs g=>?_;(try simp only[sZ]);go_simp;go_wp2_with fail;have D:=Zs (o.heap.size<=y.heap.size) (by first|exact Q6 _|exact K4 d);refine g.out _ _ (dZ d (.cells #[I 0,I 0,I 0,I 0,I 0,I 0,I 0,I 0] 50)) λd=>?_;clear g;have q:=Zs (bY (y.alloc (.cells #[I 0,I 0,I 0,I 0,I 0,I 0,I 0,I 0] 50)) y.heap.size 50 (au 8)) (bY.new y 50 (au 8));have m:=Zd<|m.aC (aj y (.cells #[I 0,I 0,I 0,I 0,I 0,I 0,I 0,I 0] 50) none);have w:=Zd<|w.aC (aj y (.cells #[I 0,I 0,I 0,I 0,I 0,I 0,I 0,I 0] 50) none);generalize y.alloc (.cells #[I 0,I 0,I 0,I 0,I 0,I 0,I 0,I 0] 50)=cq at *
    (try simp only[sZ]);refine aV 10 d ?_;refine eU 11 λs g=>?_;(try simp only[sZ]);refine eH rfl 50 _ _ rfl (y.heap.size) (au 8) Z rfl rfl q (by rw[P.out,ak]) (by rw[ak];exact bG) ?_;have x:=bF (rs':=Z) q (by rw[P.out,ak]);refine g.out _ _ (jq d x.2 D) λd=>?_;clear g;have m:=Zd<|m;have w:=Zd<|w.aH x.2 q (by decide);(try simp only[sZ]);refine aV 12 d ?_;refine jX ?_;go_wp2_with fail;go_meet;exact⟨w,d⟩
   case b2=>
    (try simp only[sZ]);go_simp;go_wp2_with fail;have D:=Zs (o.heap.size<=C.heap.size) (by first|exact Q6 _|exact K4 d);refine g.out _ _ (dZ d (.cells #[I 0,I 0,I 0,I 0,I 0,I 0,I 0,I 0] 50)) λd=>?_;clear g;have q:=Zs (bY (C.alloc (.cells #[I 0,I 0,I 0,I 0,I 0,I 0,I 0,I 0] 50)) C.heap.size 50 (au 8)) (bY.new C 50 (au 8));have m:=Zd<|m.aC (aj C (.cells #[I 0,I 0,I 0,I 0,I 0,I 0,I 0,I 0] 50) none);generalize C.alloc (.cells #[I 0,I 0,I 0,I 0,I 0,I 0,I 0,I 0] 50)=H at *
    (try simp only[sZ]);refine eU 4 λs g=>?_;(try simp only[sZ]);go_simp;refine(MK _ _ (Gx m (ak 40)) (ah _)).mono ?_;rintro n cr ⟨J,rfl,z,F⟩;have y:=Zd F;have w:=Zd<|z.base (b':=o.heap.size) (K4 d);clear F z;go_wp2_with fail;refine g.out _ _ (aX d y) λd=>?_;clear g;have q:=Zd<|q.aC y;have m:=Zd<|m.aC y;(try simp only[sZ]);refine aV 5 d ?_;refine aV 6 d ?_;refine aV 7 d ?_;refine aV 8 d ?_;refine aV 10 d ?_;refine eU 11 λs g=>?_;(try simp only[sZ]);refine eH rfl 50 _ _ rfl (C.heap.size) (au 8) Z rfl rfl q (by rw[P.out,ak]) (by rw[ak];exact bG) ?_;have x:=bF (rs':=Z) q (by rw[P.out,ak]);refine g.out _ _ (jq d x.2 D) λd=>?_;clear g;have m:=Zd<|m;have w:=Zd<|w.aH x.2 q (by decide);(try simp only[sZ]);refine aV 12 d ?_;refine jX ?_;go_wp2_with fail;go_meet;exact⟨w,d⟩
  case X=>
   (try simp only[sZ]);go_simp;go_wp2_with fail;have D:=Zs (o.heap.size<=o.heap.size) (by first|exact Q6 _|exact K4 d);refine g.out _ _ (dZ d (.cells #[I 0,I 0,I 0,I 0,I 0,I 0,I 0,I 0] 50)) λd=>?_;clear g;have q:=Zs (bY ((o.alloc (.cells #[I 0,I 0,I 0,I 0,I 0,I 0,I 0,I 0] 50)).drew) o.heap.size 50 (au 8)) (bY.new o.drew 50 (au 8));generalize (o.alloc (.cells #[I 0,I 0,I 0,I 0,I 0,I 0,I 0,I 0] 50)).drew=y at *
   (try simp only[sZ]);refine eU 3 λs g=>?_;(try simp only[sZ]);go_simp;go_wp2_with fail;refine g.out _ _ (dZ d (.cells (aF (au 40)) 3)) λd=>?_;clear g;have m:=Zs (bY (y.alloc (.cells (aF (au 40)) 3)) y.heap.size 3 (au 40)) (bY.new y 3 (au 40));have q:=Zd<|q.aC (aj y (.cells (aF (au 40)) 3) none);generalize y.alloc (.cells (aF (au 40)) 3)=H at *
   (try simp only[sZ]);refine eU 4 λs g=>?_;(try simp only[sZ]);go_simp;refine(MK _ _ (Gx m (ak 40)) (ah _)).mono ?_;rintro n cs ⟨J,rfl,z,F⟩;have C:=Zd F;have w:=Zd<|z.base (b':=o.heap.size) (K4 d);clear F z;go_wp2_with fail;refine g.out _ _ (aX d C) λd=>?_;clear g;have q:=Zd<|q.aC C;have m:=Zd<|m.aC C;(try simp only[sZ]);refine aV 5 d ?_;refine aV 6 d ?_;refine aV 7 d ?_;refine aV 8 d ?_;refine aV 10 d ?_;refine eU 11 λs g=>?_;(try simp only[sZ]);refine eH rfl 50 _ _ rfl (o.heap.size) (au 8) Z rfl rfl q (by rw[P.out,ak]) (by rw[ak];exact bG) ?_;have x:=bF (rs':=Z) q (by rw[P.out,ak]);refine g.out _ _ (jq d x.2 D) λd=>?_;clear g;have m:=Zd<|m;have w:=Zd<|w.aH x.2 q (by decide);(try simp only[sZ]);refine aV 12 d ?_;refine jX ?_;go_wp2_with fail;go_meet;exact⟨w,d⟩
 case rest=>
 obtain⟨C,q⟩:=hcut;obtain⟨gz,cw,rfl,_,_,_⟩:=C.form (by rw[ZK.out.1];omega);rw[ZK.out.1]at C ⊢;have F:=Zd C;have m:=Zs (bU wc i.heap.size a p/\bY wc (i.heap.size+1) 69 b/\iQ wc (i.heap.size+1+1) 76 (au 8)/\i.grownBy wc none) (⟨M.1.aC q,M.2.1.aC q,M.2.2.1.aC q,ay M.2.2.2 q⟩);clear C q M BM BA MK P ah P8;go_wp2_with (first|refine lA m.2.1 (by rw[LA.out];exact bZ) ?_);refine(RG _).mono ?_;rintro n w ⟨r,rfl,D,y⟩;have N2:=Zs (i.heap.size+1+1+1<=w.heap.size) (by have:=(m.2.2.1.aC y).lt;omega);have H:=Zd (show ChB i (w.alloc (.cells #[r] 26)) a b p w.heap.size r from by
  have u:=ay y (aj w (.cells #[r] 26) none);exact⟨m.1.aC u,m.2.1.aC u,m.2.2.1.aC u,by rw[aI (dF w (.cells #[r] 26))];rfl,aR D.ints (aj w _ none),ay m.2.2.2 u⟩)
 have IZ:=Zd<|aR F.ints (ay y (aj w (.cells #[r] 26) none));obtain⟨gr,J,K,_,_,_⟩:=D.form (by rw[RK.out.1];omega);rw[RK.out.1]at K;subst K;clear D y RG m F;have N3:=Zs (w.heap.size+1=(w.alloc (.cells #[.slice (some ⟨gr,0,none⟩) 40 J] 26)).heap.size) (by simp);go_upto_region 3 with fail;generalize w.alloc (.cells #[.slice (some ⟨gr,0,none⟩) 40 J] 26)=x at *
 generalize w.heap.size=E at *
 have am:=Zs (bY (x.alloc (.cells (aF (au 40)) 3)) x.heap.size 3 (au 40)/\x.grownBy (x.alloc (.cells (aF (au 40)) 3)) none) (⟨bY.new x 3 (au 40),aj _ _ none⟩);go_upto_region 5 with fail;clear bC;generalize x.alloc (.cells (aF (au 40)) 3)=W4 at *
 generalize X:x.heap.size=z at am ⊢;have NT:=Zs (x.heap.size<=z) gO;clear X;go_wp2_with fail;go_loopw [47] (λk wr=>∃(f:Nat) (v:L),k=I (f:Int)/\f<=40/\Hid (jF 40 (λk=>fA (aB c k-aB ab k)) f v)/\Hid (bY wr z 3 v/\x.grownBy wr none)) (λk _=>40-(intOf k).toNat)
 case atStart=>exact⟨0,au 40,rfl,QN _,TS,am⟩
 case round=>
  obtain⟨f,v,rfl,hk,C,m⟩:=hrel;clear am TS;by_cases y:f<40
  .have i1:(f:Int)<40:=gO;obtain⟨ax,rfl,cx⟩:=kX (HX _ (ay H.Ie m.2)) f (by rw[XL.out];exact y);obtain⟨az,b4,cz⟩:=kX (aR IZ m.2) f (by rw[ZK.out.1];exact y);cases b4;rw[Addr.add_mid,WT]at cz;have xb:=XR f (by rw[XL.out];exact y);have zb:=(bD ab).1 ZK.2 f (by rw[ZK.out.1];exact y);have BT:=Zd m.1;have GW:=Zd m.2;have RL:=Zd C.1;have NF:=Zd<|eD C y;obtain⟨D,X⟩:∃D,fA (aB c f-aB ab f)=D:=⟨_,rfl⟩;rw[X]at NF;have EN:=Zd X;clear C m X R a7 Y U PA TG FW BU D1 D2 GO GT UN HX TF US O;generalize aB c f=J at *
   generalize aB ab f=K at *
   have W1:=eG (J-K) gO gO;go_upto_region 8 with fail;refine bW 13 (dB wr) 14 (by rfl) _ rfl (by kernel_rfl) λe=>?_;have d:=(aS wr);refine aZ 0 d e λe=>?_;refine aZ 1 d e λe=>?_;refine aZ 2 d e λe=>?_;refine aZ 3 d e λe=>?_;refine aZ 4 d e λe=>?_;refine iN (hy:=by intro t j;(try dsimp only at j);have cc:=aU j cx;go_simp;(try with_reducible rfl)) (v:=I J) 5 d e λe=>?_;refine aZ 6 d e λe=>?_;refine aZ 7 d e λe=>?_;refine aZ 8 d e λe=>?_;refine iN (hy:=by intro t j;(try dsimp only at j);have cc:=aU j cz;go_simp;(try with_reducible rfl)) (v:=I K) 9 d e λe=>?_;refine iN (hy:=by intro t j;(try dsimp only at j);go_simp;(try simp only[W1])) (v:=I (J-K)) 10 d e λe=>?_;refine jY 11 e λs g=>?_;(try simp only[sZ]);go_simp;refine(qA (J-K) _ gO gO).mono ?_;rintro n w1 ⟨rfl,q1⟩;have Q1:=Zd q1;clear q1;rw[EN.out];go_wp2_with fail;have q:=(aX d Q1);refine g.out _ _ (λ_=>q) λe=>?_;clear g;replace d:=q;clear q;(try simp only[sZ]);refine aZ 12 d e λe=>?_;refine jY 13 e λs g=>?_;(try simp only[sZ]);have F:=Zd<|BT.aC d;have cd:=F.cell f (by rw[RL.out];exact y);have fd:=F.free f;have NM:=Zs (bY (w1.setCell ⟨z,f,none⟩ (I D)) z 3 (v.set f D)/\x.grownBy (w1.setCell ⟨z,f,none⟩ (I D)) none) (⟨F.set f D,aG (ay GW d) (aD w1 ⟨z,f,none⟩ _) NT⟩);generalize aB v f=a5 at cd;go_simp;go_wp2_with fail;refine g.out _ _ (λB=>by cases B) λe=>?_;clear g d;(try simp only[sZ]);clear cd fd F Q1;generalize w1.setCell ⟨z,f,none⟩ (I D)=w2 at *
   refine bI _ _ _ _ (by rfl) ?_;refine wm ?_;clear BT GW;go_wp2_with fail;go_roundw
   case rel=>exact⟨f+1,_,by go_num,gO,NF,NM⟩
   case measure=>first|(simp[intOf];done)|(simp[intOf];omega)
  obtain rfl:f=40:=gO;rw[show((40:Nat):Int)=40 from rfl];obtain rfl:=TF _ C;have BT:=Zd m.1;have BW:=Zs (Qc x z wr.heap.size (Kz a b c) (au 8) (wr.alloc (.cells #[I 0,I 0,I 0,I 0,I 0,I 0,I 0,I 0] 76))) (⟨ay m.2 (aj _ _ none),m.1.aC (aj _ _ none),by have:=iQ.new wr 76 (au 8);rw[z8u]at this;exact this⟩);have X:=Zs (wr.heap.size≠z) (by have:=m.1.lt;omega);have NW:=Zs (x.heap.size<=wr.heap.size) (m.2.size);clear C m TF BT;go_upto_region 11 with fail;generalize wr.alloc (.cells #[I 0,I 0,I 0,I 0,I 0,I 0,I 0,I 0] 76)=W5 at *
  generalize wr.heap.size=K at *
  have B5:=Zd<|H.aC BW.1;have bh:=Zd<|Y W5 E _ B5 _ (Gx BW.2.1 TK.1);clear Y;go_wp2_with (first|refine lV 16 B5.mem dU (by rw[CM.out];omega) PX ?_);refine bh.mono ?_;rintro n W6 ⟨rfl,g6⟩;have S6:=Zd<|BW.aC g6;have B6:=Zd<|B5.aC g6;clear bh g6 BW B5;have cH:(20:Int)<=G:=gO;go_upto_region 12 with fail;go_wp2_with fail;refine(U _ B6.Ie).mono ?_;rintro n W7 ⟨rfl,g7⟩;have S7:=Zd<|S6.aC g7;have B7:=Zd<|B6.aC g7;clear U g7 S6 B6;have u0:=S7.2.2.cell 0 (by rw[ak];omega);have u1:=S7.2.2.cell 1 (by rw[ak];omega);have v0:=S7.2.2.free 0;have v1:=S7.2.2.free 1;have S8:=Zd<|(S7.ace NW X.symm 0 ((G:Int)-20) (by rw[ak];omega)).ace NW X.symm 1 (l:Int) (by rw[XB,ak];omega);have B8:=Zs (ChB i ((W7.setCell ⟨K,0,none⟩ (I ((G:Int)-20))).setCell ⟨K,1,none⟩ (I (l:Int))) a b p E _) (H.aC S8.1);clear S7;go_upto_region 13 with fail;clear u0 u1 v0 v1 B7;generalize (W7.setCell ⟨K,0,none⟩ (I ((G:Int)-20))).setCell ⟨K,1,none⟩ (I (l:Int))=W8 at *
  have UL:=Zs (((((au 8).set 0 ((G:Int)-20)).set 1 (l:Int))).length=8) (by rw[XB,XB,ak]);have UP:=Zs (aB ((((au 8).set 0 ((G:Int)-20)).set 1 (l:Int))) 1=(l:Int)) (rfl);generalize (((au 8).set 0 ((G:Int)-20)).set 1 (l:Int))=J at *
  go_wp2_with (first|refine lV 16 B8.mem dU (by rw[CM.out];omega) PX ?_);refine(PA _).mono ?_;rintro n W9 ⟨vp,rfl,op,g9⟩;have S9:=Zd<|S8.aC g9;have B9:=Zd<|B8.aC g9;have an:=Zd<|R W9 E _ B9 vp PL op.ints bf;rw[bg.out]at an;clear PA g9 S8 B8 op;go_upto_region 14 with fail;go_wp2_with fail;refine an.mono ?_;rintro n ch ⟨vv,rfl,ov,aH⟩;have bi:=Zd<|S9.aC aH;have b7:=Zd<|B9.aC aH;obtain⟨bz,bo,rfl,_,_,_⟩:=ov.form (by rw[VK.out.1];omega);rw[VK.out.1]at ov ⊢;have OV:=Zd ov;have NV:=Zs (z<W9.heap.size) (S9.2.1.lt);clear an aH S9 B9 ov;generalize W9.heap.size=bv at *
  go_wp2_with fail;go_loopw [92] (λk wr=>∃(f:Nat) (v:L),k=I (f:Int)/\f<=40/\Hid (Nj a b c f v)/\Hid (Qc x z K v J wr)/\Hid (fO bv wr (.slice (some ⟨bz,0,none⟩) 40 bo) (VP a b c))) (λk _=>40-(intOf k).toNat)
  case atStart=>exact⟨0,Kz a b c,rfl,QN _,US,bi,OV⟩
  case round=>
   obtain⟨f,v,rfl,hk,C,m,hV⟩:=hrel;clear bi US;by_cases y:f<40
   .have i1:(f:Int)<40:=gO;obtain⟨av,b3,cv⟩:=kX hV.ints f (by rw[VK.out.1];exact y);cases b3;rw[Addr.add_mid,WT]at cv;have RL:=Zd C.1;have ct:=m.2.1.cell f (by rw[RL.out];exact y);rw[C.out.2.2 f (Q6 _)]at ct;have cp:=m.2.2.cell 1 (by rw[UL.out];omega);rw[UP.out]at cp;have ad:=GT _ (ay H.Ie m.1);have cg:=ad.1;have bn:=ad.2.2 l gO;rw[show gains.getD l 0=jG l from rfl]at bn;have gl:=ad.2.1;clear ad;have tb:=(bD (Kz a b c)).1 TK.2 f (by rw[TK.out.1];exact y);have fb:=(bD (VP a b c)).1 VK.2.1 f (by rw[VK.out.1];exact y);have NF:=Zd<|Z_ C y;have EN:=Zd<|UN f;have mb:=uf (aB (VP a b c) f) (jG l) fb.1 fb.2 gO gO;have VV:=Zd hV;clear C hV R a7 TG FW BU D1 D2 GO GT UN HX O;generalize aaO a b c f=D at *
    generalize aB (Kz a b c) f=tv at *
    generalize aB (VP a b c) f=F at *
    generalize jG l=k at *
    have cF:(l:Int)<8:=gO;have cb:=mq ((F*k+8192) / 16384);have W1:=eG (F*k) gO gO;have w:=eG (F*k+8192) gO gO;have b0:=eG (tv-fA ((F*k+8192) / 16384)) gO gO;go_upto_region 17 with fail;refine bW 19 (dB wr) 20 (by rfl) _ rfl (by kernel_rfl) λe=>?_;have d:=(aS wr);refine aZ 0 d e λe=>?_;refine aZ 1 d e λe=>?_;refine aZ 2 d e λe=>?_;refine aZ 3 d e λe=>?_;refine aZ 4 d e λe=>?_;refine iN (hy:=by intro t j;(try dsimp only at j);have cc:=aU j ct;go_simp;(try with_reducible rfl)) (v:=I tv) 5 d e λe=>?_;refine aZ 6 d e λe=>?_;refine iN (hy:=by intro t j;(try dsimp only at j);have cc:=aU j cg;go_simp;(try with_reducible rfl)) (v:=.slice (some a2) 8 c2) 7 d e λe=>?_;refine aZ 8 d e λe=>?_;refine iN (hy:=by intro t j;(try dsimp only at j);have cc:=aU j cp;go_simp;(try with_reducible rfl)) (v:=I (l:Int)) 9 d e λe=>?_;refine aZ (v:=.pointer (some (a2.add l))) 10 d e λe=>?_;refine iN (hy:=by intro t j;(try dsimp only at j);have cc:=aU j bn;go_simp;(try with_reducible rfl)) (v:=I k) 11 d e λe=>?_;refine iN (hy:=by intro t j;(try dsimp only at j);go_simp;(try simp only[W1])) (v:=I (F*k)) 12 d e λe=>?_;refine iN (hy:=by intro t j;(try dsimp only at j);go_simp;(try simp only[w])) (v:=I (F*k+8192)) 13 d e λe=>?_;refine jY 14 e λs g=>?_;(try simp only[sZ]);go_simp;refine(jr (F*k+8192) 14 gO gO gO _).mono ?_;rintro n w1 ⟨rfl,q1⟩;have Q1:=Zd q1;clear q1;rw[show((2:Int)^14)=16384 from rfl];go_wp2_with fail;have q:=(aX d Q1);refine g.out _ _ (λ_=>q) λe=>?_;clear g;replace d:=q;clear q;(try simp only[sZ]);refine jY 15 e λs g=>?_;(try simp only[sZ]);go_simp;refine(qA ((F*k+8192) / 16384) _ gO gO).mono ?_;rintro n w2 ⟨rfl,q2⟩;have Q2:=Zd q2;clear q2;go_wp2_with fail;have q:=(aX d Q2);refine g.out _ _ (λ_=>q) λe=>?_;clear g;replace d:=q;clear q;(try simp only[sZ]);refine iN (hy:=by intro t j;(try dsimp only at j);go_simp;(try simp only[b0])) (v:=I (tv-fA ((F*k+8192) / 16384))) 16 d e λe=>?_;refine jY 17 e λs g=>?_;(try simp only[sZ]);go_simp;refine(qA (tv-fA ((F*k+8192) / 16384)) _ gO gO).mono ?_;rintro n w3 ⟨rfl,q3⟩;have Q3:=Zd q3;clear q3;rw[EN.out];go_wp2_with fail;have q:=(aX d Q3);refine g.out _ _ (λ_=>q) λe=>?_;clear g;replace d:=q;clear q;(try simp only[sZ]);refine aZ 18 d e λe=>?_;refine jY 19 e λs g=>?_;(try simp only[sZ]);have SD:=Zd<|m.aC d;have cd:=SD.2.1.cell f (by rw[RL.out];exact y);have fd:=SD.2.1.free f;have NM:=Zd<|SD.anO NT X f D;have VW:=Zd<|(VV.aC d).bH (aD w3 ⟨z,f,none⟩ (I D)) NV;generalize aB v f=a5 at cd;go_simp;go_wp2_with fail;refine g.out _ _ (λB=>by cases B) λe=>?_;clear g d;(try simp only[sZ]);clear cd fd SD Q1 Q2 Q3;generalize w3.setCell ⟨z,f,none⟩ (I D)=w4 at *
    refine bI _ _ _ _ (by rfl) ?_;refine wm ?_;have VN:=Zs (fO bv w4 (.slice (some ⟨bz,0,none⟩) 40 bo) (VP a b c)) (VW);clear VW m;go_wp2_with fail;go_roundw
    case rel=>exact⟨f+1,_,by go_num,gO,NF,NM,VN⟩
    case measure=>first|(simp[intOf];done)|(simp[intOf];omega)
   obtain rfl:f=40:=gO;rw[show((40:Nat):Int)=40 from rfl];obtain rfl:=acQ C;have ap:=Zd m;have ac:=Zd<|H.aC m.1;clear C m hV GT UN;have rc:=ac.rng;have bl:=Zd<|TG _ _ _ (Gx ap.2.1 UK.1) ac.ring;clear TG;go_upto_region 19 with fail;go_wp2_with fail;refine bl.mono ?_;rintro n ci ⟨vd,rfl,od,a0⟩;have bj:=Zd<|ap.aC a0;have ai:=Zd<|ac.aC a0;have bc:=Zd<|FW _ _ _ od.ints ai.ring;clear bl FW a0 ap ac rc od;have rc:=ai.rng;go_upto_region 20 with fail;go_wp2_with fail;refine bc.mono ?_;rintro n bE ⟨rfl,bp⟩;have aq:=Zd<|bj.aC bp;have X4:=Zs ((aQ (qX a b c)).length=4) (by rw[aN];exact XK.1);have IX:=Zd<|dO (qX a b c);have U4:=Zs ((aQ J).length=8) (by rw[aN];exact UL);have ae:=Zd<|aq.amv NW X.symm 2 (qX a b c) (by rw[XK.out.1,UL.out];omega);have aa:=Zs ((jd J 2 (qX a b c)).length=8) (by rw[dV];exact UL);have af:=Zd<|ae.ace NW X.symm 6 (yR a b c) (by rw[aa.out];omega);have c6:=ae.2.2.cell 6 (by rw[aa.out];omega);have f6:=ae.2.2.free 6;clear bc bp bj ai rc;go_upto_region 21 with(first|refine sV 2 (aQ (qX a b c)) aq.2.2 (by rw[X4.out,U4.out];omega) (by rw[X4.out];exact acG) IX ?_);(try simp only[Act.put]);clear c6 f6 aq ae;generalize (dz bE K 2 (aQ (qX a b c))).setCell ⟨K,6,none⟩ (I (yR a b c))=cj at *
   have P4:=Zs (bM ((jd J 2 (qX a b c)).set 6 (yR a b c)) 2 4=qX a b c) (anM J (qX a b c) (yR a b c) UL XK.1);have P6:=Zs (aB ((jd J 2 (qX a b c)).set 6 (yR a b c)) 6=yR a b c) (by rw[iM _ _ _ (by rw[aa.out];omega),Q9 rfl]);have F:=Zs (((jd J 2 (qX a b c)).set 6 (yR a b c)).length=8) (by rw[XB];exact aa);clear UL UP U4 aa;generalize (jd J 2 (qX a b c)).set 6 (yR a b c)=bm at *
   have c6:=af.2.2.cell 6 (by rw[F.out];omega);rw[P6.out]at c6;have PT:=Zd<|iQ.part (l:=bm) 2 4 (by rw[F.out];omega);rw[P4.out]at PT;have UV:=Zs ((aQ bm).length=8) (by rw[aN];exact F);go_wp2_with (first|refine lV 2 af.2.2 acG (by rw[UV.out];omega) PT ?_);refine(BU _).mono ?_;rintro n bR ⟨vo,rfl,oo,bq⟩;have ar:=Zd<|af.aC bq;have a6:=Zd<|H.aC ar.1;have ao:=Zd<|R bR E _ a6 vo (Dh a b c) oo.ints OK.1;rw[KO.out]at ao;clear BU bq af oo c6 R;go_upto_region 22 with fail;go_wp2_with fail;refine ao.mono ?_;rintro n ck ⟨Q,rfl,of,bs⟩;have aw:=Zd<|ar.aC bs;have IF:=Zd of.ints;have a9:=Zd<|D1 _ _ _ (Gx aw.2.1 UK.1) IF;clear ao bs ar a6 of D1;go_upto_region 23 with fail;generalize fU (Cc a b c) (wT a b c) 40=d1 at *
   generalize fU (wT a b c) (wT a b c) 40=d2 at *
   go_wp2_with fail;refine a9.mono ?_;rintro n cl ⟨rfl,a3⟩;have bk:=Zd<|aw.aC a3;have ba:=Zd<|D2 _ _ (aR IF a3);clear a9 a3 aw IF D2;go_wp2_with fail;refine ba.mono ?_;rintro n cm ⟨rfl,bw⟩;have aA:=Zd<|bk.aC bw;have bd:=Zd<|GO _ (ay H.Ie aA.1);clear ba bw bk GO;go_wp2_with fail;refine bd.mono ?_;rintro n bX ⟨rfl,bx⟩;have ag:=Zd<|aA.aC bx;have c7:=ag.2.2.cell 7 (by rw[F.out];omega);have f7:=ag.2.2.free 7;have aE:=Zd<|ag.ace NW X.symm 7 (P7 a b c) (by rw[F.out];omega);rw[O.out]at aE;clear bd bx aA ag;go_upto_region 24 with fail;clear c7 f7;generalize bX.setCell ⟨K,7,none⟩ (I (P7 a b c))=cn at *
   have al:=Zd<|H.aC aE.1;have k:=Zs ((aQ T).length=8) (by rw[aN,<-O.out,XB];exact F);have CA:=Zd<|iQ.all T 8 (by have:=k.out;rwa [aN]at this);have ZV:=Zs ((aQ (au 8)).length=8) (by rw[aN,ak]);have IC:=Zd<|dO T;have PB:=Zd<|al.out.res.dQ (m:=T) (by have:=k.out;rw[aN]at this;rw[this,ak]);have FF:=Zd<|bb _ (aG al.Ie PB.2 gO);clear bb;go_wp2_with (first|refine lV 0 aE.2.2 acO (by rw[k.out];omega) CA ?_|refine sV 0 (aQ T) al.res (by rw[k.out,ZV.out];omega) (by rw[k.out];exact acO) IC ?_);have b6:=qG PB.1.v (by rw[k.out];exact acO);refine QB (v:=.agg (aF T)) ?_ rfl FF;simp[results,results28,asAddr,Act.put,b6];rfl
def Vv (e:W)(a:L)(b:Int)(d:Bool)(c:Ending)(f:W):Prop:=c=.returned (.tuple #[.agg (aF a),I b,.bool d])/\e.grownBy f none
def ak0 (S a:Int)(e:0<a)(h:-144115188075855872<=S)(d:S<=144115188075855872):-144115188075855872<=S.tdiv a/\S.tdiv a<=144115188075855872:=by
 have c:∀b:Int,0<=b->b<=144115188075855872->0<=b.tdiv a/\b.tdiv a<=144115188075855872:=λb b f=>by
  rw[YS b];have f:=F7 b (VR e);have g:=Int.ediv_le_self a b;omega
 rcases Int.le_total 0 S with b|b
 .have:=c S b d;omega
 have f:S.tdiv a=-((-S).tdiv a):=by rw[Int.neg_tdiv];omega
 have:=c (-S) gO gO;omega
def aiW (c:Nat->Int):[16777216]=f_ 1 (iC c 0).p:=by
 apply dL rfl;intro b a
 match b,a with
 | 0,_=>rfl
def Nk {c d:TypeId}(b:iX w w' T c d l p r)(a:w'.grownBy u (some n))(e:w.heap.size+1+1<n):iX w u T c d l p r:=
 ⟨b.1.aH a gO,b.2.1.aH a gO,b.2.2.1.aH a gO,aG b.2.2.2 a gO⟩
def Jc (b:L)(hR:b.length=9)(l:W):Calls prog 23 #[.agg (aF b)] l (Vv l (nL b) (yK b) (yL b)):=by
 have o:=Zs (iX l _ 69 50 50 b (au 8) (au 8)) (oQ l 69 50 50 b (au 8) (au 8));rw[uR]at o;have IX:=Zd λan a=>gF b underlying69 an a hR;have T:=Zs (Px b=false->Vv l (nL b) (yK b) (yL b)=Vv l (au 8) 0 false) (λal=>by simp[nL,yK,yL,al]);have NR:=Zd λc (hi:c<9) hh=>ai5 (k:=b) c gO hh;have YR:=Zd λ(hh:∀c,c<9->-2147483647<=aB b c/\aB b c<=2147483647)=>(JR b).2 (λc hi=>hh c gO);go_enter func23,ntmps23;go_wp2_with (refine lA o.1 (by rw[hR];exact bZ) ?_);generalize ((l.alloc (.cells (aF b) 69)).alloc _).alloc _=g at *
 go_loop [16] (λc=>∃a:Nat,c=I a/\a<=9/\Hid (∀c,c<a->-2147483647<=aB b c/\aB b c<=2147483647)) (λc=>9-(intOf c).toNat)
 case atStart=>exact⟨0,rfl,QN _,λc hi=>gO⟩
 case round=>
  obtain⟨a,rfl,hm,X⟩:=hrel;by_cases bd:a<9
  .have n:=IX a gO;by_cases f:-2147483647<=aB b a/\aB b a<=2147483647
   .have i:=Zd (show ∀c,c<a+1->-2147483647<=aB b c/\aB b c<=2147483647 from λc hi=>by
     rcases WZ c a with d|d
     .exact X c d
     obtain rfl:c=a:=gO;exact f)
    have⟨b1,b2⟩:=f;clear X T NR YR IX o;generalize aB b a=B at *
    have j:¬2147483647<B:=gO;have m:¬B < -2147483647:=gO;go_wp2_with fail;go_round
    case rel=>exact⟨a+1,by go_num,gO,i⟩
    case measure=>simp[intOf];omega
   have w:=Zd<|T (by unfold Px;rw[NR.out a bd f];rfl);have y:=Zd f;have v:=Zd o.2.2.1;have q:=Zd o.2.1;have D:=Zd o.2.2.2;clear X T NR YR IX o f;obtain⟨j,P⟩:∃j,j=au 8:=⟨_,rfl⟩;have i:j.length=8:=by subst P;rfl
   rw[<-P]at v w;clear P;generalize aB b a=B at *
   rcases (show 2147483647<B\/B < -2147483647 by have:=y.out;omega)with m|m
   all_goals
    go_wp2_with (first|refine lA v (by rw[i];exact bG) ?_|refine sA j q (by rw[i,ak]) (by rw[ak];exact bG) ?_);have r:=bF (rs':=j) q (by rw[i,ak]);have E:=kU r.1 (by rw[i];exact bG);have C:=Zd<|aG D r.2 gO;refine QB (v:=.tuple #[.agg (aF j),I 0,.bool false]) ?_ rfl ?_
    .simp[results,results23,asAddr,Act.put,E]
    rw[w.out];exact⟨rfl,C⟩
  obtain rfl:a=9:=gO;rw[show((9:Nat):Int)=9 from rfl];have hB:=YR X;have c0:=o.1.cell 0 gO;by_cases h0:0<aB b 0
  .have x:Px b=true:=by unfold Px;rw[hB];simp[h0]
   have y:=Zd<|alc hB;have⟨b1,b2⟩:=y 0;have H:=Zs (nL b=f_ 8 (iC (aB b) 8).k) (by simp[nL,x]);have F:=Zs (yK b=(iC (aB b) 8).e) (by simp[yK,x]);have G:=Zs (yL b=(iC (aB b) 8).go) (by simp[yL,x]);have IS:=Zd<|Fg (aB b) h0;have bf:¬aB b 0<1:=gO;have E0:=Zs ((iC (aB b) 0).e=aB b 0) (rfl);have a0:l.heap.size+1+1+1<=g.heap.size:=o.2.2.1.lt;have M2:=Zd<|o.aC (aj g (.cells #[I 16777216] 3) none);have O2:=Zd<|Ad g (l.heap.size+1+1+1) a0 16777216;rw[aiW (aB b)]at O2;rw[show au 8=f_ 8 (iC (aB b) 0).k from E_ 8]at M2;have ZK:=Zs (f_ 8 (iC (aB b) 0).k=au 8) ((E_ 8).symm);have ar:=Zd (show iX l (g.alloc (.cells #[I 16777216] 3)) 69 50 50 b (au 8) (f_ 8 (iC (aB b) 0).k)from by
    have:=M2.out;rw[ZK.out]at this ⊢;exact this)
   clear M2 ZK x hB T NR YR IX o X a0;generalize aH:aB b 0=r0 at *
   have R:=Zd aH;clear aH;go_wp2_with fail;generalize g.alloc _=W1 at *
   go_loopw [8,9,10] (λf g c wr=>∃a:Nat,f=I (iC (aB b) a).e/\c=I a/\a<=8/\Hid ((iC (aB b) a).go=true)/\Hid (Wh (aB b) a (iC (aB b) a))/\Hid (fO (l.heap.size+1+1+1) wr g (f_ (a+1) (iC (aB b) a).p))/\Hid (iX l wr 69 50 50 b (au 8) (f_ 8 (iC (aB b) a).k))) (λ_ _ c _=>8-(intOf c).toNat)
   case atStart=>exact⟨0,by rw[E0.out],rfl,QN _,rfl,IS,O2,ar⟩
   case round=>
    obtain⟨a,rfl,rfl,hm,Z,K,hO,Y⟩:=hrel;clear ar O2 IS E0;by_cases am:a<8
    .have Q:=cK (a+1) (iC (aB b) a).p;have⟨U,ag,hv,ba,bb,a9⟩:=hO.form (by rw[Q];omega);subst hv;rw[Q]at hO a9;rw[Q];have PB:=Zd<|K.pb' gO;have af:=Zd<|SF PB y (a+1);go_wp2_with fail;rw[show decide ((a:Int)<8)=true by simp;omega];go_loopw [11,39] (λz c wr=>∃g:Nat,z=I (mis (iC (aB b) a).p (aB b) (a+1) g)/\c=I g/\g<=a+1/\Hid (fO (l.heap.size+1+1+1) wr (.slice (some ⟨U,0,none⟩) (a+1) ag) (f_ (a+1) (iC (aB b) a).p))/\Hid (iX l wr 69 50 50 b (au 8) (f_ 8 (iC (aB b) a).k))) (λ_ c _=>a+1-(intOf c).toNat)
     case atStart=>exact⟨0,rfl,rfl,QN _,hO,Y⟩
     case round=>
      obtain⟨c,rfl,rfl,hi,ac,ab⟩:=hrel;clear hO Y ba bb;by_cases bc:c<a+1
      .have ca:=ac.cell Q.symm c gO;rw[dP _ _ _ bc]at ca;have cr:=ab.1.cell (a+1-c) gO;have⟨a1,a2⟩:=PB c;have⟨r1,r2⟩:=y (a+1-c);have⟨⟨p1,p2⟩,p3,p4⟩:=JO _ _ a1 a2 r1 r2;have⟨s1,s2⟩:=af c;have a5:=Zs (mis (iC (aB b) a).p (aB b) (a+1) (c+1)=mis (iC (aB b) a).p (aB b) (a+1) c+((iC (aB b) a).p c / 512*aB b (a+1-c)) / 32768) (rfl);have M:=Zd λs=>jr ((iC (aB b) a).p c) 9 gO gO gO s;have t:=Zd λs=>jr ((iC (aB b) a).p c / 512*aB b (a+1-c)) 15 gO gO gO s;rw[show((9:Nat):Int)=9 from rfl,show(2:Int)^9=512 by decide]at M;rw[show((15:Nat):Int)=15 from rfl,show(2:Int)^15=32768 by decide]at t;have E4:=Zd<|eG ((a:Int)+1) gO gO;have EJ:=Zs (IntKind.i64.wrap ((a:Int)+1-(c:Int))=((a+1-c:Nat):Int)) (by rw[eG _ gO gO];omega);have E9:=Zd<|eG ((iC (aB b) a).p c / 512*aB b (a+1-c)) gO gO;have O:=Zd<|eG (mis (iC (aB b) a).p (aB b) (a+1) c+(iC (aB b) a).p c / 512*aB b (a+1-c) / 32768) gO gO;have j0:(0:Int)<=((a+1-c:Nat):Int):=gO;have j9:((a+1-c:Nat):Int)<9:=gO;clear PB af K Z y H F G R;generalize mis (iC (aB b) a).p (aB b) (a+1) c=z at *
       generalize (iC (aB b) a).p c=B at *
       generalize aB b (a+1-c)=a4 at *
       generalize a+1-c=an at *
       have im:(c:Int)<((a+1:Nat):Int):=gO;have bj:(c:Int)<(a:Int)+1:=gO;go_wp2_with fail;refine wp_region_held_drew (S:=dB wr) (by kernel_rfl) (aS _) λg=>?_;refine vL 0 g ?_;refine vL 1 g ?_;refine vL 3 g ?_;refine aV (hy:=by intro u m;(try dsimp only at m);go_simp;(first|exact E4|rw[E4.out])) (v:=(I ((a:Int)+1))) 4 g ?_;refine vL 5 g ?_;refine aV (hy:=by intro u m;(try dsimp only at m);go_simp;(first|exact EJ|rw[EJ.out])) (v:=(I (an:Int))) 6 g ?_;refine vL 7 g ?_;refine aV (hy:=by intro u m;have q0:=aU m cr;go_simp;(try with_reducible rfl)) 8 g ?_;refine eU 2 λah x=>?_;(try simp only[sZ]);go_simp;refine(M _).mono ?_;rintro f w2 ⟨rfl,g2⟩;have S2:=Zd<|aX g g2;clear g2;go_wp2_with fail;refine x.out _ _ S2 λg=>?_;clear x;(try simp only[sZ]);refine aV (hy:=by intro u m;(try dsimp only at m);go_simp;(first|exact E9|rw[E9.out])) (v:=(I (B / 512*a4))) 9 g ?_;refine eU 10 λah x=>?_;(try simp only[sZ]);go_simp;refine(t _).mono ?_;rintro f w3 ⟨rfl,J⟩;have n:=Zd<|aX S2 J;clear J;go_wp2_with fail;refine x.out _ _ n λg=>?_;clear x;(try simp only[sZ]);refine aV (hy:=by intro u m;(try dsimp only at m);go_simp;(first|exact O|rw[O.out])) (v:=(I (z+B / 512*a4 / 32768))) 11 g ?_;refine vL 12 g ?_;refine jX ?_;go_wp2_with fail;have OE:=Zd<|ac.aC n;have ME:=Zd<|ab.aC n;go_roundw
       case rel=>exact⟨c+1,by rw[a5.out],by go_num,gO,OE,ME⟩
       case measure=>simp[intOf];omega
      obtain rfl:c=a+1:=gO;have EQ:=Zs (vN (aB b) a (iC (aB b) a)=(-(mis (iC (aB b) a).p (aB b) (a+1) (a+1))*32768).tdiv (iC (aB b) a).e) (rfl);have aa:=Zd λc=>Wj Z c am;have ad:=Zd λq1 q2=>JQ K Z q1 q2;have⟨e0,e1⟩:=And.intro K.e0 K.e1;rw[R.out]at e1;have⟨s1,s2⟩:=af (a+1);have WP:=Zd<|ad4 PB (by decide) (a+1);have GR:=Zd (λ(s:W) (hi:aY s (.slice (some ⟨U,0,none⟩) (a+1) ag) (f_ (a+1) (iC (aB b) a).p)) (hs:rD (.slice (some ⟨U,0,none⟩) (a+1) ag) (f_ (a+1) (iC (aB b) a).p)) (d:Int) (q1:-32768<=d) (q2:d<=32768)=>
       (show Calls prog 56 #[.slice (some ⟨U,0,none⟩) (a+1) ag,I d] s (λf u=>∃c,f=.returned c/\fO s.heap.size u c (f_ (a+1+1) (gr (iC (aB b) a).p (a+1) d))/\s.grownBy u none)from by
        have:=Em _ _ (by rw[Q];omega) (by rw[Q];omega) d q1 q2 WP s hi hs;rw[Q,adZ _ _ K.out.po]at this;exact this))
      have ST:=Zd λd=>acU 8 (iC (aB b) a).k a d am;have i:=cK 8 (iC (aB b) a).k;have bh:l.heap.size+1+1+1<=wr.heap.size:=ab.2.2.1.lt;have bg:U<wr.heap.size:=(ac.lt U rfl).2;clear af PB WP K Z;generalize mis (iC (aB b) a).p (aB b) (a+1) (a+1)=z at *
      generalize vN (aB b) a (iC (aB b) a)=d at *
      generalize (iC (aB b) a).e=f at *
      generalize (iC (aB b) a).p=bk at *
      generalize (iC (aB b) a).k=kf at *
      have x1:-4398046511104<=z:=gO;have x2:z<=4398046511104:=gO;clear s1 s2;have ne:f≠0:=gO;have⟨d1,d2⟩:=ak0 (-z*32768) f e0 gO gO;rw[<-EQ.out]at d1 d2;have z1:Struct ((wr.alloc iW).alloc iW) wr.heap.size:=bQ (dW wr) (aj (wr.alloc iW) iW none) (by simp);have z2:Struct ((wr.alloc iW).alloc iW) (wr.heap.size+1):=by simpa using dW (wr.alloc iW)
      have ga:wr.grownBy ((wr.alloc iW).alloc iW) none:=ay (aj wr iW none) (aj (wr.alloc iW) iW none);have Z1:=Zd z1;have Z2:=Zd z2;have GA:=Zd ga;clear z1 z2 ga;have bi:¬((a+1:Nat):Int)<((a+1:Nat):Int):=gO;go_wp2_with fail;refine(eP (-z) ((wr.alloc iW).alloc iW) gO gO).mono ?_;rintro n w3 ⟨b3,rfl,a6,i3,J⟩;have aw:=Zd<|bQ Z1 J (by simp);have aA:=Zd<|bQ Z2 J (by simp);have I3:=Zd i3;have M3:=Zd<|ab.aC (ay GA J);have O3:=Zd<|ac.aC (ay GA J);clear i3 J Z1 Z2 GA ab ac a6;have LS:=Zd<|xq (wr.heap.size+1) b3 (-z) 15 gO w3 aA I3 (by have:=uH;rw[show(2:Int)^15=32768 by decide];omega) (by have:=uH;rw[show(2:Int)^15=32768 by decide];omega);rw[show((15:Nat):Int)=15 from rfl,show(2:Int)^15=32768 by decide]at LS;go_wp2_with fail;refine LS.mono ?_;rintro n w4 ⟨rfl,i4,g4⟩;have ax:=Zd<|bQ aw g4 (by simp);have I4:=Zd i4;have M4:=Zd<|Nk M3 g4 gO;have O4:=Zd<|O3.Ka g4 gO;clear i4 g4 LS aw aA I3 M3 O3;go_wp2_with fail;refine(eP f w4 gO gO).mono ?_;rintro n w5 ⟨b5,rfl,a7,i5,g5⟩;have az:=Zd<|bQ ax g5 (by simp);have aq:=Zd<|bP I4 g5;have I5:=Zd i5;have M5:=Zd<|M4.aC g5;have O5:=Zd<|O4.aC g5;clear i5 g5 ax I4 M4 O4 a7;have QU:=Zd<|adY wr.heap.size (wr.heap.size+1) b5 (-z*32768) f w5 az aq I5 ne gO gO;rw[<-EQ.out]at QU;go_wp2_with fail;refine QU.mono ?_;rintro n w6 ⟨rfl,i6,g6⟩;have t:=Zd<|Nk M5 g6 gO;have O6:=Zd<|O5.Ka g6 gO;have ae:=Zd<|aac wr.heap.size d w6 i6 gO gO;have O:=Zd<|oC wr.heap.size d w6 i6 gO gO;clear i6 g6 QU az aq I5 M5 O5;rcases (show d<=-32000\/(¬d<=-32000/\32000<=d)\/(¬d<=-32000/\¬32000<=d) by omega)with k1|⟨k1,k2⟩|⟨k1,k2⟩
      .have H8:=Zd<|aa (λal=>gO);have v:=Zd t.2.2.1;have q:=Zd t.2.1;have D:=Zd t.2.2.2;have w:=Zs (Vv l (nL b) (yK b) (yL b)=Vv l (f_ 8 kf) f false) (by rw[H.out,F.out,G.out,H8.out]);clear aa ad GR ST EQ t O6 H F G H8 y R;generalize f_ 8 kf=j at *
       go_wp2_with fail;refine ae.mono ?_;rintro n M ⟨rfl,rfl⟩;go_wp2_with fail;refine O.mono ?_;rintro n M ⟨rfl,rfl⟩;go_wp2_with (first|refine lA v (by rw[i];exact bG) ?_|refine sA j q (by rw[i,ak]) (by rw[ak];exact bG) ?_);have r:=bF (rs':=j) q (by rw[i,ak]);have E:=kU r.1 (by rw[i];exact bG);have C:=Zd<|aG D r.2 gO;refine QB (v:=.tuple #[.agg (aF j),I f,.bool false]) ?_ rfl ?_
       .simp[results,results23,asAddr,Act.put,E]
       rw[w.out];exact⟨rfl,C⟩
      .have H8:=Zd<|aa (λal=>gO);have v:=Zd t.2.2.1;have q:=Zd t.2.1;have D:=Zd t.2.2.2;have w:=Zs (Vv l (nL b) (yK b) (yL b)=Vv l (f_ 8 kf) f false) (by rw[H.out,F.out,G.out,H8.out]);clear aa ad GR ST EQ t O6 H F G H8 y R;generalize f_ 8 kf=j at *
       go_wp2_with fail;refine ae.mono ?_;rintro n M ⟨rfl,rfl⟩;go_wp2_with fail;refine O.mono ?_;rintro n M ⟨rfl,rfl⟩;go_wp2_with fail;refine O.mono ?_;rintro n M ⟨rfl,rfl⟩;go_wp2_with (first|refine lA v (by rw[i];exact bG) ?_|refine sA j q (by rw[i,ak]) (by rw[ak];exact bG) ?_);have r:=bF (rs':=j) q (by rw[i,ak]);have E:=kU r.1 (by rw[i];exact bG);have C:=Zd<|aG D r.2 gO;refine QB (v:=.tuple #[.agg (aF j),I f,.bool false]) ?_ rfl ?_
       .simp[results,results23,asAddr,Act.put,E]
       rw[w.out];exact⟨rfl,C⟩
      have n:=af7 f d e0 gO gO;have HN:=Zs (eN f d=f-(f*d / 32768)*d / 32768) (rfl);unfold eN at n;have⟨f1,f2,⟨f3,f4⟩,f5,f6⟩:=n;have SP:=Zd<|ad gO gO;have cd:=t.2.2.1.cell a gO;have fd:=t.2.2.1.free a;have M7:=Zd<|Sd t a d;have O7:=Zd<|O6.bH (aD w6 ⟨l.heap.size+1+1,a,none⟩ (I d)) (by simp);have GQ:=Zd<|GR _ O7.ints O7.xJ d gO gO;have a3:l.heap.size+1+1+1<=(w6.setCell ⟨l.heap.size+1+1,a,none⟩ (I d)).heap.size:=M7.2.2.1.lt;have DA:=Zd λs=>jr (f*d) 15 gO gO gO s;have DB:=Zd λs=>jr (f*d / 32768*d) 15 gO gO gO s;rw[show((15:Nat):Int)=15 from rfl,show(2:Int)^15=32768 by decide]at DA DB;have F5:=Zd<|eG (f*d) gO gO;have ao:=Zd<|eG (f*d / 32768*d) gO gO;have ap:=Zd<|eG (f-f*d / 32768*d / 32768) gO gO;have f7:¬f-(f*d / 32768)*d / 32768<1:=gO;have m0:(0:Int)<=a:=gO;have m8:(a:Int)<8:=gO;clear aa ad GR EQ t O6 H F G y R;generalize aB (f_ 8 kf) a=y' at *
      go_wp2_with fail;refine ae.mono ?_;rintro n M ⟨rfl,rfl⟩;go_wp2_with fail;refine O.mono ?_;rintro n M ⟨rfl,rfl⟩;go_wp2_with fail;refine O.mono ?_;rintro n M ⟨rfl,rfl⟩;go_wp2_with fail;refine O.mono ?_;rintro n M ⟨rfl,rfl⟩;clear O ae;go_wp2_with fail;refine GQ.mono ?_;rintro n w9 ⟨v9,rfl,o9,g9⟩;have O9:=Zd<|fO.base o9 a3;have M9:=Zd<|M7.aC g9;have ck:=M9.2.2.1.cell a (by rw[XB,i];omega);rw[show aB ((f_ 8 kf).set a d) a=d by simp[aB,List.getD,i,am]]at ck;clear GQ O7 M7 o9 g9 cd fd a3;go_upto_region 26 with fail;refine wp_region_held_drew (S:=dB w9) (by kernel_rfl) (aS _) λg=>?_;refine vL 0 g ?_;refine vL 1 g ?_;refine vL 2 g ?_;refine vL 3 g ?_;refine aV (hy:=by intro u m;have q0:=aU m ck;go_simp;(try with_reducible rfl)) 4 g ?_;refine aV (hy:=by intro u m;(try dsimp only at m);go_simp;(first|exact F5|rw[F5.out])) (v:=(I (f*d))) 5 g ?_;refine vL 7 g ?_;refine vL 8 g ?_;refine aV (hy:=by intro u m;have q0:=aU m ck;go_simp;(try with_reducible rfl)) 9 g ?_;refine eU 6 λah x=>?_;(try simp only[sZ]);go_simp;refine(DA _).mono ?_;rintro n bl ⟨rfl,aC⟩;have av:=Zd<|aX g aC;clear aC;go_wp2_with fail;refine x.out _ _ av λg=>?_;clear x;(try simp only[sZ]);refine aV (hy:=by intro u m;(try dsimp only at m);go_simp;(first|exact ao|rw[ao.out])) (v:=(I (f*d / 32768*d))) 10 g ?_;refine eU 11 λah x=>?_;(try simp only[sZ]);go_simp;refine(DB _).mono ?_;rintro n bm ⟨rfl,aE⟩;have ai:=Zd<|aX av aE;clear aE;go_wp2_with fail;refine x.out _ _ ai λg=>?_;clear x;(try simp only[sZ]);refine aV (hy:=by intro u m;(try dsimp only at m);go_simp;(first|exact ap|rw[ap.out])) (v:=(I (f-f*d / 32768*d / 32768))) 12 g ?_;refine vL 13 g ?_;refine jX ?_;go_wp2_with fail;have OE:=Zd<|O9.aC ai;have ME:=Zd<|M9.aC ai;go_roundw
      case rel=>
       refine⟨a+1,?_,by go_num,gO,?_,SP.2,?_,?_⟩
       .rw[SP.out.1];exact congrArg (Value.int .i64) HN.symm
       .rw[SP.out.1];exact rfl
       .rw[SP.out.1];exact OE
       rw[SP.out.1,<-ST.out d];exact ME
      case measure=>simp[intOf];omega
    obtain rfl:a=8:=gO;have i:=cK 8 (iC (aB b) 8).k;have w:=Zs (Vv l (nL b) (yK b) (yL b)=Vv l (f_ 8 (iC (aB b) 8).k) (iC (aB b) 8).e true) (by rw[H.out,F.out,G.out,Z.out]);have v:=Zd Y.2.2.1;have q:=Zd Y.2.1;have D:=Zd Y.2.2.2;clear H F G Y K Z y hO R;generalize f_ 8 (iC (aB b) 8).k=j at *
    generalize (iC (aB b) 8).e=f at *
    go_wp2_with (first|refine lA v (by rw[i];exact bG) ?_|refine sA j q (by rw[i,ak]) (by rw[ak];exact bG) ?_);have r:=bF (rs':=j) q (by rw[i,ak]);have E:=kU r.1 (by rw[i];exact bG);have C:=Zd<|aG D r.2 gO;refine QB (v:=.tuple #[.agg (aF j),I f,.bool true]) ?_ rfl ?_
    .simp[results,results23,asAddr,Act.put,E]
    rw[w.out];exact⟨rfl,C⟩
  have w:=Zd<|T (by unfold Px;simp[h0]);have v:=Zd o.2.2.1;have q:=Zd o.2.1;have D:=Zd o.2.2.2;clear X T NR YR IX o hB;obtain⟨j,P⟩:∃j,j=au 8:=⟨_,rfl⟩;have i:j.length=8:=by subst P;rfl
  rw[<-P]at v w;clear P;generalize aB b 0=B at *
  have f:B<1:=gO;go_wp2_with (first|refine lA v (by rw[i];exact bG) ?_|refine sA j q (by rw[i,ak]) (by rw[ak];exact bG) ?_);have r:=bF (rs':=j) q (by rw[i,ak]);have E:=kU r.1 (by rw[i];exact bG);have C:=Zd<|aG D r.2 gO;refine QB (v:=.tuple #[.agg (aF j),I 0,.bool false]) ?_ rfl ?_
  .simp[results,results23,asAddr,Act.put,E]
  rw[w.out];exact⟨rfl,C⟩
def afY (a:W):Sem.run prog (zeroValue 79) a=.ok (.agg (aF (au 25))) a:=Gv a
def aai (c:V)(a:L)(b:W)(i:aY b c a)(d:a.length=120)(e:aL a=true):Calls prog 22 #[c] b λg f=>g=.returned (.tuple #[.agg (aF (qZ a)),I ((aa7 a:Int)-31),I 0])/\b.grownBy f none:=by refine(Zg c a b i d e).mono ?_;rintro g f ⟨m,k,l,j⟩;have hp:=Ak (f:=wN a);have n:=wV (T9 a d e) 0 gO;have h:m=aa7 a:=He gO k (KR _ gO gO);subst h;exact⟨by rw[l,QM];rfl,j⟩
def afZ (a:L)(c:Nat)(d:Int)(f:aB a c=d):a.set c d=a:=by
 apply List.ext_getElem?;intro g;rw[WB];split
 .rename_i e;subst e;split
  .rename_i b;rw[KM b,<-f];simp[aB,List.getD,b]
  rename_i b;rw[U8 gO]
 rfl
def aaj (a0:Addr)(c0:Nat)(a1:Addr)(c1:Nat)(a2:Addr)(c2:Nat)(i:World)(a:L)(s:Bool)(he:a.length=225)(ei:iI a)(ab:Value)(b:L)(hi:aY i ab b)(fx:b.length*8<=140737488351232)(d:Bool)(hW:rU i a0 c0)(hS:Steps i a1 c1)(hG:zV i a2 c2)(U:qL a b) :Calls prog 15 #[gu a s,ab,.bool d] i (rO i (lJ a b d) (mK a b d) (lK a b d) (lM a b d) (iw a b)):=by
 have Q0:=Zd<|Od.new i a s;have CE:=Zd<|bK he s;have ZC:=Zd<|bK (ak 225) false;have ZO:=Zd<|gG (au 225) false;have hz:=jJ;have HE:=Zd he;have hl:=U.1;have hg:=U.2.1;have hh:=U.2.2.1;have hc:=U.2.2.2;have G:=Zs ((jo a b).length=80) ((Au hh).trans hl);have ad:=Zd<|vk hl hh;obtain⟨al,cl,rfl⟩:=qz hi gO;have HI:=Zd λwr (x:i.grownBy wr none)=>aR hi x;rw[hl]at HI ⊢;have HL:=Zd hl;have GD:=Zd (λwr=>fH (fF a) s (aT _ _ _) (λD=>by
  by_cases k:D<101
  .unfold fF;rw[fV _ _ _ _ k];exact ei _
  rw[dI _ D (by unfold fF;rw[aT];omega)];omega) wr)
 rw[hg]at GD;have PM:=Zd<|qc s he;rw[show bM a 124 101=fF a from rfl]at PM;have PH:=Zd (show((bV a s).drop 0).take 4=aQ [aB a 0,aB a 1,aB a 2,aB a 3]from by
  rw[tK s 0 4 gO];rfl)
 have Z:=Zd λwr (g:aY wr (.slice (some al) 80 cl) b)=>vY (aB a 0) (aB a 1) (aB a 2) (aB a 3) (.slice (some al) 80 cl) b wr g (.inr ⟨al,cl,by rw[HL.out]⟩) gO;rw[show Vd (aB a 0) (aB a 1) (aB a 2) (aB a 3) b=jo a b from rfl]at Z;unfold hiT at Z;generalize el:hiM (aB a 0) (aB a 1) (aB a 2) (aB a 3) b 0=n at Z;generalize en:hiM (aB a 0) (aB a 1) (aB a 2) (aB a 3) b 1=o at Z;generalize eo:hiM (aB a 0) (aB a 1) (aB a 2) (aB a 3) b 2=p at Z;generalize ep:hiM (aB a 0) (aB a 1) (aB a 2) (aB a 3) b 3=q at Z;have B:Xh (aB a 0) (aB a 1) (aB a 2) (aB a 3) b=0:=by unfold Xh;unfold vV at hh;rw[Q9 hh]
 rw[B]at Z;have da:=Zs (vU a b=[n,o,p,q]) (by unfold vU;rw[el,en,eo,ep]);have CO:=Zd λab wr (g:aY wr ab (nH a b))=>aai ab (nH a b) wr g ad.out hc;have RL:=Zd<|Dy (nH a b);have LV:=Zd λwr=>Jc (qZ (nH a b)) (Dy _) wr;have KL:=Zd<|C9 (qZ (nH a b));have QA:=Zd λwr (x:i.grownBy wr none)=>Xo (nL (qZ (nH a b))) (C9 _) a0 c0 wr (kC hW x);rw[(Jr _ (ady (qZ (nH a b)))).1,(Jr _ (ady (qZ (nH a b)))).2]at QA;rw[show quL (nL (qZ (nH a b)))=lZ a b from rfl]at QA;have T:aa6 (lZ a b):=zA _;have QL:=Zd T.1;have VA:=Zd λwr (x:i.grownBy wr none)=>vT (lZ a b) T.1 a0 c0 wr (kC hW x);rw[(Dx _ T).1,(Dx _ T).2]at VA;have ns:cZ (iV (lZ a b))=true:=vg _ T;have NL:=Zd<|mX (lZ a b);have FR:=Zd λX=>qF X;have DT:=Zd λab wr (g:aY wr ab (jo a b))=>AR ab ab (jo a b) (jo a b) wr g g (by rw[G.out];omega) (Q6 _) (w_ hh) (w_ hh);rw[G.out]at DT;obtain⟨f1,f2⟩:=KZ (e:=a) d hg;obtain⟨r,cM⟩:∃r:Int,Oc a b d=r:=⟨_,rfl⟩;obtain⟨s0,es⟩:∃s0:Bool,(if d=true then false else s)=s0:=⟨_,rfl⟩;have cH:Oc a b d=r:=cM;have GP:=DF (l:=b) d hg;have a7:=Zd<|adA (l:=b) d hg;have PC:=Zd (λwr (x:i.grownBy wr none)=>aah (pK a b d) a7.out (λD=>by
  by_cases k:D<25
  .have:=(lY _).1 GP D k;have:=(FJ D k).2.2;omega
  rw[dI _ D (by rw[a7.out];omega)];omega) GP a0 c0 wr (kC hW x))
 have PY:=Zd λwr (x:i.grownBy wr none)=>Ik i a0 c0 hW a1 c1 hS a2 c2 hG (fF a) s (aT _ _ _) hg (pK a b d) a7.out GP wr x;have cs:=Zd<|uD (l:=fF a) (pK a b d) (aT _ _ _);obtain⟨y,av⟩:∃y,(Xu (lZ a b)).set 0 r=y:=⟨_,rfl⟩;have bv:=Zs (y.length=25) (by rw[<-av,XB];exact qy _);have dr:=Zs (aB y 0=r) (by rw[<-av];rw[iM _ _ _ (by rw[qy];omega),Q9 rfl]);have UG:=λc=>wZ (jo a b) f1 f2 (mX (lZ a b)) ns c;have ez:=Zd (show ∀c,(r=2->c=0)->(¬r=2->c=2)->rY y (sJ (iV (lZ a b)) (sj a d) (jo a b)) c=pK a b d from λc z0 z2=>by
  by_cases q2:r=2
  .rw[z0 q2];show y=_;rw[<-av,q2,ajG T.1];unfold pK O_;rw[cH,q2,Q9 rfl]
  rw[z2 q2,Xt _ r bv.out dr.out T.1 (λD hi=>by rw[<-av];rw[iM _ _ _ (by rw[qy];omega),X9 gO,Js T.1 _ gO,Q9 gO,Nat.add_sub_cancel_left]) (UG 0).len (UG 1).len];unfold pK O_;rw[cH,X9 q2])
 have bx:=Zd λc=>show(rY y (sJ (iV (lZ a b)) (sj a d) (jo a b)) c).length=25 by rw[uG];exact bv.out
 have dw:=Zd λc=>(DJ (sJ (iV (lZ a b)) (sj a d) (jo a b)) bv.out 0 gO c).trans dr.out;have cw:=Zd λc (hk:c<2)=>Xr (sJ (iV (lZ a b)) (sj a d) (jo a b)) bv.out c hk (UG c).len;have cy:=Zd λc=>show jd (rY y (sJ (iV (lZ a b)) (sj a d) (jo a b)) c) (9+8*c) (sJ (iV (lZ a b)) (sj a d) (jo a b) c)=rY y (sJ (iV (lZ a b)) (sj a d) (jo a b)) (c+1)from rfl;have MG:=λc=>zB (jo a b) f1 f2 (mX (lZ a b)) ns c;have ML:=Zd λc=>rE (iV (lZ a b)) (jo a b) f1 c;have AW:=λc=>KY (jo a b) f1 f2 (mX (lZ a b)) ns c;have b9:=Zd λc=>(AW c).len;have cC:=Zd λc=>(UG c).len;have cv:=Zd λ(c:Nat) wr=>Cu (bM (wB (iV (lZ a b)) (sj a d) (jo a b) c) 0 8) (iV (lZ a b)) (aT _ _ _) (mX _) (jM (MG c)) ns c wr;have bb:=Zs (∀(c:Nat),c<2->∀(l:Bool) (vs:Value) (wr:World),i.grownBy wr none->aY wr vs (bM (jo a b) (40*c) 40)->Calls prog 28 #[bL (wB (iV (lZ a b)) (sj a d) (jo a b) c) l,.agg (aF (D8 (iV (lZ a b)) (sj a d) (jo a b) c)),vs] wr (jB wr (.agg (aF (sJ (iV (lZ a b)) (sj a d) (jo a b) c))))) (λc hk l vs wr x g=>Qm wr a1 c1 (kS hS x) a2 c2 (ng hG x) (wB (iV (lZ a b)) (sj a d) (jo a b) c) l (rE _ _ f1 c) (MG c) (D8 (iV (lZ a b)) (sj a d) (jo a b) c) (AW c) vs (bM (jo a b) (40*c) 40) g (aT _ _ _) ((qQ _ _ _).2 (λD hi=>(bD _).1 (w_ hh) _ (by rw[G.out];omega))));have bE:=Zd λ(c:Nat) (l:Bool) wr (x:i.grownBy wr none)=>Bq wr a1 c1 (kS hS x) a2 c2 (ng hG x) (wB (iV (lZ a b)) (sj a d) (jo a b) c) l (rE _ _ f1 c) (og (rE _ _ f1 c) (MG c)) (sJ (iV (lZ a b)) (sj a d) (jo a b) c) (UG c);have cq:=Zd λ(c:Nat) vs wr (g:aY wr vs (tQ (wB (iV (lZ a b)) (sj a d) (jo a b) c) (sJ (iV (lZ a b)) (sj a d) (jo a b) c))) (sh:rD vs (tQ (wB (iV (lZ a b)) (sj a d) (jo a b) c) (sJ (iV (lZ a b)) (sj a d) (jo a b) c)))=>pF (D8 (iV (lZ a b)) (sj a d) (jo a b) c) (bM (Cb (wB (iV (lZ a b)) (sj a d) (jo a b) c) (sJ (iV (lZ a b)) (sj a d) (jo a b) c)) 8 8) (AW c).len (aT _ _ _) vs (tQ (wB (iV (lZ a b)) (sj a d) (jo a b) c) (sJ (iV (lZ a b)) (sj a d) (jo a b) c)) wr g sh (by rw[Dp (UG c)];omega);have cB:=Zd λc=>show(Cb (wB (iV (lZ a b)) (sj a d) (jo a b) c) (sJ (iV (lZ a b)) (sj a d) (jo a b) c)).length=101 by rw[Ah];exact rE _ _ f1 c
 have cr:=Zd λc=>show jd (Cb (wB (iV (lZ a b)) (sj a d) (jo a b) c) (sJ (iV (lZ a b)) (sj a d) (jo a b) c)) 8 (GH (D8 (iV (lZ a b)) (sj a d) (jo a b) c) (bM (Cb (wB (iV (lZ a b)) (sj a d) (jo a b) c) (sJ (iV (lZ a b)) (sj a d) (jo a b) c)) 8 8) (tQ (wB (iV (lZ a b)) (sj a d) (jo a b) c) (sJ (iV (lZ a b)) (sj a d) (jo a b) c)))=wB (iV (lZ a b)) (sj a d) (jo a b) (c+1)from rfl;have ew:=Zd λc=>show iF (bM (wB (iV (lZ a b)) (sj a d) (jo a b) c) 0 8) (iV (lZ a b)) c=D8 (iV (lZ a b)) (sj a d) (jo a b) c from rfl;have ao:=Zs (wB (iV (lZ a b)) (sj a d) (jo a b) 0=if d=true then iY else fF a) (by show sj a d=_;unfold sj;rcases d<;>rfl);have a5:=Zd (show r=0->y=Xu (lZ a b)from λk=>by
  rw[<-av,k];refine afZ (Xu (lZ a b)) 0 0 ?_;rw[Js T.1 0 gO,X9 gO])
 have cf:=Zd λ(c:Nat) (hk:c<2)=>ajH (jo a b) c (by rw[G.out];omega);have cd:=Zd λ(dp:L) (e8:Bool) (g:dp.length=101)=>aer [n,o,p,q] (nH a b) dp e8 rfl ad.out g;have FL:=Zs (([n,o,p,q]++(nH a b++lH (fF a) (pK a b d))).length=225) (by rw[ZB,ZB,ad.out,cs.out];rfl);have bi:=Zd (show ∀vb vl u,iT i.heap.size u vb (GJ (pK a b d))->fO i.heap.size u vl (qK (fF a) (pK a b d))->i.grownBy u none->rO i (lJ a b d) (mK a b d) (lK a b d) (lM a b d) (iw a b) (.returned (.tuple #[gu ([n,o,p,q]++(nH a b++lH (fF a) (pK a b d))) (mU (pK a b d)),vb,vl,.int .i64 0])) u from λvb vl u o1 o2 k=>
  ⟨vb,vl,by rw[(lN d U).1,(lN d U).2.1,(lN d U).2.2.2.2,da.out],by rw[(lN d U).2.2.1];exact o1,by rw[(lN d U).2.2.2.1];exact o2,k⟩)
 have ck:=Zd av;have fj:=afY;have eu:=dM;have a9:=Zd (show(d=true/\r=1)\/(d=false/\fU (jo a b) (jo a b) 80<1280/\r=2)\/(d=false/\¬fU (jo a b) (jo a b) 80<1280/\r=0)from by
  rw[<-cM];unfold Oc;cases d
  .by_cases hd:fU (jo a b) (jo a b) 80<1280
   .exact .inr (.inl ⟨rfl,hd,by rw[X9 (by decide),Q9 hd]⟩)
   exact .inr (.inr ⟨rfl,hd,by rw[X9 (by decide),X9 hd]⟩)
  exact .inl ⟨rfl,Q9 rfl⟩)
 clear hl hg hh hc B el en eo ep U ei da T ns f1 f2 cH GP hW hS hG av UG MG AW cM;have an:=Zd es;clear es;generalize rO i (lJ a b d) (mK a b d) (lK a b d) (lM a b d) (iw a b)=fm at *
 unfold bL at GD PY FR bE bb;unfold jB at FR;unfold gu at hz bi ⊢;generalize yK (qZ (nH a b))=le at *
 generalize yL (qZ (nH a b))=lg at *
 generalize nL (qZ (nH a b))=KK at *
 generalize ff:((aa7 (nH a b):Int)-31)=cx at CO;clear ff;generalize qZ (nH a b)=cA at *
 generalize sJ (iV (lZ a b)) (sj a d) (jo a b)=z at *
 generalize D8 (iV (lZ a b)) (sj a d) (jo a b)=AS at *
 generalize wB (iV (lZ a b)) (sj a d) (jo a b)=t at *
 generalize iV (lZ a b)=ah at *
 generalize lZ a b=k at *
 generalize fU (jo a b) (jo a b) 80=dd at *
 generalize lH (fF a) (pK a b d)=af at *
 generalize qK (fF a) (pK a b d)=YL at *
 generalize mU (pK a b d)=E at *
 generalize GJ (pK a b d)=YB at *
 generalize pK a b d=PF at *
 go_enter func15,ntmps15;go_upto_region 1 with fail;generalize (i.alloc (.cells (bV a s).toArray 55)).alloc (.cells (bV (au 225) false).toArray 55)=W0 at *
 go_wp2_with (first|refine lV 124 Q0.out.1 aK (by rw[CE.out];omega) PM.out ?_);refine(GD.out W0).mono ?_;rintro j W1 ⟨rfl,g1⟩;have Q1:=Zd<|Q0.out.aC g1;clear Q0 g1 GD;go_wp2_with (first|refine lV 0 Q1.out.1 uo (by rw[CE.out];omega) PH.out ?_);refine(Z.out W1 (HI.out W1 Q1.out.2.2)).mono ?_;rintro j W2 ⟨vc,rfl,ic,g2⟩;have Q3:=Zd<|(Q1.out.aC g2).aC (aj W2 (.cells #[.int .i64 n,.int .i64 o,.int .i64 p,.int .i64 q] 48) none);have BH:=Zs (iQ (W2.alloc (.cells #[.int .i64 n,.int .i64 o,.int .i64 p,.int .i64 q] 48)) W2.heap.size 48 [n,o,p,q]) (iQ.new W2 48 [n,o,p,q]);have IC:=Zd<|aR ic (aj W2 (.cells #[.int .i64 n,.int .i64 o,.int .i64 p,.int .i64 q] 48) none);obtain⟨ac,cc,rfl⟩:=qz ic (by rw[G.out];omega);rw[G.out]at IC ⊢;clear Q1 g2 Z ic;go_upto_region 8 with fail;generalize W2.alloc (.cells #[.int .i64 n,.int .i64 o,.int .i64 p,.int .i64 q] 48)=W3 at *
 generalize W2.heap.size=bh at *
 have N3:=Zs (i.heap.size+1+1<=W3.heap.size) (Q3.out.2.1.lt);have IP:=Zd<|Q3.out.1.input 84 40 40 (by rw[HE.out];omega) gO;have SP:=Zs (rD (.slice (some ⟨i.heap.size,84,none⟩) 40 40) (bM a 84 40)) (.inr ⟨_,_,by rw[aT]⟩);go_wp2_with (at_builtin;refine dH (by rfl) _ _ rfl W3.heap.size _ _ [] (bM a 84 40) rfl rfl (bN _ _) IP.out SP.out (by rw[aT];simp) (Q6 _) ?_);intro v4 w4 o4 g4;(try rw[List.nil_append]at o4);have Q4:=Zd<|Q3.out.aC g4;have cX:=Zd<|BH.out.aC g4;have di:=Zd<|aR IC.out g4;have SC:=Zs (rD (.slice (some ac) 80 cc) (jo a b)) (.inr ⟨_,_,by rw[G.out]⟩);have O4:=Zd o4;have N4:=Zd<|Q6 w4.heap.size;have G4:=Zd g4;have A4:=Zs (∀j,v4.ownBlock=some j->W3.heap.size<=j) (λj C=>(o4.lt j C).1);have S4:=Zs (W3.heap.size<=w4.heap.size) (g4.size);clear o4 g4 IP SP;go_wp2_with (at_builtin;refine dH (by rfl) _ _ rfl W3.heap.size _ _ (bM a 84 40) (jo a b) rfl rfl O4.out di.out SC.out (by rw[aT,G.out];omega) S4.out ?_);intro v5 W5 o5 g5;rw[show bM a 84 40++jo a b=nH a b from rfl]at o5;have O5:=Zd o5;have Q5:=Zd<|Q4.out.own g5 (λj C=>by have:=A4.out j C;have:=N3.out;omega);have cY:=Zd<|Zh cX.out g5 (λj C=>by have:=A4.out j C;have:=BH.out.lt;omega);have dj:=Zs (aY W5 (.slice (some ac) 80 cc) (jo a b)) (Zi (w:=W3) IC.out G4.out g5 (λj C=>A4.out j C));clear o5 g5 O4 Q4 cX di A4 S4 N4 G4 Q3 BH IC;obtain⟨gi,ci,rfl,_,_,_⟩:=O5.out.form (by rw[ad.out];omega);rw[ad.out]at O5 ⊢;generalize nH a b=II at *
 generalize jo a b=CC at *
 go_upto_region 9 with fail;go_wp2_with fail;refine(CO.out _ W5 O5.out.ints).mono ?_;rintro j W6 ⟨rfl,g6⟩;obtain⟨K,M,O⟩:=dG W6 69 9 cA RL.out;have w:=Zd K;have B7:=Zd M;have G7:=Zd<|ay g6 O;rw[oV]at w B7 G7;clear g6 CO K M O;go_upto_region 10 with(first|refine sA cA w.out (by rw[RL.out,ak]) (by rw[ak];exact bZ) ?_);clear w;generalize b_ _ W6.heap.size cA=W7 at *
 generalize W6.heap.size=bR at *
 go_wp2_with (first|refine lA B7.out (by rw[RL.out];exact bZ) ?_);refine(LV.out W7).mono ?_;rintro j W8 ⟨rfl,g8⟩;obtain⟨K,M,O⟩:=dG W8 50 8 KK KL.out;have w:=Zd K;have B9:=Zd M;have G9:=Zd<|ay G7.out (ay g8 O);rw[uR]at w B9 G9;clear g8 LV K M O G7 B7;go_upto_region 13 with(first|refine sA KK w.out (by rw[KL.out,ak]) (by rw[ak];exact dX) ?_);clear w;generalize b_ _ W8.heap.size KK=v at *
 generalize W8.heap.size=bk at *
 have ae:=Zd<|Q5.out.aC G9.out;have c3:=Zd<|cY.out.aC G9.out;have cm:=Zd<|aR dj.out G9.out;have dl:=Zd<|aR O5.out.ints G9.out;clear G9 Q5 cY dj O5;have b4:=Zd<|iQ.new v 79 (au 25);have PA:=b4.out.dQ (m:=au 25) rfl;have cF:=Zd PA.1;have bj:=Zd<|aG (aj v (.cells (aF (au 25)) 79) none) PA.2 (Q6 _);have cG:=Zs ((aQ (au 25)).length=25) (by rw[aN,ak]);have d4:=Zd<|dO (au 25);have c6:=Zs (jd (au 25) 1 k=Xu k) (rfl);have d5:=Zd<|ak 25;clear PA;unfold iQ at b4;generalize au 25=cD at *
 go_upto_region 14 with(first|refine sV 0 (aQ cD) b4.out gO (by rw[cG.out];exact dS) d4.out ?_);(try simp only[Act.put]);clear b4 fj d4;generalize dz (v.alloc (.cells (aF cD) 79)) v.heap.size 0 (aQ cD)=eR at *
 have NP:=Zd<|Q6 v.heap.size;have cV:=Zd<|B9.out.aC bj.out;generalize ek:v.heap.size=F at cF ⊢;have cj:=Zd ek;clear ek;go_wp2_with (first|refine lA cV.out (by rw[KL.out];exact dX) ?_);refine(QA.out eR (ay ae.out.2.2 bj.out)).mono ?_;rintro j eV ⟨rfl,cI⟩;have ca:=Zd<|cF.out.aC cI;have PU:=ca.out.put 1 k (by rw[QL.out,d5.out];omega);have ax:=Zd PU.1;rw[c6.out]at ax;have cg:=Zd<|aG (ay bj.out cI) PU.2 (by have:=cj.out;omega);have IQ:=Zd<|dO k;have cn:=Zs ((aQ k).length=8) (by rw[aN];exact QL.out);clear cI QA cF bj PU cV B9 KL;go_upto_region 15 with(first|refine sV 1 (aQ k) ca.out.v (by rw[cn.out,cG.out];omega) (by rw[cn.out];exact dX) IQ.out ?_);(try simp only[Act.put]);clear ca IQ cn c6 cG d5;generalize dz eV F 1 (aQ k)=eW at *
 have PQ:=Zd<|iQ.part (l:=Xu k) 1 8 (by rw[qy];omega);rw[ag9 QL.out]at PQ;have dv:=Zs ((aQ (Xu k)).length=25) (by rw[aN];exact qy k);go_wp2_with (first|refine lV 1 ax.out.v dX (by rw[dv.out];omega) PQ.out ?_);refine(VA.out eW (ay ae.out.2.2 cg.out)).mono ?_;rintro j bX ⟨rfl,cJ⟩;obtain⟨K,M,O⟩:=dG bX 50 8 ah NL.out;have w:=Zd K;have BN:=Zd M;have bl:=Zd<|ay cJ O;have br:=Zs (F<bX.heap.size) ((ax.out.aC cJ).lt);rw[uR]at w BN bl;clear cJ VA K M O PQ dv;go_upto_region 16 with(first|refine sA ah w.out (by rw[NL.out,ak]) (by rw[ak];exact dX) ?_);clear w;generalize b_ _ bX.heap.size ah=R at *
 generalize bX.heap.size=bn at *
 have cW:=Zd<|ax.out.aC bl.out;have ch:=Zd<|ay cg.out bl.out;have dE:=Zd<|ae.out.aC ch.out;have bq:=Zd<|bU.new R (au 101) false;have MP:=bq.out.dQ (m:=fF a) (t:=s) (ak 101) (aT _ _ _);have a4:=Zs (bn<R.heap.size) (BN.out.lt);have Q:=Zs (NB3 v F bn R.heap.size) (⟨by have:=cj.out;omega,br.out,a4.out⟩);have ga:=aj R (.cells (aP (au 101) false).toArray 53) none;have Y:=Zs (K6 v F bn R.heap.size (Xu k) ah (fF a) s (dz (R.alloc (.cells (aP (au 101) false).toArray 53)) R.heap.size 0 (aP (fF a) s))) (⟨aG (ay ch.out ga) MP.2 (by have:=cj.out;have:=br.out;have:=a4.out;omega),(cW.out.aC ga).aH MP.2 (by have:=br.out;have:=a4.out;omega),(BN.out.aC ga).aH MP.2 (by have:=a4.out;omega),MP.1⟩);have d3:=Zd<|aJ (ak 101) false;have az:=Zd<|aJ (show(fF a).length=101 from aT _ _ _) s;have dk:=Zd<|bO (fF a) s;clear MP ga bl ax cg cW ch BN br;unfold bU at bq;unfold bL at eu;generalize aP (au 101) false=ZM at *
 go_upto_region 17 with(first|refine lV 124 dE.out.1 aK (by rw[CE.out];omega) PM.out ?_|refine sV 0 (aP (fF a) s) bq.out (by rw[d3.out,az.out];omega) (by rw[az.out];exact aK) dk.out ?_);(try simp only[Act.put]);clear bq eu dE dk az d3 a4;generalize dz (R.alloc (.cells ZM.toArray 53)) R.heap.size 0 (aP (fF a) s)=d1 at *
 generalize R.heap.size=bm at *
 go_upto_if 86 with fail;go_cut []from 28 (λwx=>K6 v F bn bm y ah (t 0) s0 wx)
 case first=>
  rcases a9.out with⟨r1,k1⟩|⟨r1,dc,k1⟩|⟨r1,dc,k1⟩
  .subst r1 k1;rw[Q9 rfl]at ao an;clear a5 a9 DT;go_wp2_with fail;refine(FR.out _).mono ?_;rintro j d2 ⟨rfl,ag⟩;have H:=Zd<|Y.out.aC ag;have e9:=H.out.2.1.cell 0 (by rw[qy];omega);have fa:=H.out.2.1.free 0;have ai:=Zd<|H.out.amS Q.out 0 1 (by rw[qy];omega);rw[ck.out]at ai;have J:=ai.out.allM Q.out iY false (aT _ _ _) j5;have ey:=Zd J.1;have c4:=Zd<|aJ j5 false;have az:=Zd<|aJ (show(fF a).length=101 from aT _ _ _) s;have eB:=Zd<|bO iY false;clear Y ag J FR H;unfold K6 at ai;generalize aP iY false=FC at *
   go_wp2_with (first|refine sV 0 FC ai.out.2.2.2 (by rw[az.out,c4.out];omega) (by rw[c4.out];exact aK) eB.out ?_);go_meet;rw[ao.out,<-an.out];exact ey.out
  .subst r1 k1;rw[X9 (by decide)]at ao an;have D9:=Zd dc;clear FR a5 a9 dc;go_wp2_with fail;refine(DT.out _ d1 (aR cm.out Y.out.1)).mono ?_;rintro j d2 ⟨rfl,ag⟩;have H:=Zd<|Y.out.aC ag;have e9:=H.out.2.1.cell 0 (by rw[qy];omega);have fa:=H.out.2.1.free 0;have ai:=Zd<|H.out.amS Q.out 0 2 (by rw[qy];omega);rw[ck.out]at ai;clear Y ag DT H;have dc:=D9.out;go_wp2_with fail;go_meet;rw[ao.out,<-an.out];exact ai.out
  subst r1 k1;rw[X9 (by decide)]at ao an;have PV:=Zd<|a5.out rfl;have D9:=Zd dc;clear FR a5 a9 dc;go_wp2_with fail;refine(DT.out _ d1 (aR cm.out Y.out.1)).mono ?_;rintro j d2 ⟨rfl,ag⟩;have H:=Zd<|Y.out.aC ag;clear Y ag DT;have dc:=D9.out;go_wp2_with fail;go_meet;rw[ao.out,<-an.out,PV.out];exact H.out
 case rest=>
 have c7:=Zd hcut;clear hcut Y FR DT a5 a9 an ao ck;go_wp2_with fail;go_loopw [23] (λD wr=>∃c:Nat,D=.int .i64 c/\c<=2/\Hid (r=2->c=0)/\Hid (K6 v F bn bm (rY y z c) ah (t c) s0 wr)) (λD _=>2-(intOf D).toNat)
 case atStart=>exact⟨0,rfl,QN _,λ_=>rfl,c7.out⟩
 case round=>
  obtain⟨c,rfl,hk,hZ,B⟩:=hrel;clear c7;by_cases er:c<2/\¬r=2
  .obtain⟨cN,cR⟩:=er;have fw:(r==2)=false:=beq_eq_false_iff_ne.2 cR;have eF:=Zs (r=2->c+1=0) (λfk=>absurd fk cR);clear cR hZ;have fo:(c:Int)<2:=gO;have cp:=B.out.2.1.cell 0 (by rw[bx.out];omega);rw[dw.out]at cp;obtain⟨l,cP⟩:∃l:Bool,s0=l:=⟨_,rfl⟩;have ap:=Zd<|bE.out c l;have dq:=Zd<|cq.out c;have bw:=Zd<|cv.out c;have ce:=Zd<|bb.out c cN l;have dx:=Zd<|cy.out c;have eI:=Zd<|cr.out c;have a3:=Zd<|ML.out c;have AL:=Zd<|b9.out c;have UL:=Zd<|cC.out c;have bC:=Zd<|cB.out c;have a6:=Zd<|bx.out c;have d6:=Zd<|bx.out (c+1);have dC:=Zd<|cw.out c cN;obtain⟨ev,et,cQ,_⟩:=ajF cm.out (show rD (.slice (some ac) 80 cc) CC from .inr ⟨_,_,by rw[G.out]⟩) (40*c) (40*c+40) gO (by rw[G.out];omega) (by rw[G.out];omega);rw[cf.out c cN]at cQ;have IS:=Zd cQ;clear cQ;rw[show iF (bM (t c) 0 8) ah c=AS c from ew.out c]at bw;clear bE cq cv bb cy cr cB cw b9 cC cf PC PY bi cd;have du:=Zd<|sS (AS c) (bM (Cb (t c) (z c)) 8 8) (tQ (t c) (z c));generalize GH (AS c) (bM (Cb (t c) (z c)) 8 8) (tQ (t c) (z c))=PP at *
   generalize zn (AS c) (bM (Cb (t c) (z c)) 8 8) (tQ (t c) (z c))=LX at *
   generalize Nu (AS c) (bM (Cb (t c) (z c)) 8 8) (tQ (t c) (z c))=x3 at *
   generalize tQ (t c) (z c)=XK at *
   generalize Cb (t c) (z c)=SM at *
   generalize AS c=AK at *
   generalize z c=UK at *
   obtain⟨MK,cL⟩:∃MK,t c=MK:=⟨_,rfl⟩;rw[cL,cP]at B;rw[cL]at ap bw ce a3;have eA:=Zd cP;clear cP;obtain⟨PK,ej⟩:∃PK,rY y z c=PK:=⟨_,rfl⟩;rw[ej]at B dx a6;clear cL ej;generalize d7:rY y z (c+1)=eQ at *
   generalize d8:t (c+1)=fl at *
   have e5:=Zd d7;have e6:=Zd d8;clear d7 d8;have bc:=Zd<|aJ a3.out l;have cU:=Zd<|bU.all l a3.out;have bd:=Zd<|aJ bC.out l;have eE:=Zd<|bO SM l;have P0:=Zd<|bU.part (l:=MK) l 0 8 (by rw[a3.out];omega);have P8:=Zd<|bU.part (l:=SM) l 8 8 (by rw[bC.out];omega);have dy:=Zd<|iQ.part (l:=eQ) (9+8*c) 8 (by rw[d6.out];omega);rw[dC.out]at dy;clear dC;go_upto_region 24 with fail;clear cp;go_wp2_with (first|refine lV 0 B.out.2.2.2 dX (by rw[bc.out];omega) P0.out ?_|refine lA B.out.2.2.1 (by rw[NL.out];exact dX) ?_);refine(bw.out _).mono ?_;rintro j w2 ⟨rfl,g2⟩;obtain⟨K,M,O⟩:=dG w2 69 9 AK AL.out;have w:=Zd K;have B3:=Zd M;have E3:=Zd<|(B.out.aC g2).aC O;have ct:=Zs (bm<w2.heap.size) ((B.out.aC g2).2.2.2.lt);rw[oV]at w B3 E3;clear g2 K M O B bw P0;go_upto_region 25 with(first|refine sA AK w.out (by rw[AL.out,ak]) (by rw[ak];exact bZ) ?_);clear w;generalize b_ _ w2.heap.size AK=w3 at *
   generalize w2.heap.size=ba at *
   have eJ:=Zs (ba+1<=w3.heap.size) (B3.out.lt);have c5:=Zd λX (g:dB w3 X)=>ce.out ev X (ay ae.out.2.2 (ay E3.out.1 g)) (aR IS.out (ay E3.out.1 g));have ap:=Zd λX (g:v.grownBy X none)=>ap.out X (ay ae.out.2.2 g);obtain⟨K1,fb⟩:∃K1:Nat,40*c=K1:=⟨_,rfl⟩;obtain⟨K2,fc⟩:∃K2:Nat,K1+40=K2:=⟨_,rfl⟩;rw[fb,fc]at et;have am:=Zs (IntKind.i64.wrap ((40:Int)*(c:Int))=(K1:Int)) (by rw[eG _ gO gO];omega);have bg:=Zs (IntKind.i64.wrap ((K1:Int)+40)=(K2:Int)) (by rw[eG _ gO gO];omega);clear ce IS;refine bW 13 (dB w3) 14 (by rfl) _ rfl (by kernel_rfl) λe=>?_;have f:=(aS w3);refine aZ 0 f e λe=>?_;refine iN (hy:=by intro u m;(try dsimp only at m);exact bS rfl rfl (E3.out.2.2.2.aC m) _ underlying53 rfl aK (by rw[bc.out];omega) _ cU.out) (v:=.agg (aP MK l).toArray) 1 f e λe=>?_;refine iN (hy:=by intro u m;(try dsimp only at m);exact yA (B3.out.aC m) (by rw[AL.out];exact bZ)) (v:=.agg (aF AK)) 2 f e λe=>?_;refine aZ 3 f e λe=>?_;refine aZ 4 f e λe=>?_;refine iN (hy:=by intro u m;(try dsimp only at m);go_simp;(first|exact am.out|rw[am.out]|simp only[am.out])) (v:=.int .i64 (K1:Int)) 5 f e λe=>?_;refine aZ 6 f e λe=>?_;refine iN (hy:=by intro u m;(try dsimp only at m);go_simp;(first|exact am.out|rw[am.out]|simp only[am.out])) (v:=.int .i64 (K1:Int)) 7 f e λe=>?_;refine iN (hy:=by intro u m;(try dsimp only at m);go_simp;(first|exact bg.out|rw[bg.out]|simp only[bg.out])) (v:=.int .i64 (K2:Int)) 8 f e λe=>?_;refine aZ (v:=ev) 9 f e λe=>?_;refine iB (i:=11) (v:=?fp) rfl (by kernel_rfl) e (λ_ _ _ g=>g) (Or.inl ⟨by rfl,?e0⟩) f λe=>?fq
   case e0=>(intro u _;go_simp;(try with_reducible rfl))
   (try simp only[sZ]);refine jY 10 e λco P=>?_;(try simp only[sZ]);go_simp;refine(c5.out _ f).mono ?_;rintro j w4 ⟨rfl,q4⟩;have Q4:=Zd q4;clear q4;go_wp2_with fail;have ar:=(aX f Q4.out);refine P.out _ _ (λ_=>ar) λe=>?_;clear P;replace f:=ar;clear ar;(try simp only[sZ]);refine iN (hy:=by intro u m;(try dsimp only at m);go_simp;(try simp only[Nat.mul_comm]);(try with_reducible rfl)) (v:=.pointer (some ⟨F,9+8*c,none⟩)) 12 f e λe=>?_;refine jY 13 e λco P=>?_;(try simp only[sZ]);have E4:=Zd<|E3.out.aC f;have E5:=Zd<|E4.out.Xq Q.out (9+8*c) UK (by rw[UL.out,a6.out];omega);rw[dx.out]at E5;have B5:=Zd<|(B3.out.aC f).aH (E4.out.2.1.put (9+8*c) UK (by rw[UL.out,a6.out];omega)).2 (by have:=ct.out;have:=Q.out.b;have:=Q.out.c;omega);have N5:=Zd<|YM (YM eJ.out f.size) (E4.out.2.1.put (9+8*c) UK (by rw[UL.out,a6.out];omega)).2.size;refine dD rfl 76 _ _ rfl F (9+8*c) 79 (aQ PK) (aQ UK) rfl rfl E4.out.2.1 (by rw[aN,aN,UL.out,a6.out];omega) (by rw[aN,UL.out];exact Gy) (dO _) ?_;refine P.out _ _ (λg=>by cases g) λe=>?_;clear P f;(try simp only[sZ]);clear E4 E3 B3 Q4;generalize dz w4 F (9+8*c) (aQ UK)=w5 at *
   refine bI _ _ _ _ (by rfl) ?_;refine wm ?_;clear c5 et am bg;have ap:=Zd λX (g:dB w5 X)=>ap.out X (ay E5.out.1 g);go_upto_region 27 with fail;refine bW 9 (dB w5) 11 (by rfl) _ rfl (by kernel_rfl) λe=>?_;have f:=(aS w5);refine iN (hy:=by intro u m;(try dsimp only at m);exact bS rfl rfl (E5.out.2.2.2.aC m) _ underlying53 rfl aK (by rw[bc.out];omega) _ cU.out) (v:=.agg (aP MK l).toArray) 0 f e λe=>?_;refine aZ 1 f e λe=>?_;refine aZ 2 f e λe=>?_;refine iN (hy:=by intro u m;(try dsimp only at m);go_simp;(try simp only[Nat.mul_comm]);(try with_reducible rfl)) (v:=.pointer (some ⟨F,9+8*c,none⟩)) 3 f e λe=>?_;refine iN (hy:=by intro u m;(try dsimp only at m);exact bS rfl rfl (E5.out.2.1.v.aC m) _ underlying76 rfl Gy (by rw[aN,d6.out];omega) _ dy.out) (v:=.agg (aQ UK).toArray) 4 f e λe=>?_;refine jY 5 e λco P=>?_;(try simp only[sZ]);go_simp;refine(ap.out _ f).mono ?_;rintro j w6 ⟨v6,rfl,o6,q6⟩;have dT:=Zd q6;have X6:=Zd<|o6.base (YM N5.out f.size);clear q6 o6;unfold bL;go_wp2_with fail;have ar:=(aX f dT.out);refine P.out _ _ (λ_=>ar) λe=>?_;clear P;replace f:=ar;clear ar;(try simp only[sZ]);refine aZ 6 f e λe=>?_;refine aZ 7 f e λe=>?_;refine iB (i:=8) (v:=?ft) rfl (by kernel_rfl) e (λ_ _ _ g=>g) (Or.inl ⟨by rfl,?e7⟩) f λe=>?fv
   case e7=>(intro u _;go_simp;(try with_reducible rfl))
   (try simp only[sZ]);refine jY 9 e λco P=>?_;(try simp only[sZ]);have E6:=Zd<|E5.out.aC f;have J:=E6.out.allM Q.out SM l a3.out bC.out;have E7:=Zd J.1;have X7:=Zd<|X6.out.bH J.2 (by have:=ct.out;omega);have B7:=Zd<|(B5.out.aC f).aH J.2 (by have:=ct.out;omega);have N7:=Zd<|YM (YM N5.out f.size) J.2.size;clear J X6;refine dD rfl 53 _ _ rfl bm 0 53 (aP MK l) (aP SM l) rfl rfl E6.out.2.2.2 (by rw[bc.out,bd.out];omega) (by rw[bd.out];exact aK) eE.out ?_;refine P.out _ _ (λg=>by cases g) λe=>?_;clear P f;(try simp only[sZ]);clear E6 E5 B5 dT;generalize dz w6 bm 0 (aP SM l)=w7 at *
   refine bI _ _ _ _ (by rfl) ?_;refine wpAny_take (i:=10) (v:=?fr) rfl (by kernel_rfl) (by kernel_rfl) (by kernel_rfl) (λ_ _ _ g=>g) (Or.inl ⟨by rfl,?e4⟩) ?fs
   case e4=>(intro u;go_simp;(try with_reducible rfl))
   (try simp only[sZ]);refine wm ?_;clear ap;go_upto_region 28 with fail;have ea:=Zd<|dq.out v6 w7 X7.out.ints X7.out.xJ;go_wp2_with (first|refine lA B7.out (by rw[AL.out];exact bZ) ?_|refine lV 8 E7.out.2.2.2 dX (by rw[bd.out];omega) P8.out ?_);refine ea.out.mono ?_;rintro j w8 ⟨v8,rfl,o8,g8⟩;have E8:=Zd<|E7.out.aC g8;have J:=E8.out.anq Q.out 8 PP (by rw[du.out,bC.out];omega);have E9:=Zd J.1;rw[eI.out]at E9;have eC:=Zd<|dO PP;have dn:=Zs ((aQ PP).length=8) (by rw[aN];exact du.out);clear ea dq o8 g8 J E7 B7 X7 N7;go_upto_region 23 with(first|refine sV 8 (aQ PP) E8.out.2.2.2 (by rw[dn.out,bd.out];omega) (by rw[dn.out];exact dX) eC.out ?_);(try simp only[Act.put]);clear E8;generalize dz w8 bm 8 (aQ PP)=w9 at *
   go_wp2_with fail;go_roundw
   case rel=>exact⟨c+1,by go_num,gO,eF.out,by rw[e5.out,e6.out,eA.out];exact E9.out⟩
   case measure=>simp[intOf];omega
  have aA:=Zs (K6 v F bn bm PF ah (t c) s0 wr) (by rw[<-ez.out c hZ.out (λg=>gO)];exact B.out);have cp:=B.out.2.1.cell 0 (by rw[bx.out];omega);rw[dw.out]at cp;have C:((c:Int)<2/\(r==2)=true)\/¬(c:Int)<2:=by
   by_cases k:r=2
   .have:=hZ.out k;exact .inl ⟨gO,beq_iff_eq.2 k⟩
   exact .inr gO
  clear B hZ er bE cq cv bb cy cr cB cw b9 cC cf;generalize t c=MZ at *
  rcases C with⟨x1,x2⟩|x1
  all_goals
   have dt:=Zs ((aQ PF).length=25) (by rw[aN];exact a7.out);have ds:=Zd<|iQ.all PF 25 a7.out;go_upto_region 29 with fail;clear cp;go_wp2_with (first|refine lV 0 aA.out.2.1.v dS (by rw[dt.out];omega) ds.out ?_);refine(PC.out _ (ay ae.out.2.2 aA.out.1)).mono ?_;rintro j aq ⟨vb,rfl,ob,eh⟩;have aE:=Zd<|aA.out.aC eh;have NQ:=Zs (i.heap.size+1+1<=v.heap.size) (ae.out.2.1.lt);have OB:=Zd<|ob.base (b':=v.heap.size) aA.out.1.size;clear aA eh ob PC;go_upto_region 32 with fail;have eb:=Zd<|c3.out.aC aE.out.1;have df:=Zd<|iQ.all [n,o,p,q] 4 rfl;have bs:=Zd<|h_.new aq (au 225) false;have de:=Zs (([n,o,p,q]++au 221).length=225) (by rw[ZB,ak];rfl);have OA:=bs.out.dQ (m:=[n,o,p,q]++au 221) (t:=false) (ak 225) de.out;have bt:=Zd OA.1;have ga:=aj aq (.cells (bV (au 225) false).toArray 55) none;have db:=Zd<|aG ga OA.2 (Q6 _);have aw:=Zd<|bK de.out false;have dg:=Zd<|gG ([n,o,p,q]++au 221) false;have BF:=Zd λcT rest op cE i cz=>@Fw cT rest op cE i cz;unfold gu at BF;clear OA ga;unfold h_ at bs bt;replace BF:=Zd λcT rest op cE i cz fh j ho C=>BF.out cT rest op cE i cz fh j ho n o p q C;generalize bV ([n,o,p,q]++au 221) false=EC at *
   go_upto_region 33 with(first|refine lV 0 eb.out.v uo (by rw[aN];exact Q6 _) df.out ?_|refine BF.out _ _ _ _ _ _ rfl _ rfl rfl ?_|refine sV 0 EC bs.out (by rw[ZC.out,aw.out];omega) (by rw[aw.out];exact dN) dg.out ?_);(try simp only[Act.put]);clear bs eb df dg BF c3;generalize dz (aq.alloc (.cells (bV (au 225) false).toArray 55)) aq.heap.size 0 EC=eX at *
   have NO:=Zs (v.heap.size<=aq.heap.size) (aE.out.1.size);have eL:=Zs (bm<aq.heap.size) (aE.out.2.2.2.lt);have bf:=Zd<|aE.out.aC db.out;have ec:=Zd<|OB.out.aC db.out;clear OB aE;generalize aq.heap.size=bo at *
   have dm:=Zd<|aR dl.out bf.out.1;have d0:=Zd (λb7 (hj:b7<120)=>show eX.cell? ((⟨gi,0,none⟩:Addr).add b7)=some (.int .i64 (aB II b7))from by
    obtain⟨aa,fd,fe⟩:=kX dm.out b7 (by rw[ad.out];exact hj);cases fd;exact fe)
   go_wp2_with (refine xS rfl _ _ rfl bo 4 120 120 120 ci 55 EC II ⟨gi,0,none⟩ bt.out rfl rfl ad.out gO d0.out (by rw[aw.out];omega) ?_);intro b0 eg b5;have cu:=Zd eg;have GX:=Zs (v.grownBy b0 none) (aG bf.out.1 b5 NO.out);have c9:=Zs (iQ b0 F 79 PF) (bf.out.2.1.aH b5 (by have:=Q.out.b;have:=Q.out.c;have:=eL.out;omega));have ed:=Zd<|ec.out.aH b5 bt.out (by decide);have bz:=Zd<|ae.out.aC GX.out;clear eg b5 bt ec bf dm dl d0;go_upto_region 35 with fail;have eK:=Zs (bo<b0.heap.size) (cu.out.lt);go_wp2_with (first|refine lV 124 bz.out.1 aK (by rw[CE.out];omega) PM.out ?_|refine lV 0 c9.out.v dS (by rw[dt.out];omega) ds.out ?_);refine(PY.out b0 bz.out.2.2).mono ?_;rintro j eZ ⟨vl,rfl,ol,b6⟩;unfold bL;have bu:=Zd<|cu.out.aC b6;have CY:=Zd<|aJ cs.out E;have IY:=Zd<|bO af E;have cb:=Zs ((lu EC 4 (aQ II)).length=226) (by rw[af8 _ _ _ (by rw[aN,ad.out,aw.out];omega)];exact aw.out);have PV:=qM bu.out 124 (aP af E) (by rw[CY.out,cb.out];omega);rw[cd.out af E cs.out]at PV;have eM:=Zd PV.1;have dQ:=Zd<|(bz.out.aC b6).own PV.2 (λj C=>by cases C;have:=NO.out;have:=NQ.out;omega);have ee:=Zd<|(ed.out.aC b6).aH PV.2 bu.out (by decide);have ef:=Zd<|(ol.base (b':=bo+1) eK.out).bH PV.2 gO;clear PV b6 ol PY bz c9 cu GX ed;go_upto_region 36 with(first|refine sV 124 (aP af E) bu.out (by rw[CY.out,cb.out];omega) (by rw[CY.out];exact aK) IY.out ?_);(try simp only[Act.put]);clear bu IY CY cb aw;generalize dz eZ bo 124 (aP af E)=fn at *
   have CF:=Zd<|bK FL.out E;have AF:=Zd<|h_.all E FL.out;have IF:=Zd<|gG ([n,o,p,q]++(II++af)) E;have PB:=Zd<|dQ.out.fin ([n,o,p,q]++(II++af)) E FL.out;have FF:=Zd<|bi.out _ _ _ ((ee.out.bH PB.out.2.2 (by have:=NQ.out;omega)).base (b':=i.heap.size) (by have:=NQ.out;omega)) ((ef.out.bH PB.out.2.2 (by have:=NO.out;have:=NQ.out;omega)).base (b':=i.heap.size) (by have:=NO.out;have:=NQ.out;omega)) PB.out.2.1;clear bi ee ef cd FL;generalize [n,o,p,q]++(II++af)=EM at *
   go_wp2_with (first|refine lV 0 eM.out dN (by rw[CF.out];omega) AF.out ?_|refine sV 0 (bV EM E) dQ.out.2.1 (by rw[ZC.out,CF.out];omega) (by rw[CF.out];exact dN) IF.out ?_);have fi:=qG PB.out.1 (by rw[CF.out];exact dN);refine QB (v:=.tuple #[.agg (bV EM E).toArray,_,_,.int .i64 0]) ?_ rfl FF.out;simp[results,results15,asAddr,Act.put,fi]

end Go.Proofs.YtmpfdogdinhhcaaGreatDoor
