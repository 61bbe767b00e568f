import Derived.Test.YtmpfdogdinhhcaaGreatDoorBun7
import Derived.Test.YtmpfdogdinhhcaaGreatDoorBun4
namespace Go.Proofs.YtmpfdogdinhhcaaGreatDoor
open Go.RowKit
open Tryz
set_option linter.unusedSimpArgs false
set_option linter.unusedVariables false
set_option maxHeartbeats 4000000
set_option maxRecDepth 100000
set_option linter.defProp false
variable {w w' u:World}{n b k j:Nat}{l p r:List Int}{x v':Value}{T:TypeId}{s:Bool}{y:List Value}{z:Option Nat}{i:Int}{Q:Exit→Act→World→Prop}{a:Act}{o:Oper}{Z:Nat→Prop}{f:Nat→Int}
def U_ (a:bY w n 3 l)(b:l.length=40):aY w (.slice (S n) 40 40) l:=by refine⟨some (A n 0),40,by rw[b],gO,λ_=>⟨_,rfl,λc b=>?_⟩⟩;rw[Addr.add_mid,WT,a.cell c b]
def ana (b a:L)(e:Int)(c:b.length=8)(d:a.length=4):bM ((jd b 2 a).set 6 e) 2 4=a:=by refine(dL d (λa b=>?_)).symm;rw[iM _ _ _ (by rw[dV,c];omega),nO,gT _ _ _ _ (by rw[c];omega),pO,show 2+a-2=a by omega]
def aiv (a:L)(f:a.length=4)(d b e c:Int):(((jd [d,b,0,0,0,0,0,0] 2 a).set 6 e).set 7 c)=[d,b,aB a 0,aB a 1,aB a 2,aB a 3,e,c]:=by
 match a,f with
 | [g,h,i,j],_=>rfl
def aft (f:Nat)(e:V)(c:List Int)(d:V)(b:List Int)(a:W)(t:a.cell? (A f 0)=some e)(i:aY a e c)(o:aY a d b)(m:c.length<=1000000000000000000)(l:b.length<=1000000000000000000):Calls prog 179 #[d,.pointer (S f)] a λg j=>∃f,g=.returned f/\fO a.heap.size j f (J9 c b)/\a.grownBy j none:=by
 have j:=Zd<|ahE e d c b a i o m l;obtain⟨q,r,rfl,_,_⟩:=i;generalize J9 c b=L at *
 generalize Qu c b=s at *
 go_enter func179,ntmps179;go_wp2_with fail;refine j.mono ?_;rintro g v ⟨u,rfl,p,n⟩;have I:=Zd p;have k:=Zd n;go_wp2_with fail;go_ret;exact⟨_,rfl,I,k⟩
def acd (a:Array V)(b:W):(callFunc 179 a).run prog b=.ok (.enter 179 a) b:=by kernel_rfl
structure NuB (w W:World) (m a:L) (s:Bool) (br:Nat) (vr:Value):Prop where
 mem:bU W w.heap.size m s
 zZ:aW W (w.heap.size+1) 69 (aQ a)
 res:iQ W (w.heap.size+1+1) 76 (au 8)
 rng:W.cell? ⟨br,0,none⟩=some vr
 ring:aY W vr (qW a)
 Ie:w.grownBy W none
def NuB.aC {W:World}(b:NuB w W l p s n x)(a:W.grownBy w' none):NuB w w' l p s n x:=⟨b.mem.aC a,b.zZ.aC a,b.res.aC a,aU a b.rng,aR b.ring a,ay b.Ie a⟩
def anI (a:W)(L:List Int)(c:V)(b:W):Prop:=fO a.heap.size b c L/\a.grownBy b none
def NuS (W:World)(b:Nat)(c:L)(a:World):Prop:=W.grownBy a none/\iQ a b 76 c
def NuS.aC {W:World}(b:NuS W n l w)(a:w.grownBy w' none):NuS W n l w':=⟨ay b.1 a,b.2.aC a⟩
def NuS.ace {W:World}(c:NuS W n l w)(e:W.heap.size<=n)(a:Nat)(b:Int)(d:a<l.length):NuS W n (l.set a b) (w.setCell (A n a) (I b)):=
 ⟨aG c.1 (aD w (A n a) _) e,c.2.set a b d⟩
def NuS.amv {W:World}(c:NuS W n l w)(e:W.heap.size<=n)(b:Nat)(a:L)(d:b+a.length<=l.length):NuS W n (jd l b a) (dz w n b (aQ a)):=by have:=c.2.put b a d;exact⟨aG c.1 this.2 e,this.1⟩
def Mt (f:World)(hT:TabA f 3 gains 8)(hG:uM f)(a:L)(g:Bool)(hm:a.length=101)(r:bJ a=true)(b:L)(e:j6 b)(vx:Value)(c:L)(hx:aY f vx c)(xl:c.length=40)(xr:aL c=true):Calls prog 145 #[bL a g,.agg (aF b),vx] f (jB f (.agg (aF (WW a b c)))):=by
 have aH:=Zs (∀D,f.grownBy D none->jB f (.agg (aF (WW a b c))) (.returned (.agg (aF (WW a b c)))) D) (λD d=>⟨rfl,d⟩);have y:=Zd (show bU (((f.alloc (.cells (aP a g).toArray 53)).alloc (.cells (aF b) 69)).alloc (.cells #[I 0,I 0,I 0,I 0,I 0,I 0,I 0,I 0] 76)) f.heap.size a g/\aW (((f.alloc (.cells (aP a g).toArray 53)).alloc (.cells (aF b) 69)).alloc (.cells #[I 0,I 0,I 0,I 0,I 0,I 0,I 0,I 0] 76)) (f.heap.size+1) 69 (aQ b)/\iQ (((f.alloc (.cells (aP a g).toArray 53)).alloc (.cells (aF b) 69)).alloc (.cells #[I 0,I 0,I 0,I 0,I 0,I 0,I 0,I 0] 76)) (f.heap.size+1+1) 76 (au 8)/\f.grownBy (((f.alloc (.cells (aP a g).toArray 53)).alloc (.cells (aF b) 69)).alloc (.cells #[I 0,I 0,I 0,I 0,I 0,I 0,I 0,I 0] 76)) none from by
  refine⟨((bU.new f a g).aC (aj _ _ none)).aC (aj _ _ none),?_,?_,ay (ay (aj _ _ none) (aj _ _ none)) (aj _ _ none)⟩
  .have:=(aW.new (f.alloc (.cells (aP a g).toArray 53)) 69 (aQ b)).aC (aj _ (.cells #[I 0,I 0,I 0,I 0,I 0,I 0,I 0,I 0] 76) none);rw[tF]at this;simpa using this
  have:=iQ.new ((f.alloc (.cells (aP a g).toArray 53)).alloc (.cells (aF b) 69)) 76 (au 8);rw[uR]at this;simpa using this)
 have HX:=Zd λd (n:f.grownBy d none)=>aR hx n;have H:=Zd λi d (w:aY d i (au 40)) (sh:rD i (au 40))=>rF b a (au 40) g e.len hm i d w sh (by rw[ak];omega);rw[show qU b a (au 40)=Pq a b from rfl]at H;have O:=Zs ((qR b a (au 40)).length=101) (by rw[wP];exact hm);have ag:=Zd λj=>show rD (.slice (some ⟨j,0,none⟩) 40 40) (au 40)from .inr ⟨_,_,by rw[ak]⟩;have RG:=Zd λd=>ahA b e.len 40 d;rw[show Vm b 40=qW b from rfl]at RG;have ZK:=Zd<|TQ r e;have RK:=Zd<|sH e;have TK:=Zd<|vQ a b c;have UK:=Zd<|oK a b c;have LT:=Zd λi k d (t:aY d i c) (p:aY d k (Pq a b))=>H_ i k c (Pq a b) d t p xl (TQ r e).1;rw[aj8 r e xl xr]at LT;have CF:=Zd λW s l (w:NuB f W a b g s l) i (aa:L) (hl:aY W i aa) (ll:aa.length=40)=>aft s l (qW b) i aa W w.rng w.ring hl (by rw[(sH e).1];omega) gO;have Q:=Zd λW s l (w:NuB f W a b g s l) q (it:aY W q (Kz a b c))=>YQ (bM a 16 80) (Kz a b c) (aT _ _ _) 179 #[.pointer (some ⟨s,0,none⟩)] (UF b) q W acd (λm i aa n j o ll x=>(CF m s l (w.aC n) i aa j ll).mono (λj D ⟨z,o,v,u⟩=>⟨z,o,v.ints,by rw[(FQ e ll x).1];omega,u⟩)) it (vQ a b c).1 (vQ a b c).2 (FX r);rw[Q9 (aaP r e),show kE (om (Kz a b c) (UF b) (bM a 16 80)) (oq (UF b) (bM a 16 80)) 60=yQ a b c from rfl]at Q;have PB:=Jo a b c;have PC:=W_ a b c;have P:=Zd λd (n:f.grownBy d none)=>Yp (yQ a b c).2.1 (yQ a b c).2.2 d (eY hT n) gO gO;rw[show PW (yQ a b c).2.1 (yQ a b c).2.2=KA a b c from rfl]at P;have PA:=Zd λd=>vG (bM a 16 80) (aT _ _ _) ((yQ a b c).1:Int) d;have ao:=Zs ((lW (bM a 16 80) ((yQ a b c).1:Int)).length=40) (by rw[(agQ a b c).1];exact mR _ _);have ap:=Zs (J9 (qW b) (lW (bM a 16 80) ((yQ a b c).1:Int))=VP a b c) (rfl);have VK:=Zd<|FZ c r e;have LO:=Zd λi d (w:aY d i (VP a b c)) (n:f.grownBy d none)=>Ov i (VP a b c) (KA a b c) d w (FZ c r e).1 (FZ c r e).2.1 (eY hT n);have M:=Zd λi k d (t:aY d i (Kz a b c)) (p:aY d k (Gf (VP a b c) (Es (KA a b c))))=>H_ i k (Kz a b c) (Gf (VP a b c) (Es (KA a b c))) d t p (vQ a b c).1 (by rw[ahT];exact(FZ c r e).1);rw[aj9 c r e]at M;have TG:=Zd λq l d (t:aY d q (Cc a b c)) (sh:rD q (Cc a b c)) (p:aY d l (qW b))=>Oy q l (Cc a b c) (qW b) d t p sh (by rw[(oK a b c).1];omega) (by rw[(sH e).1];omega);rw[show NJ (Cc a b c) (qW b)=Ev a b c from rfl]at TG;have DK:=Zd<|F4 (m:=a) c e;have FW:=Zd λvd l d (t:aY d vd (Ev a b c)) (p:aY d l (qW b))=>ab_ vd l (Ev a b c) (qW b) d t p (by rw[(F4 (m:=a) c e).2.2.1];omega) (by rw[(sH e).1];omega);rw[show Kr (Ev a b c) (qW b) (mJ (Ev a b c) (qW b))=qX a b c from rfl,show N8 (Ev a b c) (qW b) (mJ (Ev a b c) (qW b))=yR a b c from rfl]at FW;have X:=Zd<|Ce (m:=a) c e;have BU:=Zd λd=>sN (qX a b c) (Ce (m:=a) c e).1 (yR a b c) 4096 ⟨agS c e,⟨by decide,by decide⟩,(Ce c e).2⟩ d;rw[show Pp (qX a b c) (yR a b c) 4096=Dh a b c from rfl]at BU;have OK:=Zd<|TV (m:=a) c e;have KO:=Zs (J9 (qW b) (Dh a b c)=wT a b c) (rfl);have KK:=Zd<|kZ (m:=a) c e;have D1:=Zd λq C d (t:aY d q (Cc a b c)) (p:aY d C (wT a b c))=>uK q C (Cc a b c) (wT a b c) d t p (by rw[(oK a b c).1,(kZ (m:=a) c e).1];omega) (by rw[(oK a b c).1];omega) (oK a b c).2 (kZ (m:=a) c e).2.1;rw[(oK a b c).1]at D1;have D2:=Zd λC d (p:aY d C (wT a b c))=>uK C C (wT a b c) (wT a b c) d p p (Q6 _) (by rw[(kZ (m:=a) c e).1];omega) (kZ (m:=a) c e).2.1 (kZ (m:=a) c e).2.1;rw[(kZ (m:=a) c e).1]at D2;have bC:=Dt (Cc a b c) (wT a b c) (oK a b c).2 (kZ (m:=a) c e).2.1;have bE:=Dt (wT a b c) (wT a b c) (kZ (m:=a) c e).2.1 (kZ (m:=a) c e).2.1;have GO:=Zd λd (n:f.grownBy d none)=>abY (4096*fU (Cc a b c) (wT a b c) 40) (fU (wT a b c) (wT a b c) 40) d (lD hG n) gO gO;rw[show Py (4096*fU (Cc a b c) (wT a b c) 40) (fU (wT a b c) (wT a b c) 40)=P7 a b c from rfl]at GO;have F:=Zd<|aiv (qX a b c) X.1 (((yQ a b c).1:Int)-20) (KA a b c) (yR a b c) (P7 a b c);rw[show[((yQ a b c).1:Int)-20,KA a b c,aB (qX a b c) 0,aB (qX a b c) 1,aB (qX a b c) 2,aB (qX a b c) 3,yR a b c,P7 a b c]=WW a b c from rfl]at F;have GB:0<=KA a b c/\KA a b c<=7:=aaQ _ _;obtain⟨J,bl⟩:∃J:Nat,KA a b c=(J:Int):=⟨(KA a b c).toNat,gO⟩;have LA:=Zd e.len;have CM:=Zd<|aJ hm g;have AM:=Zd<|bU.all g hm;have AA:=Zd<|iQ.all b 9 e.len;have PX:=Zd<|bU.part (l:=a) g 16 80 gO;have ZL:=Zd<|aJ (ak 101) false;have hz:=dM;have bk:=gU 40 gO;rw[show((40:Nat):Int)=40 from rfl]at bk;have bz:∀(fn:Fn) (first bj:Array Value) (f:World),(Instr.makeFunc fn first bj).run prog f=.ok (.func fn first bj) f:=λ_ _ _ _=>rfl;rw[bl]at P F LO M;clear hT hG hm r e xl xr bl GB hx;generalize jB f (.agg (aF (WW a b c)))=bH at *
 unfold zw at Q;generalize WW a b c=E at *
 generalize qR b a (au 40)=G at *
 have z:=Zd<|aJ O g;generalize Vq b 40=b6 at *
 generalize yQ a b c=PP at *
 obtain⟨eZ,pc,pe⟩:=PP;simp only at Q P PA ao ap PB PC F VK;generalize Fj (eZ:Int)=b7 at *
 generalize lW (bM a 16 80) (eZ:Int)=PL at *
 generalize Pq a b=bp at *
 generalize QD (Cc a b c) (qW b)=b9 at *
 generalize yU (Ev a b c) (qW b)=ca at *
 generalize Og (qX a b c) (yR a b c) 4096=cb at *
 generalize Gf (VP a b c) (Es (J:Int))=LQ at *
 unfold Gc at H;unfold abP at LT LO M;unfold bL at *
 go_enter func145,ntmps145;go_upto_region 1 with fail;generalize ((f.alloc (.cells (aP a g).toArray 53)).alloc (.cells (aF b) 69)).alloc (.cells #[I 0,I 0,I 0,I 0,I 0,I 0,I 0,I 0] 76)=W0 at *
 go_wp2_with (first|refine lV 0 y.2.1 bZ (by rw[aN,LA.out];omega) AA ?_);refine(RG _).mono ?_;rintro j d ⟨l,rfl,o2,g2⟩;have N2:=Zs (f.heap.size+1+1+1<=d.heap.size) (by have:=(y.2.2.1.aC g2).lt;omega);have BB:=Zd (show NuB f (d.alloc (.cells #[l] 26)) a b g d.heap.size l from by
  have n:=ay g2 (aj d (.cells #[l] 26) none);exact⟨y.1.aC n,y.2.1.aC n,y.2.2.1.aC n,by rw[aI (dF d (.cells #[l] 26))];rfl,aR o2.ints (aj d _ none),ay y.2.2.2 n⟩)
 obtain⟨gr,bv,bm,_,_,_⟩:=o2.form (by rw[RK.out.1];omega);rw[RK.out.1]at bm;subst bm;clear o2 g2 RG y;go_upto_region 2 with fail;generalize d.alloc (.cells #[.slice (some ⟨gr,0,none⟩) 40 bv] 26)=i at *
 generalize d.heap.size=s at *
 go_upto_region 3 with fail;clear bz;go_cut [10,11]from 26 (λd d m=>anI i bp d m)
 case first=>
  refine wp_region_held_drew (S:=dB i) (by kernel_rfl) (aS _) λd=>?_;refine aV (hy:=by intro D Y;exact bS rfl rfl (BB.mem.aC Y) _ underlying53 rfl aK (by rw[CM.out];omega) _ AM) (v:=.agg (aP a g).toArray) 0 d ?_;refine aV (hy:=by intro D Y;exact bS rfl rfl (BB.zZ.aC Y) _ underlying69 rfl bZ (by rw[aN,LA.out];omega) _ AA) (v:=.agg (aQ b).toArray) 1 d ?_;refine qN 2 7 (λf e=>?Z) λf e=>?bq
  case Z=>
   (try simp only[sZ]);go_simp;go_wp2_with fail;refine e.out _ _ (dZ d (.cells (aF (au 40)) 3)) λd=>?_;clear e;have m:=Zs (bY ((i.alloc (.cells (aF (au 40)) 3)).drew) i.heap.size 3 (au 40)) (bY.new i.drew 3 (au 40));generalize (i.alloc (.cells (aF (au 40)) 3)).drew=B at *
   (try simp only[sZ]);refine qN 3 7 (λf e=>?bs) λf e=>?bt
   case bs=>
    (try simp only[sZ]);go_simp;refine(H _ _ (U_ m (ak 40)) (ag _)).mono ?_;rintro j v ⟨U,rfl,x,R⟩;have T:=Zd R;have o:=Zd<|x.base (b':=i.heap.size) (K4 d);clear R x;(try unfold bL);(try unfold gu);go_wp2_with fail;refine e.out _ _ (aX d T) λd=>?_;clear e;have m:=Zd<|m.aC T;(try simp only[sZ]);refine aV 4 d ?_;refine aV 5 d ?_;refine aV 6 d ?_;refine eU 7 λf e=>?_;(try simp only[sZ]);go_simp;go_wp2_with fail;have K:=Zs (i.heap.size<=v.heap.size) (by first|exact Q6 _|exact K4 d);refine e.out _ _ (dZ d (.cells (aP (au 101) false).toArray 53)) λd=>?_;clear e;have k:=Zs (bU (v.alloc (.cells (aP (au 101) false).toArray 53)) v.heap.size (au 101) false) (bU.new v (au 101) false);have m:=Zd<|m.aC (aj v (.cells (aP (au 101) false).toArray 53) none);have o:=Zd<|o.aC (aj v (.cells (aP (au 101) false).toArray 53) none);generalize v.alloc (.cells (aP (au 101) false).toArray 53)=b2 at *
    (try simp only[sZ]);refine eU 8 λf e=>?_;(try simp only[sZ]);refine dD rfl 53 _ _ rfl (v.heap.size) 0 53 (aP (au 101) false) (aP G g) rfl rfl k (by rw[ZL.out,z.out];omega) (by rw[z.out];exact aK) (bO _ _) ?_;have u:=k.dQ (m:=G) (t:=g) (ak 101) O;have o:=Zd<|o.aH u.2 k (by decide);refine e.out _ _ (jq d u.2 K) λd=>?_;clear e;(try simp only[sZ]);refine aV 9 d ?_;refine jX ?_;go_wp2_with fail;go_meet;exact⟨o,d⟩
   case bt=>
    (try simp only[sZ]);go_simp;go_wp2_with fail;have K:=Zs (i.heap.size<=B.heap.size) (by first|exact Q6 _|exact K4 d);refine e.out _ _ (dZ d (.cells (aP (au 101) false).toArray 53)) λd=>?_;clear e;have k:=Zs (bU (B.alloc (.cells (aP (au 101) false).toArray 53)) B.heap.size (au 101) false) (bU.new B (au 101) false);have m:=Zd<|m.aC (aj B (.cells (aP (au 101) false).toArray 53) none);generalize B.alloc (.cells (aP (au 101) false).toArray 53)=T at *
    (try simp only[sZ]);refine eU 3 λf e=>?_;(try simp only[sZ]);go_simp;refine(H _ _ (U_ m (ak 40)) (ag _)).mono ?_;rintro j b3 ⟨U,rfl,x,R⟩;have v:=Zd R;have o:=Zd<|x.base (b':=i.heap.size) (K4 d);clear R x;(try unfold bL);(try unfold gu);go_wp2_with fail;refine e.out _ _ (aX d v) λd=>?_;clear e;have m:=Zd<|m.aC v;have k:=Zd<|k.aC v;(try simp only[sZ]);refine aV 4 d ?_;refine aV 5 d ?_;refine aV 6 d ?_;refine eU 8 λf e=>?_;(try simp only[sZ]);refine dD rfl 53 _ _ rfl (B.heap.size) 0 53 (aP (au 101) false) (aP G g) rfl rfl k (by rw[ZL.out,z.out];omega) (by rw[z.out];exact aK) (bO _ _) ?_;have u:=k.dQ (m:=G) (t:=g) (ak 101) O;have o:=Zd<|o.aH u.2 k (by decide);refine e.out _ _ (jq d u.2 K) λd=>?_;clear e;(try simp only[sZ]);refine aV 9 d ?_;refine jX ?_;go_wp2_with fail;go_meet;exact⟨o,d⟩
  case bq=>
   (try simp only[sZ]);go_simp;go_wp2_with fail;have K:=Zs (i.heap.size<=i.heap.size) (by first|exact Q6 _|exact K4 d);refine e.out _ _ (dZ d (.cells (aP (au 101) false).toArray 53)) λd=>?_;clear e;have k:=Zs (bU ((i.alloc (.cells (aP (au 101) false).toArray 53)).drew) i.heap.size (au 101) false) (bU.new i.drew (au 101) false);generalize (i.alloc (.cells (aP (au 101) false).toArray 53)).drew=v at *
   (try simp only[sZ]);refine eU 2 λf e=>?_;(try simp only[sZ]);go_simp;go_wp2_with fail;refine e.out _ _ (dZ d (.cells (aF (au 40)) 3)) λd=>?_;clear e;have m:=Zs (bY (v.alloc (.cells (aF (au 40)) 3)) v.heap.size 3 (au 40)) (bY.new v 3 (au 40));have k:=Zd<|k.aC (aj v (.cells (aF (au 40)) 3) none);generalize v.alloc (.cells (aF (au 40)) 3)=T at *
   (try simp only[sZ]);refine eU 3 λf e=>?_;(try simp only[sZ]);go_simp;refine(H _ _ (U_ m (ak 40)) (ag _)).mono ?_;rintro j b4 ⟨U,rfl,x,R⟩;have B:=Zd R;have o:=Zd<|x.base (b':=i.heap.size) (K4 d);clear R x;(try unfold bL);(try unfold gu);go_wp2_with fail;refine e.out _ _ (aX d B) λd=>?_;clear e;have k:=Zd<|k.aC B;have m:=Zd<|m.aC B;(try simp only[sZ]);refine aV 4 d ?_;refine aV 5 d ?_;refine aV 6 d ?_;refine eU 8 λf e=>?_;(try simp only[sZ]);refine dD rfl 53 _ _ rfl (i.heap.size) 0 53 (aP (au 101) false) (aP G g) rfl rfl k (by rw[ZL.out,z.out];omega) (by rw[z.out];exact aK) (bO _ _) ?_;have u:=k.dQ (m:=G) (t:=g) (ak 101) O;have o:=Zd<|o.aH u.2 k (by decide);refine e.out _ _ (jq d u.2 K) λd=>?_;clear e;(try simp only[sZ]);refine aV 9 d ?_;refine jX ?_;go_wp2_with fail;go_meet;exact⟨o,d⟩
 case rest=>
 obtain⟨o4,g4⟩:=hcut;have B4:=Zd<|BB.aC g4;have I4:=Zd o4.ints;clear bk hz H ag O z o4 g4 BB AM AA;go_wp2_with fail;refine(LT _ _ _ (HX _ B4.Ie) I4).mono ?_;rintro j W5 ⟨q,rfl,ot,g5⟩;have B5:=Zd<|B4.aC g5;have IT:=Zd ot.ints;have bc:=Zd<|Q W5 s _ B5 q ot.ints;clear LT Q HX B4 I4 g5 ot;go_upto_region 5 with fail;go_wp2_with (first|refine lV 16 B5.mem dU (by rw[CM.out];omega) PX ?_);refine bc.mono ?_;rintro j W6 ⟨rfl,g6⟩;have B6:=Zd<|B5.aC g6;have a2:=Zd<|aR IT g6;clear bc g6 B5 IT;have cf:(20:Int)<=eZ:=gO;go_upto_region 6 with fail;go_wp2_with fail;refine(P _ B6.Ie).mono ?_;rintro j u ⟨rfl,g7⟩;have B7:=Zd<|B6.aC g7;have a3:=Zd<|aR a2 g7;clear P g7 B6 a2;obtain⟨k,Z⟩:∃k,[(eZ:Int)-20,(J:Int),0,0,0,0,0,0]=k:=⟨_,rfl⟩;have m:=Zs (k.length=8) (by rw[<-Z];rfl);have UP:=Zs (aB k 1=(J:Int)) (by rw[<-Z];rfl);rw[Z]at F;obtain⟨c1,c2,c3⟩:=dG u 76 8 k m;have C1:=Zd c1;have K:=Zs (NuS u u.heap.size k _) (⟨c3,c2⟩);have NW:=Zd<|Q6 u.heap.size;rw[uR]at C1 K;clear c1 c2 c3;go_upto_region 7 with(first|refine qO rfl 76 _ _ rfl _ (au 8) k rfl (by rw[<-Z];rfl) C1 (by rw[m.out,ak]) (by rw[ak];exact uN) ?_);(try simp only[Act.put]);clear C1 Z;generalize b_ _ u.heap.size k=W8 at *
 generalize bw:u.heap.size=o at K NW ⊢;have an:=Zs (u.heap.size<=o) gO;clear NW bw;have B8:=Zd<|B7.aC K.1;go_wp2_with (first|refine lV 16 B8.mem dU (by rw[CM.out];omega) PX ?_);refine(PA _).mono ?_;rintro j U ⟨vp,rfl,op,g9⟩;have R:=Zd<|K.aC g9;have B9:=Zd<|B8.aC g9;have IP:=Zd op.ints;have a4:=Zd<|aR a3 R.1;have bn:=Zs (o+1<=U.heap.size) (R.2.lt);clear PA g9 K B8 op a3;go_upto_region 8 with fail;refine wp_region_held_drew (S:=dB U) (by kernel_rfl) (aS _) λd=>?_;refine aV 0 d ?_;refine aV 1 d ?_;refine aV 2 d ?_;refine aV 4 d ?_;refine aV (hy:=by intro D Y;have cc:=(R.2.aC Y).cell 1 (by rw[m.out];omega);rw[UP.out]at cc;go_simp;(try with_reducible rfl)) (v:=I (J:Int)) 5 d ?_;refine eU 3 λf e=>?_;(try simp only[sZ]);go_simp;refine(CF _ s _ (B9.aC d) vp PL (aR IP d) ao).mono ?_;rintro j w1 ⟨vv,rfl,ov,q1⟩;have Q1:=Zd q1;rw[ap.out]at ov;have OV:=Zd<|ov.base (b':=U.heap.size) d.size;clear q1 ov;go_wp2_with fail;refine e.out _ _ (aX d Q1) λd=>?_;clear e;(try simp only[sZ]);refine eU 6 λf e=>?_;(try simp only[sZ]);go_simp;refine(LO vv _ OV.ints (ay B9.Ie d)).mono ?_;rintro j w2 ⟨vl,rfl,ol,q2⟩;have Q2:=Zd q2;have OL:=Zd<|ol.base (b':=U.heap.size) d.size;clear q2 ol;go_wp2_with fail;refine e.out _ _ (aX d Q2) λd=>?_;clear e;(try simp only[sZ]);refine eU 7 λf e=>?_;(try simp only[sZ]);go_simp;refine(M q vl _ (aR a4 d) OL.ints).mono ?_;rintro j w3 ⟨vu,rfl,ou,q3⟩;have Q3:=Zd q3;have OU:=Zd<|ou.base (b':=U.heap.size) d.size;clear q3 ou;go_wp2_with fail;refine e.out _ _ (aX d Q3) λd=>?_;clear e;(try simp only[sZ]);refine aV 8 d ?_;refine jX ?_;have bd:=Zd<|R.aC d;have ab:=Zd<|B9.aC d;have ac:=Zd<|OU.base (b':=o+1) bn;clear OV OL OU Q1 Q2 Q3 d R B9 IP a4 LO M ao ap;go_upto_region 9 with fail;have rc:=ab.rng;have bg:=Zd<|TG _ _ _ ac.ints ac.xJ ab.ring;clear TG;go_wp2_with fail;refine bg.mono ?_;rintro j bR ⟨vd,rfl,od,ah⟩;have bf:=Zd<|bd.aC ah;have ai:=Zd<|ab.aC ah;have a5:=Zd<|ac.aC ah;have a0:=Zd<|FW _ _ _ od.ints ai.ring;clear bg FW ah bd ab rc od ac;have rc:=ai.rng;go_upto_region 10 with fail;go_wp2_with fail;refine a0.mono ?_;rintro j bi ⟨rfl,av⟩;have ad:=Zd<|bf.aC av;have a6:=Zd<|a5.aC av;have X4:=Zs ((aQ (qX a b c)).length=4) (by rw[aN];exact X.1);have IX:=Zd<|dO (qX a b c);have U4:=Zs ((aQ k).length=8) (by rw[aN];exact m);have ae:=Zd<|ad.amv an 2 (qX a b c) (by rw[X.out.1,m.out];omega);have a7:=Zd<|a6.bH (ad.2.put 2 (qX a b c) (by rw[X.out.1,m.out];omega)).2 gO;have T:=Zs ((jd k 2 (qX a b c)).length=8) (by rw[dV];exact m);have af:=Zd<|ae.ace an 6 (yR a b c) (by rw[T.out];omega);have a9:=Zd<|a7.bH (aD (dz bi o 2 (aQ (qX a b c))) ⟨o,6,none⟩ (I (yR a b c))) (by simp);have c6:=ae.2.cell 6 (by rw[T.out];omega);have f6:=ae.2.free 6;clear a0 av bf ai rc a5 a6;go_upto_region 11 with(first|refine sV 2 (aQ (qX a b c)) ad.2 (by rw[X4.out,U4.out];omega) (by rw[X4.out];exact abZ) IX ?_);(try simp only[Act.put]);clear c6 f6 ad ae a7;generalize (dz bi o 2 (aQ (qX a b c))).setCell ⟨o,6,none⟩ (I (yR a b c))=bX at *
 have P4:=Zs (bM ((jd k 2 (qX a b c)).set 6 (yR a b c)) 2 4=qX a b c) (ana k (qX a b c) (yR a b c) m X.1);have P6:=Zs (aB ((jd k 2 (qX a b c)).set 6 (yR a b c)) 6=yR a b c) (by rw[iM _ _ _ (by rw[T.out];omega),Q9 rfl]);have x:=Zs (((jd k 2 (qX a b c)).set 6 (yR a b c)).length=8) (by rw[XB];exact T);clear m UP U4 T;generalize (jd k 2 (qX a b c)).set 6 (yR a b c)=bh at *
 have c6:=af.2.cell 6 (by rw[x.out];omega);rw[P6.out]at c6;have PT:=Zd<|iQ.part (l:=bh) 2 4 (by rw[x.out];omega);rw[P4.out]at PT;have UV:=Zs ((aQ bh).length=8) (by rw[aN];exact x);go_wp2_with (first|refine lV 2 af.2 abZ (by rw[UV.out];omega) PT ?_);refine(BU _).mono ?_;rintro j bo ⟨vo,rfl,oo,aw⟩;have aq:=Zd<|af.aC aw;have ba:=Zd<|a9.aC aw;have az:=Zd<|B7.aC aq.1;have am:=Zd<|CF bo s _ az vo (Dh a b c) oo.ints OK.1;rw[KO.out]at am;clear BU aw af oo c6 CF a9;go_upto_region 12 with fail;go_wp2_with fail;refine am.mono ?_;rintro j b0 ⟨C,rfl,of,ax⟩;have B:=Zd<|aq.aC ax;have bb:=Zd<|ba.aC ax;have IF:=Zd of.ints;have aA:=Zd<|D1 _ _ _ bb.ints IF;clear am ax aq az of D1 ba;go_upto_region 13 with fail;generalize fU (Cc a b c) (wT a b c) 40=d1 at *
 generalize fU (wT a b c) (wT a b c) 40=d2 at *
 go_wp2_with fail;refine aA.mono ?_;rintro j cd ⟨rfl,rfl⟩;have aE:=Zd<|D2 _ _ IF;clear aA IF D2;go_wp2_with fail;refine aE.mono ?_;rintro j ce ⟨rfl,rfl⟩;have a1:=Zd<|GO _ (ay B7.Ie B.1);clear aE GO;go_wp2_with fail;refine a1.mono ?_;rintro j b5 ⟨rfl,rfl⟩;have c7:=B.2.cell 7 (by rw[x.out];omega);have f7:=B.2.free 7;have ar:=Zd<|B.ace an 7 (P7 a b c) (by rw[x.out];omega);rw[F.out]at ar;clear a1 B bb;go_upto_region 14 with fail;clear c7 f7;generalize World.setCell _ ⟨o,7,none⟩ (I (P7 a b c))=b1 at *
 have al:=Zd<|B7.aC ar.1;have v:=Zs ((aQ E).length=8) (by rw[aN,<-F.out,XB];exact x);have CA:=Zd<|iQ.all E 8 (by have:=v.out;rwa [aN]at this);have ZV:=Zs ((aQ (au 8)).length=8) (by rw[aN,ak]);have IC:=Zd<|dO E;have PB:=Zd<|al.out.res.dQ (m:=E) (by have:=v.out;rw[aN]at this;rw[this,ak]);have FF:=Zd<|aH _ (aG al.Ie PB.2 gO);clear aH;go_wp2_with (first|refine lV 0 ar.2 uN (by rw[v.out];omega) CA ?_|refine sV 0 (aQ E) al.res (by rw[v.out,ZV.out];omega) (by rw[v.out];exact uN) IC ?_);have bx:=qG PB.1.v (by rw[v.out];exact uN);refine QB (v:=.agg (aF E)) ?_ rfl FF;simp[results,results145,asAddr,Act.put,bx];rfl
def JB:(prog.info? 77).map (·.size)=some 16:=by kernel_rfl
def anb:(prog.info? 77).bind (·.zero)=some (.agg (aF (au 16))):=by kernel_rfl
def Gu (a:W)(c:L)(e:Bool)(d:L)(b:W):Prop:=bU b a.heap.size c e/\aW b (a.heap.size+1) 79 (aQ d)/\aW b (a.heap.size+1+1) 77 (aQ (au 16))/\a.grownBy b none
def Gu.new (c:W)(a:L)(b:Bool)(d:L):Gu c a b d (((c.alloc (.cells (aP a b).toArray 53)).alloc (.cells (aF d) 79)).alloc (.cells (aF (au 16)) 77)):=by
 refine⟨((bU.new c a b).aC (aj _ _ none)).aC (aj _ _ none),?_,?_,ay (ay (aj _ _ none) (aj _ _ none)) (aj _ _ none)⟩
 .have:=(aW.new (c.alloc (.cells (aP a b).toArray 53)) 79 (aQ d)).aC (aj _ (.cells (aF (au 16)) 77) none);rw[tF]at this;simpa using this
 have:=aW.new ((c.alloc (.cells (aP a b).toArray 53)).alloc (.cells (aF d) 79)) 77 (aQ (au 16));rw[tF]at this;simpa using this
def Gu.aC (b:Gu w l s p w')(a:w'.grownBy u none):Gu w l s p u:=⟨b.1.aC a,b.2.1.aC a,b.2.2.1.aC a,ay b.2.2.2 a⟩
def Gu.all {m:L}{t:Bool}(a:Gu w l s p w')(b:l.length=101)(c:m.length=101):Gu w m t p (dz w' w.heap.size 0 (aP m t))/\w'.grownBy (dz w' w.heap.size 0 (aP m t)) (some w.heap.size):=by have:=a.1.dQ (m:=m) (t:=t) b c;exact⟨⟨this.1,a.2.1.aH this.2 gO,a.2.2.1.aH this.2 gO,aG a.2.2.2 this.2 (Q6 _)⟩,this.2⟩
def Gu.Xq (c:Gu w l s p w')(b:Nat)(a:L)(d:b+a.length<=p.length):Gu w l s (jd p b a) (dz w' (w.heap.size+1) b (aQ a))/\w'.grownBy (dz w' (w.heap.size+1) b (aQ a)) (some (w.heap.size+1)):=by have:=amb c.2.1 b a d;exact⟨⟨c.1.aH this.2 gO,this.1,c.2.2.1.aH this.2 gO,aG c.2.2.2 this.2 gO⟩,this.2⟩
def afu {P:L}(a:Nat->L)(f:P.length=25)(d:(a 0).length=8)(e:(a 1).length=8):bM (rY P a 2) 9 16=a 0++a 1:=by
 have b:(a 0++a 1).length=16:=by simp[d,e]
 refine(dL b (λb c=>?_)).symm;rw[Xt a (aB P 0) f rfl (aT P 1 8) (λb c=>by rw[fV _ _ _ _ c]) d e];show _=aB (aB P 0::(bM P 1 8++(a 0++a 1))) (9+b);rw[show 9+b=(8+b)+1 by omega];show _=aB (bM P 1 8++(a 0++a 1)) (8+b);rw[iH (bM P 1 8) _ _ (by rw[aT];omega),aT,Nat.add_sub_cancel_left]
def acf {W:World}{b:Addr}(e:aY W (.slice (some b) l.length n) l)(a:Nat)(c:a<l.length):(∀c,Sem.run prog (Instr.slice 26 (.slice (some b) l.length n) (some (I (a:Int))) none none) c=.ok (.slice (some (b.add a)) (l.length-a) (n-a)) c)/\aY W (.slice (some (b.add a)) (l.length-a) (n-a)) (l.drop a):=by
 have⟨_,f,d⟩:=oW e;refine⟨λc=>?_,⟨_,n-a,by rw[DN],by rw[DN];omega,λhp=>⟨_,rfl,λf e=>?_⟩⟩⟩
 .rw[run_slice_l (P:=prog) c 26 (some b) l.length n (by kernel_rfl) .i64 a gO gO];simp[go_sem,sliced];omega
 rw[DN]at e;rw[Addr.add_add,d (a+f) gO,Da]
def slice_head {W:World}{a:Addr}{c:Nat}(f:aY W (.slice (some a) l.length c) l)(b:Nat)(d:b<=l.length):(∀d,Sem.run prog (Instr.slice 26 (.slice (some a) l.length c) none (some (I (b:Int))) none) d=.ok (.slice (some a) b c) d)/\aY W (.slice (some a) b c) (l.take b):=by
 have⟨_,g,e⟩:=oW f;refine⟨λd=>?_,⟨_,c,by rw[BJ];congr 1;omega,by rw[BJ];omega,λhp=>⟨_,rfl,λg f=>?_⟩⟩⟩
 .rw[run_slice_h (P:=prog) d 26 (some a) l.length c (by kernel_rfl) .i64 b gO gO];simp[go_sem,sliced]
 rw[BJ]at f;rw[e g gO,ug _ _ _ gO]
def Pj (i:World)(hW:vS i)(hT:TabA i 3 gains 8)(hG:uM i)(w:L)(G:Bool)(K:w.length=101)(hg:bJ w=true)(g:L)(hp:g.length=25)(hq:aa6 (bM g 1 8))(aE:¬aB g 0=2)(vx:Value)(d:L)(hx:aY i vx d)(xl:d.length=80)(xr:aL d=true)(b:L)(al:(if aB g 0=1 then iY else w)=b):Calls prog 123 #[bL w G,.agg (aF g),vx] i (jB i (.agg (aF (sJ (iV (bM g 1 8)) b d 0++sJ (iV (bM g 1 8)) b d 1)))):=by
 have M0:=Zd<|Gu.new i w G g;obtain⟨q,aa⟩:∃q,aB g 0=q:=⟨_,rfl⟩;obtain⟨c,U⟩:∃c,iV (bM g 1 8)=c:=⟨_,rfl⟩;have F:c.length=8:=by rw[<-U];exact mX _
 have M:cZ c=true:=by rw[<-U];exact vg _ hq
 obtain⟨o,J⟩:b.length=101/\bJ b=true:=by
  rw[<-al];split
  .exact⟨j5,Ab⟩
  exact⟨K,hg⟩
 rw[U];have H:=Zd λwr=>D6 w G q K wr;rw[show(if q=1 then iY else w)=b from by rw[<-aa];exact al]at H;obtain⟨j,a0⟩:∃j:Bool,(if q=1 then false else G)=j:=⟨_,rfl⟩;rw[a0]at H;have VA:=Zd λwr (ai:i.grownBy wr none)=>KW (bM g 1 8) (aT _ _ _) wr (lq hW ai);rw[(Dx _ hq).1,(Dx _ hq).2,U]at VA;have PR:=Zd λwr=>vH (bM b 0 8) c (aT _ _ _) F (jM J) M wr;have ah:=Zd λa (p:a<2) e=>Rq (VT (bM b 0 8) c 2) (Jz _ _ 2) a p e;have IE:=Zd λa (p:a<2)=>Yj (bM b 0 8) c a p;have y:=Zd λa=>rE c d o a;have ab:=Zd λa=>zJ (bM b 0 8) c a;have GU:=λa=>wZ d o J F M a;have WD:=λa=>KY d o J F M a;have P:=Zd (show ∀(a:Nat),a<2->∀wr,i.grownBy wr none->∀f,aY wr f (bM d (40*a) 40)->Calls prog 145 #[bL (wB c b d a) j,.agg (aF (iF (bM b 0 8) c a)),f] wr (jB wr (.agg (aF (sJ c b d a))))from λa p wr e f k=>by
  have Z:=Mt wr (eY hT e) (lD hG e) (wB c b d a) j (y a) (zB d o J F M a) (D8 c b d a) (WD a) f (bM d (40*a) 40) k (aT _ _ _) (by
   rw[bD,aT];intro ae f;rw[fV _ _ _ _ f];exact tY xr _)
  rw[abE c d o a]at Z;unfold sJ;rw[abE c d o a];exact Z)
 have Q:=Zd (show ∀(a:Nat),a<2->∀wr,i.grownBy wr none->Calls prog 146 #[bL (wB c b d a) j,.agg (aF (iF (bM b 0 8) c a)),I q,.agg (aF (sJ c b d a))] wr (Gc wr (wB c b d (a+1)) j (Pt (iF (bM b 0 8) c a) false (wB c b d a) (sJ c b d a)))from λa p wr e=>by
  have Z:=Ia (iF (bM b 0 8) c a) (wB c b d a) (sJ c b d a) j q (ab a) (y a) (zB d o J F M a) (GU a) wr (eY hT e) (lD hG e);rw[KF (show ¬q=2 by rw[<-aa];exact aE),ahS c b d o a]at Z;exact Z)
 have T:=Zd λa=>(GU a).len;have HX:=Zd λwr (ai:i.grownBy wr none)=>aR hx ai;obtain⟨ax,cx,a1⟩:=qz hx gO;have XT:=Zd λa (p:a<2) wr (E:aY wr (.slice (some ax) d.length cx) d)=>acf E (40*a) gO;rw[<-a1]at XT;clear a1;have XP:=Zd λa (p:a<2)=>show(d.drop (40*a)).take 40=bM d (40*a) 40 from aap d (40*a) 40 gO;have XL:=Zd xl;have E0:=Zs (wB c b d 0=b) (rfl);have ag:=Zs (∀k,i.grownBy k none->jB i (.agg (aF (sJ c b d 0++sJ c b d 1))) (.returned (.agg (aF (bM (rY g (sJ c b d) 2) 9 16)))) k) (λk e=>⟨by rw[afu (sJ c b d) hp (T.out 0) (T.out 1)],e⟩);have u:=Zd λa=>show(rY g (sJ c b d) a).length=25 by rw[uG];exact hp
 have KD:=Zd λa=>show aB (rY g (sJ c b d) a) 0=q by rw[DJ _ hp 0 gO a];exact aa
 have ST:=Zd λa=>show jd (rY g (sJ c b d) a) (9+8*a) (sJ c b d a)=rY g (sJ c b d) (a+1)from rfl;have PS:=Zd (λa (p:a<2)=>show((aQ (rY g (sJ c b d) (a+1))).drop (9+8*a)).take 8=aQ (sJ c b d a)from by
  rw[oO _ _ _ (by rw[u.out];omega),Xr (sJ c b d) hp a p (T.out a)])
 have P9:=Zd<|oO (rY g (sJ c b d) 2) 9 16 (by rw[u.out];omega);have E1:=Zs (rY g (sJ c b d) 0=g) (rfl);have NL:=Zd F;have HP:=Zd hp;have HL:=Zd K;have a4:=Zd o;have CL:=Zd<|aJ K G;have C0:=Zd<|aJ o j;have ap:=Zd<|bU.all G K;have PV:=Zd<|oO g 1 8 gO;have P0:=Zd<|bU.part (l:=b) j 0 8 gO;have a5:=Zd aa;have hz:=dM;have a9:=fT anb;clear hg K hp hq o J F M U aa al a0 hW hT hG GU WD aE hx xr xl;generalize jB i (.agg (aF (sJ c b d 0++sJ c b d 1)))=bc at *
 generalize wB c b d=r at *
 generalize sJ c b d=t at *
 generalize VT (bM b 0 8) c 2=bb at *
 unfold jB at H PR P;unfold Gc at Q;unfold bL at hz H P Q ⊢;go_enter func123,ntmps123;go_upto_region 1 with fail;generalize ((i.alloc (.cells (aP w G).toArray 53)).alloc (.cells (aF g) 79)).alloc (.cells (aF (au 16)) 77)=W0 at *
 clear hz a9;have cp:=(M0.2.1.cell 0).trans (tX g 0 (by rw[HP.out];omega));rw[a5.out]at cp;go_wp2_with (first|refine lV 0 M0.1 aK (by rw[CL.out];omega) ap ?_);refine(H W0).mono ?_;rintro ad W1 ⟨rfl,g1⟩;have z:=Zd<|M0.aC g1;have n:=z.all (m:=b) (t:=j) HL a4;have s:=Zd n.1;have I0:=Zd<|bO b j;clear n M0 g1 H cp ap;go_upto_region 2 with(first|refine sV 0 (aP b j) z.1 (by rw[CL.out,C0.out];omega) (by rw[C0.out];exact aK) I0 ?_);(try simp only[Act.put]);clear z I0 CL;generalize dz W1 i.heap.size 0 (aP b j)=W2 at *
 go_wp2_with (first|refine lV 1 s.2.1 dX (by rw[aN,HP.out];omega) PV ?_);refine(VA _ s.2.2.2).mono ?_;rintro ad W3 ⟨rfl,g3⟩;obtain⟨X,Y,D⟩:=dG W3 50 8 c NL;have x:=Zd X;have B2:=Zd Y;have m:=Zd<|(s.aC g3).aC D;have NB:=Zs (i.heap.size+1+1+1<=W3.heap.size) ((s.aC g3).2.2.1.lt);rw[uR]at x B2 m;clear g3 VA X Y D s PV;go_upto_region 3 with(first|refine sA c x (by rw[NL.out,ak]) (by rw[ak];exact dX) ?_);(try simp only[Act.put]);clear x;generalize b_ _ W3.heap.size c=W4 at *
 generalize W3.heap.size=ba at *
 have av:=Zd<|PR W4;clear PR;go_wp2_with (first|refine lV 0 m.1 dX (by rw[C0.out];omega) P0 ?_|refine lA B2 (by rw[NL.out];exact dX) ?_);refine av.mono ?_;rintro ad W6 ⟨rfl,g6⟩;have M6:=Zd<|m.aC g6;have B6:=Zd<|B2.aC g6;clear g6 av m B2 P0;go_wp2_with fail;go_loopw [25] (λae wr=>∃a:Nat,ae=I (a:Int)/\a<=2/\Hid (Gu i (r a) j (rY g t a) wr)/\Hid (bY wr ba 50 c)) (λae _=>2-(intOf ae).toNat)
 case atStart=>exact⟨0,rfl,QN _,by rw[E0.out,E1.out];exact M6,B6⟩
 case round=>
  obtain⟨a,rfl,p,l,hB⟩:=hrel;clear M6 B6;by_cases v:a<2
  .have bg:(a:Int)<2:=gO;have A1:=Zd<|bU.all j (y a);have C1:=Zd<|aJ (y a) j;have CK:=Zd<|aJ (y (a+1)) j;have IK:=Zd<|bO (r (a+1)) j;have ar:=Zd<|P a v;have aw:=Zd<|Q a v;have AL:=Zd<|ab a;have UL:=Zd<|T a;have B:=Zd<|PS a v;have aA:=ah a v;rw[IE.out a v]at aA;have T1:=XT a v wr (HX wr l.2.2.2);have XE:=Zd<|XP a v;obtain⟨ao,ac⟩:∃ao,Value.slice (some (ax.add (40*a))) (d.length-40*a) (cx-40*a)=ao:=⟨_,rfl⟩;rw[ac]at T1;have R:=slice_head (W:=wr) (a:=ax.add (40*a)) (c:=cx-40*a) (l:=d.drop (40*a)) (by rw[DN,ac];exact T1.2) 40 (by rw[DN,XL.out];omega);rw[DN,ac,XE.out]at R;obtain⟨af,az⟩:∃af,Value.slice (some (ax.add (40*a))) 40 (cx-40*a)=af:=⟨_,rfl⟩;rw[az]at R;have am:=T1.1;rw[show((40*a:Nat):Int)=40*(a:Int) by omega]at am;have an:=R.1;rw[show((40:Nat):Int)=40 from rfl]at an;have aq:=Zd R.2;have a2:(a:Int)*40=40*(a:Int):=gO;have a3:=eG (40*(a:Int)) gO gO;clear T1 R XE XT XP P Q ab PS ah IE ag T HX ac az;generalize Pt (iF (bM b 0 8) c a) false (r a) (t a)=LX at *
   generalize iF (bM b 0 8) c a=O at *
   obtain⟨X,Y,D⟩:=dG wr 69 9 O AL;have x:=Zd X;have BA:=Zd Y;have z:=Zd<|l.aC D;have BN:=Zd<|hB.aC D;have IS:=Zd<|aR aq D;have NQ:=Zs (i.heap.size+1+1+1<=wr.heap.size) (l.2.2.1.lt);rw[oV]at x BA z BN IS;clear X Y D l hB aq;go_upto_region 6 with(first|refine sA O x (by rw[AL.out,ak]) (by rw[ak];exact bZ) ?_);(try simp only[Act.put]);clear x aA;generalize b_ _ wr.heap.size O=wq at *
   generalize wr.heap.size=bq at *
   have l:=z;have hB:=BN;clear z BN;refine bW 11 (dB wq) 12 (by rfl) _ rfl (by kernel_rfl) λb=>?_;have e:=(aS wq);refine aZ 0 e b λb=>?_;refine iN (hy:=by intro k f;(try dsimp only at f);exact bS rfl rfl (l.1.aC f) _ underlying53 rfl aK (by rw[C1.out];omega) _ A1) (v:=.agg (aP (r a) j).toArray) 1 e b λb=>?_;refine iN (hy:=by intro k f;(try dsimp only at f);exact yA (BA.aC f) (by rw[AL.out];exact bZ)) (v:=.agg (aF O)) 2 e b λb=>?_;refine aZ 3 e b λb=>?_;refine aZ 4 e b λb=>?_;refine iN (hy:=by intro k f;(try dsimp only at f);go_simp;(try simp only[a2,a3]);(try with_reducible rfl)) (v:=I (40*(a:Int))) 5 e b λb=>?_;refine iN (hy:=by intro k f;(try dsimp only at f);go_simp;(try(rw[am];rfl))) (v:=ao) 6 e b λb=>?_;refine iN (hy:=by intro k f;(try dsimp only at f);go_simp;(try(rw[an];rfl))) (v:=af) 7 e b λb=>?_;refine aZ 9 e b λb=>?_;refine jY 8 b λd c=>?_;(try simp only[sZ]);go_simp;refine(ar _ (ay l.2.2.2 e) af (aR IS e)).mono ?_;rintro ad w2 ⟨rfl,q2⟩;have Q2:=Zd q2;clear q2;go_wp2_with fail;have C:=(aX e Q2);refine c.out _ _ (λ_=>C) λb=>?_;clear c;replace e:=C;clear C;(try simp only[sZ]);refine iN (hy:=by intro k f;(try dsimp only at f);go_simp;(try simp only[Nat.mul_comm]);(try with_reducible rfl)) (v:=.pointer (some (A (i.heap.size+1) (9+8*a)))) 10 e b λb=>?_;refine jY 11 b λd c=>?_;(try simp only[sZ]);have s:=Zd<|l.aC e;have n:=s.Xq (9+8*a) (t a) (by rw[UL.out,u.out a];omega);have m:=Zd n.1;rw[ST.out a]at m;have A3:=Zd<|(BA.out.aC e).aH n.2 (by have:=NQ.out;omega);have B3:=Zd<|(hB.out.aC e).aH n.2 (by have:=NB.out;omega);clear n;refine dD rfl 76 _ _ rfl (i.heap.size+1) (9+8*a) 79 (aQ (rY g t a)) (aQ (t a)) rfl rfl s.2.1 (by rw[aN,aN,UL.out,u.out a];omega) (by rw[aN,UL.out];exact uN) (dO _) ?_;refine c.out _ _ (λE=>by cases E) λb=>?_;clear c e;(try simp only[sZ]);clear s Q2 l BA hB;generalize dz w2 (i.heap.size+1) (9+8*a) (aQ (t a))=w3 at *
   refine bI _ _ _ _ (by rfl) ?_;refine wm ?_;clear ar am an IS a2 a3;go_upto_region 7 with fail;refine bW 12 (dB w3) 13 (by rfl) _ rfl (by kernel_rfl) λb=>?_;have e:=(aS w3);refine iN (hy:=by intro k f;(try dsimp only at f);exact bS rfl rfl (m.1.aC f) _ underlying53 rfl aK (by rw[C1.out];omega) _ A1) (v:=.agg (aP (r a) j).toArray) 0 e b λb=>?_;refine iN (hy:=by intro k f;(try dsimp only at f);exact yA (A3.aC f) (by rw[AL.out];exact bZ)) (v:=.agg (aF O)) 1 e b λb=>?_;refine aZ 2 e b λb=>?_;refine iN (hy:=by intro k f;(try dsimp only at f);have cc:=((m.2.1.aC f).cell 0).trans (tX (rY g t (a+1)) 0 (by rw[u.out (a+1)];omega));rw[KD.out (a+1)]at cc;go_simp;(try with_reducible rfl)) (v:=I q) 3 e b λb=>?_;refine aZ 4 e b λb=>?_;refine aZ 5 e b λb=>?_;refine iN (hy:=by intro k f;(try dsimp only at f);go_simp;(try simp only[Nat.mul_comm]);(try with_reducible rfl)) (v:=.pointer (some (A (i.heap.size+1) (9+8*a)))) 6 e b λb=>?_;refine iN (hy:=by intro k f;(try dsimp only at f);exact bS rfl rfl (m.2.1.aC f) _ underlying76 rfl uN (by rw[aN,u.out (a+1)];omega) _ B) (v:=.agg (aQ (t a)).toArray) 7 e b λb=>?_;refine jY 8 b λd c=>?_;(try simp only[sZ]);go_simp;refine(aw _ (ay m.2.2.2 e)).mono ?_;rintro ad w4 ⟨v4,rfl,_,q4⟩;have Q4:=Zd q4;clear q4;(try unfold bL);go_wp2_with fail;have C:=(aX e Q4);refine c.out _ _ (λ_=>C) λb=>?_;clear c;replace e:=C;clear C;(try simp only[sZ]);refine aZ 9 e b λb=>?_;refine aZ 10 e b λb=>?_;refine iB (i:=11) (v:=?bd) rfl (by kernel_rfl) b (λ_ _ _ E=>E) (Or.inl ⟨by rfl,?a6⟩) e λb=>?bf
   case a6=>(intro k _;go_simp;(try with_reducible rfl))
   (try simp only[sZ]);refine jY 12 b λd c=>?_;(try simp only[sZ]);have M4:=Zd<|m.aC e;have n:=M4.all (m:=r (a+1)) (t:=j) (y a) (y (a+1));have M5:=Zd n.1;have B5:=Zd<|(B3.out.aC e).aH n.2 (by have:=NB.out;omega);clear n;refine dD rfl 53 _ _ rfl i.heap.size 0 53 (aP (r a) j) (aP (r (a+1)) j) rfl rfl M4.1 (by rw[C1.out,CK.out];omega) (by rw[CK.out];exact aK) IK ?_;refine c.out _ _ (λE=>by cases E) λb=>?_;clear c e;(try simp only[sZ]);clear M4 Q4 m B3 A3;generalize dz w4 i.heap.size 0 (aP (r (a+1)) j)=w5 at *
   refine bI _ _ _ _ (by rfl) ?_;refine wm ?_;clear A1 C1 aw B v;go_wp2_with fail;go_roundw
   case rel=>exact⟨a+1,by go_num,gO,M5,B5⟩
   case measure=>simp[intOf];omega
  obtain rfl:a=2:=gO;have L2:=Zd<|u 2;clear P Q XT XP PS ab ah IE ST KD u;generalize rY g t 2=P2 at *
  have PL:=Zd<|aT P2 9 16;generalize bM P2 9 16=e at *
  have R:=Zd<|dO e;have f:=Zs ((aQ e).length=16) (by rw[aN];exact PL);have C:=Zs ((aQ (au 16)).length=16) (by rw[aN];exact ak 16);have B:=qM l.2.2.1 0 (aQ e) (by rw[f.out,C.out];omega);rw[pW _ _ (by rw[f.out,C.out])]at B;have PB:=Zd B;have O:=Zd<|ag _ (aG l.2.2.2 B.2 gO);rw[show aF e=(aQ e).toArray from rfl]at O;clear B ag;go_wp2_with (first|refine lV 9 l.2.1 JB (by rw[aN,L2.out];omega) P9 ?_|refine sV 0 (aQ e) l.2.2.1 (by rw[f.out,C.out];omega) (by rw[f.out];exact JB) R ?_);have a7:=qG PB.1 (by rw[f.out];exact JB);refine QB (v:=.agg (aQ e).toArray) ?_ rfl O;simp[results,results123,asAddr,Act.put,a7]
def afw (b:W):Sem.run prog (zeroValue 79) b=.ok (.agg (aF (au 25))) b:=by
 have a:=Un;cases hq:prog.info? 79 with
 | none=>simp[hq]at a
 | some d=>
  have c:d.zero=some (.agg (aF (au 25))):=by simpa [hq] using a
  simp[zeroValue,typeInfo,hq,c]
def akH (a:l.length=25)(c:jC l=true):iI l:=λa=>by
 by_cases b:a<25
 .have:=(lY l).1 c a b;have:=FJ a b;omega
 rw[dI _ a gO];omega
def Pk (j:Int)(a:L)(l:a.length=8)(k:W):Sem.run prog (Instr.build 79 #[(0,I j),(1,.agg (aF a))]) k=.ok (.agg (aQ (j::(a++au 16))).toArray) k:=by
 obtain⟨b,c,d,e,f,g,h,i,rfl⟩:∃b c d e f g h i,a=[b,c,d,e,f,g,h,i]:=by
  match a,l with
  | [b,c,d,e,f,g,h,i],_=>exact⟨b,c,d,e,f,g,h,i,rfl⟩
 kernel_rfl
def xG {b e:Operand}(c:Int)(d P:L)(h:∀f,Sem.run prog (Instr.build 79 #[(0,I c),(1,.agg (aF d))]) f=.ok (.agg (aQ P).toArray) f)(g:o.op=.build 79 #[(0,b),(1,e)])(i:a.eval b=I c)(j:a.eval e=.agg (aF d)):(execOp a.eval o).run prog w=.ok (.value (.agg (aQ P).toArray)) w:=by
 have f:(#[(0,b),(1,e)]:Array (Nat×Operand)).map (λ(e,b)=>(e,a.eval b))=#[(0,I c),(1,.agg (aF d))]:=by simp[i,j]
 unfold execOp;simp only[g,f,Sem.run_bind,h,Result.andThen_ok,Sem.run_pure]
def akI (f:Int)(b S:L)(e:b.length=8)(h:S.length=16):jd (f::(b++au 16)) 9 S=f::(b++S):=by
 refine Lp (by rw[dV];simp[e,h,ak]) λc d=>?_;rw[dV]at d;have i:c<25:=by simp[e,ak]at d;omega
 rw[gT _ _ _ _ d];by_cases g:c=0
 .subst g;rw[X9 gO];rfl
 obtain⟨a,rfl⟩:∃a,c=a+1:=⟨c-1,gO⟩;show(if 9<=a+1/\a+1<9+S.length then aB S (a+1-9)else aB (b++au 16) a)=aB (b++S) a;by_cases j:a<8
 .rw[X9 gO,jg _ _ _ gO,jg _ _ _ gO]
 rw[Q9 gO,iH b S a gO,e,show a+1-9=a-8 by omega]
def aiw (A I a b:L)(c d:Bool)(g:A.length=4)(h:I.length=120)(f:a.length=101)(i:b.length=101):lu (bV (A++(I++a)) c) 124 (aP b d)=bV (A++(I++b)) d:=by
 have e:bV (A++(I++a)) c=(aQ A++aQ I)++((aQ a++[.bool c])++[]):=by unfold bV mI aQ;simp
 rw[e,Ke _ _ _ _ 124 (by rw[ZB,aN,aN,g,h]) (by unfold aP;rw[wH,i,ZB,aN,f];rfl)];unfold bV aP mI aQ;simp
def anJ (W:World)(P:L)(c:Value)(b:World):Prop:=∃a,c=.pointer (S a)/\aW b a 79 (aQ P)/\W.heap.size<=a/\W.grownBy b none
def Pm (d:W)(a:L)(i:Bool)(C:a.length=225)(E:V)(b:L)(hi:aY d E b)(ae:b.length*8<=140737488351232)(c:Bool)(g:¬qL a b)(aa:∀e,d.grownBy e none->Calls prog 121 #[gu a i,E] e (Ed e (iw a b))):Calls prog 91 #[gu a i,E,.bool c] d (rO d (lJ a b c) (mK a b c) (lK a b c) (lM a b c) (iw a b)):=by
 have m:=Zd<|Od.new d a i;have HE:=Zd C;have H:=Zd<|bK C i;have F:=Zd<|h_.all i C;have x:=Zd<|bK (ak 225) false;have ZO:=Zd<|gG (au 225) false;have hz:=jJ;have j:=Zd aa;have T:iw a b≠0:=by unfold iw;(repeat' split)<;>first|exact absurd ‹_› g|decide
 have s:=Zs (∀e,d.grownBy e none->rO d (lJ a b c) (mK a b c) (lK a b c) (lM a b c) (iw a b) (.returned (.tuple #[gu (au 225) false,N,N,I (iw a b)])) e) (λe e=>⟨_,_,by rw[(kK c g).1,(kK c g).2.1],by rw[(kK c g).2.2.1];exact je _ _,by rw[(kK c g).2.2.2];exact bN _ _,e⟩);clear g hi;generalize rO d (lJ a b c) (mK a b c) (lK a b c) (lM a b c) (iw a b)=ac at *
 generalize iw a b=R at *
 have ad:(R==0)=false:=beq_eq_false_iff_ne.2 T;clear T;unfold Ed at j;obtain⟨e,B⟩:∃e,au 8=e:=⟨_,rfl⟩;have u:=Zs (e.length=8) (by rw[<-B];exact ak 8);rw[B]at j;clear B;unfold gu at j hz s ⊢;go_enter func91,ntmps91;go_upto_region 1 with fail;generalize (d.alloc (.cells (bV a i).toArray 55)).alloc (.cells (bV (au 225) false).toArray 55)=W0 at *
 go_wp2_with (first|refine lV 0 m.1 dN (by rw[H.out];omega) F ?_);refine(j W0 m.2.2).mono ?_;rintro af n ⟨D,q,U,rfl,z⟩;have O:=Zd U;clear U j;obtain⟨y,b2,b3⟩:=dG n 50 8 e u;have G:=Zd y;have p:=Zs (d.heap.size+1+1<=n.heap.size) ((m.aC z).2.1.lt);have M:=aj n (.cells (aF (au 8)) 50) none;have f:=Zd<|(m.aC z).aC M;have k:=f.1.dQ (m:=D) (t:=q) HE O;have r:=Zd k.1;have v:=Zd<|f.2.1.aH k.2 gO;have t:=Zd<|aG f.2.2 k.2 (Q6 _);have o:=Zd<|y.aH k.2 (by have:=p.out;omega);have l:=bF (rs':=e) o (u.trans (ak 8).symm);have X:=Zd l.1;have Y:=Zd<|r.out.aH l.2 (by have:=p.out;omega);have w:=Zd<|v.out.aH l.2 (by have:=p.out;omega);have K:=Zd<|aG t.out l.2 (by have:=p.out;omega);have J:=Zd<|bK O q;have P:=Zd<|gG D q;rw[uR]at G f r v t o X Y w K;clear y b2 b3 M k l z m F;go_upto_region 2 with(first|refine sV 0 (bV D q) f.1 (by rw[H.out,J.out];omega) (by rw[J.out];exact dN) P ?_|refine sA e o (u.trans (ak 8).symm) (by rw[ak];exact dX) ?_);(try simp only[Act.put]);clear f r v t G o P;generalize b_ _ n.heap.size e=W3 at *
 generalize n.heap.size=bq at *
 have Q:=Zd<|w.dQ (m:=au 225) (t:=false) (ak 225) (ak 225);have Z:=Zd<|s _ (aG K Q.2 gO);clear s;go_wp2_with (first|refine sV 0 (bV (au 225) false) w (by rw[x.out];omega) (by rw[x.out];exact dN) ZO ?_);have ab:=qG Q.1 (by rw[x.out];exact dN);refine QB (v:=.tuple #[.agg (bV (au 225) false).toArray,N,N,I R]) ?_ rfl Z;simp[results,results91,asAddr,Act.put,ab]
def Y2 (d:W)(a:L)(j:Bool)(he:a.length=225)(ah:V)(b:L)(hi:aY d ah b)(a4:b.length*8<=140737488351232)(c:Bool)(hW:vS d)(hX:TabA d 4 widq 8)(hT:TabA d 3 gains 8)(hG:uM d)(t:qL a b) :Calls prog 91 #[gu a j,ah,.bool c] d (rO d (lJ a b c) (mK a b c) (lK a b c) (lM a b c) (iw a b)):=by
 have Q0:=Zd<|Od.new d a j;have HE:=Zd he;have CE:=Zd<|bK he j;have AE:=Zd<|h_.all j he;have ZC:=Zd<|bK (ak 225) false;have ZO:=Zd<|gG (au 225) false;have hz:=jJ;have Z:=Zd λf (n:d.grownBy f none)=>IJ f a j he ah b (aR hi n) a4 (lq hW n) t;obtain⟨hl,P,hh,hc⟩:=id t;have cr:=w_ hh;have cl:(jo a b).length=80:=(Au hh).trans hl;have D:=vk hl hh;have u:(fF a).length=101:=aT _ _ _;have E:(lZ a b).length=8:=xZ _;have lE:(vU a b++(nH a b++fF a)).length=225:=by rw[ZB,ZB,D,u];rfl
 obtain⟨q,O⟩:∃q,vU a b++(nH a b++fF a)=q:=⟨_,rfl⟩;have G:=Zs (q.length=225) (by rw[<-O];exact lE);have pc:bM q 44 80=jo a b:=by
  refine(dL cl (λe hi=>?_)).symm;rw[<-O,iH _ _ _ (by show 4<=44+e;omega),show(vU a b).length=4 from rfl,jg _ _ _ (by rw[D];omega)];unfold nH;rw[iH _ _ _ (by rw[aT];omega),aT,show 44+e-4-40=e by omega]
 have pm:bM q 124 101=fF a:=by
  refine(dL u (λe hi=>?_)).symm;rw[<-O,iH _ _ _ (by show 4<=124+e;omega),show(vU a b).length=4 from rfl,iH _ _ _ (by rw[D];omega),D,show 124+e-4-120=e by omega]
 rw[O]at Z;have x:=Zd λf (p:h_ f d.heap.size q j)=>p.input 44 80 80 (by rw[G.out];omega) gO;rw[pc]at x;obtain⟨k,C⟩:∃k,Oc a b c=k:=⟨_,rfl⟩;obtain⟨l,Q⟩:∃l,lZ a b=l:=⟨_,rfl⟩;rw[Q]at E Z;have LQ:=Zd E;have KI:=Zd λf (n:d.grownBy f none) (p:aY f (.slice (some ⟨d.heap.size,44,none⟩) 80 80) (jo a b))=>YO (.slice (some ⟨d.heap.size,44,none⟩) 80 80) (jo a b) c f p cl cr;rw[show(if c=true then(1:Int)else if fU (jo a b) (jo a b) 80<1280 then 2 else 0)=k from C]at KI;obtain⟨g,B⟩:∃g,k::(l++au 16)=g:=⟨_,rfl⟩;have o:=Zs (g.length=25) (by rw[<-B];simp[E,ak]);have RB:=Zd λi=>Pk k l E i;rw[B]at RB;have PG:jC (pK a b c)=true:=DF c P;have J:(pK a b c).length=25:=adA c P;have PK:=Zd λf (n:d.grownBy f none)=>acg (pK a b c) J (akH J PG) f (eY hX n) PG;unfold PkP at PK;rw[show pkR (pK a b c)=GJ (pK a b c)from Q9 PG]at PK;have PY:=Zd λf (n:d.grownBy f none)=>Bp f (lq hW n) (eY hT n) (lD hG n) (fF a) j u P (pK a b c) J PG;have ML:=Zd<|uD (pK a b c) u;have ae:=Zs (∀vb vl v,iT d.heap.size v vb (GJ (pK a b c))->fO d.heap.size v vl (qK (fF a) (pK a b c))->d.grownBy v none->rO d (lJ a b c) (mK a b c) (lK a b c) (lM a b c) (iw a b) (.returned (.tuple #[gu (vU a b++(nH a b++lH (fF a) (pK a b c))) (mU (pK a b c)),vb,vl,I 0])) v) (λvb vl v i m r=>⟨vb,vl,by rw[(lN c t).1,(lN c t).2.1,(lN c t).2.2.2.2],by rw[(lN c t).2.2.1];exact i,by rw[(lN c t).2.2.2.1];exact m,r⟩);have FL:=Zs ((vU a b++(nH a b++lH (fF a) (pK a b c))).length=225) (by rw[ZB,ZB,D,ML.out];rfl);have SM:=Zd (show lu (bV q j) 124 (aP (lH (fF a) (pK a b c)) (mU (pK a b c)))=bV (vU a b++(nH a b++lH (fF a) (pK a b c))) (mU (pK a b c))from by
  rw[<-O];exact aiw (vU a b) (nH a b) (fF a) _ j _ rfl D u ML)
 have PM:=Zd<|qc j G;rw[pm]at PM;have ab:=Zd<|bK G j;have a9:=Zd<|h_.all j G;have ba:=Zd<|aJ u j;have c0:=Zs (aB g 0=k) (by rw[<-B];rfl);have p1:bM g 1 8=l:=by
  refine(dL E (λe hi=>?_)).symm;rw[<-B,Nat.add_comm 1 e];exact(jg l (au 16) e gO).symm
 have m0:(if aB g 0=1 then iY else fF a)=sj a c:=by
  rw[c0.out,<-C];unfold Oc sj;cases c with
  | true=>rfl
  | false=>
   by_cases e:fU (jo a b) (jo a b) 80<1280<;>simp[e]
 have w:=Zd λ(a7:¬k=2) f (n:d.grownBy f none) (p:aY f (.slice (some ⟨d.heap.size,44,none⟩) 80 80) (jo a b))=>Pj f (lq hW n) (eY hT n) (lD hG n) (fF a) j u P g o (by rw[p1,<-Q];exact zA _) (by rw[c0.out];exact a7) (.slice (some ⟨d.heap.size,44,none⟩) 80 80) (jo a b) p cl cr (sj a c) m0;rw[p1]at w;obtain⟨r,ag⟩:∃r,sJ (iV l) (sj a c) (jo a b) 0++sJ (iV l) (sj a c) (jo a b) 1=r:=⟨_,rfl⟩;rw[ag]at w;have SE:¬k=2->O_ a b c=r:=λp=>by
  unfold O_;rw[X9 (λe=>p (C.symm.trans e)),Q,ag]
 have SL:=Zs (¬k=2->r.length=16) (λp=>by rw[<-SE p];exact adz c P);have EP:=Zd (show ¬k=2->jd g 9 r=pK a b c from λp=>by
  unfold pK;rw[SE p,Q,C,<-B];exact akI k l r E (SL p))
 have al:=Zd (show k=2->g=pK a b c from λp=>by
  rw[<-B,<-Q,<-C];unfold pK O_;rw[Q9 (C.trans p)])
 have AP:=Zd<|iQ.all (pK a b c) 25 J;have am:=Zd J;clear t hl P hh hc cr cl D u E lE O pc pm C Q B PG J hi hW hX hT hG p1 m0 ag SE;generalize rO d (lJ a b c) (mK a b c) (lK a b c) (lM a b c) (iw a b)=bb at *
 generalize vU a b++(nH a b++lH (fF a) (pK a b c))=T at *
 generalize lH (fF a) (pK a b c)=y at *
 generalize mU (pK a b c)=m at *
 generalize qK (fF a) (pK a b c)=LF at *
 generalize GJ (pK a b c)=BF at *
 generalize ajl (pK a b c)=pe at *
 generalize pK a b c=PP at *
 generalize fF a=MM at *
 generalize jo a b=CC at *
 unfold jB at w;unfold Gc at PY;unfold gu at Z hz ae ⊢;unfold bL at PY w;go_enter func91,ntmps91;go_upto_region 1 with fail;generalize (d.alloc (.cells (bV a j).toArray 55)).alloc (.cells (bV (au 225) false).toArray 55)=W0 at *
 go_wp2_with (first|refine lV 0 Q0.1 dN (by rw[CE.out];omega) AE ?_);refine(Z W0 Q0.2.2).mono ?_;rintro aa W1 ⟨rfl,g1⟩;clear Z;obtain⟨b1,b2,b3⟩:=dG W1 50 8 l LQ;have B1:=Zd b1;have NB:=Zs (d.heap.size+1+1<=W1.heap.size) ((Q0.aC g1).2.1.lt);have GA:=aj W1 (.cells (aF (au 8)) 50) none;have K:=Zd<|(Q0.aC g1).aC GA;have e:=K.1.dQ (m:=q) (t:=j) HE G;have E2:=Zd e.1;have R2:=Zd<|K.2.1.aH e.2 gO;have G2:=Zd<|aG K.2.2 e.2 (Q6 _);have B2:=Zd<|b1.aH e.2 (by have:=NB.out;omega);have PV:=bF (rs':=l) B2 (LQ.trans (ak 8).symm);have B3:=Zd PV.1;have E3:=Zd<|E2.out.aH PV.2 (by have:=NB.out;omega);have R3:=Zd<|R2.out.aH PV.2 (by have:=NB.out;omega);have U:=Zd<|aG G2.out PV.2 (by have:=NB.out;omega);have CM:=Zd<|bK G j;have OM:=Zd<|gG q j;rw[uR]at B1 K E2 R2 G2 B2 B3 E3 R3 U;clear b1 b2 b3 GA e PV g1 Q0 AE;go_upto_region 2 with(first|refine sV 0 (bV q j) K.1 (by rw[CE.out,CM.out];omega) (by rw[CM.out];exact dN) OM ?_|refine sA l B2 (LQ.trans (ak 8).symm) (by rw[ak];exact dX) ?_);(try simp only[Act.put]);clear K E2 R2 G2 B1 B2 OM;generalize b_ _ W1.heap.size l=i at *
 generalize W1.heap.size=bq at *
 go_upto_region 4 with fail;go_upto_region 5 with fail;replace x:=Zd λf (n:i.grownBy f none)=>x f (E3.aC n);clear hz;have a6:=afw;go_cut [13]from 18 (λa c=>anJ i g a c)
 case first=>
  refine wp_region_held_drew (S:=dB i) (by kernel_rfl) (aS _) λa=>?_;refine aV 0 a ?_;refine aV 1 a ?_;refine aV (hy:=by intro v z;exact yA (B3.aC z) (by rw[LQ.out];exact dX)) (v:=.agg (aF l)) 3 a ?_;refine qN 2 5 (λn b=>?F) λn b=>?H
  case F=>
   (try simp only[sZ]);go_simp;refine(KI _ (ay U a) (x _ a)).mono ?_;rintro aa M ⟨rfl,rfl⟩;go_wp2_with fail;refine b.out _ _ a λa=>?_;clear b;(try simp only[sZ]);refine aV (hy:=by intro v z;exact xG k l g RB rfl rfl rfl) (v:=.agg (aQ g).toArray) 4 a ?_;refine eU 5 λn b=>?_;(try simp only[sZ]);go_simp;go_wp2_with fail;have f:=Zs (i.heap.size<=i.heap.size) (by first|exact Q6 _|exact K4 a);refine b.out _ _ (dZ a (.cells (aF (au 25)) 79)) λa=>?_;clear b;have s:=Zs (aW ((i.alloc (.cells (aF (au 25)) 79)).drew) (i.heap.size) 79 (aQ (au 25))) (aW.new i.drew 79 (aQ (au 25)));generalize (i.alloc (.cells (aF (au 25)) 79)).drew=R at *
   (try simp only[sZ]);refine eU 6 λn b=>?_;(try simp only[sZ]);refine dD rfl 79 _ _ rfl (i.heap.size) 0 79 (aQ (au 25)) (aQ g) rfl rfl s (by rw[aN,aN,o.out,ak];omega) (by rw[aN,o.out];exact dS) (dO _) ?_;have e:=qM s 0 (aQ g) (by rw[aN,aN,o.out,ak];omega);rw[pW _ _ (by rw[aN,aN,o.out,ak])]at e;refine b.out _ _ (jq a e.2 f) λa=>?_;clear b;(try simp only[sZ]);refine jX ?_;go_wp2_with fail;go_meet;exact⟨i.heap.size,rfl,e.1,f,a⟩
  case H=>
   (try simp only[sZ]);go_simp;go_wp2_with fail;have f:=Zs (i.heap.size<=i.heap.size) (by first|exact Q6 _|exact K4 a);refine b.out _ _ (dZ a (.cells (aF (au 25)) 79)) λa=>?_;clear b;have s:=Zs (aW ((i.alloc (.cells (aF (au 25)) 79)).drew) (i.heap.size) 79 (aQ (au 25))) (aW.new i.drew 79 (aQ (au 25)));generalize (i.alloc (.cells (aF (au 25)) 79)).drew=R at *
   (try simp only[sZ]);refine eU 2 λn b=>?_;(try simp only[sZ]);go_simp;refine(KI _ (ay U a) (x _ a)).mono ?_;rintro aa M ⟨rfl,rfl⟩;go_wp2_with fail;refine b.out _ _ a λa=>?_;clear b;(try simp only[sZ]);refine aV (hy:=by intro v z;exact xG k l g RB rfl rfl rfl) (v:=.agg (aQ g).toArray) 4 a ?_;refine eU 6 λn b=>?_;(try simp only[sZ]);refine dD rfl 79 _ _ rfl (i.heap.size) 0 79 (aQ (au 25)) (aQ g) rfl rfl s (by rw[aN,aN,o.out,ak];omega) (by rw[aN,o.out];exact dS) (dO _) ?_;have e:=qM s 0 (aQ g) (by rw[aN,aN,o.out,ak];omega);rw[pW _ _ (by rw[aN,aN,o.out,ak])]at e;refine b.out _ _ (jq a e.2 f) λa=>?_;clear b;(try simp only[sZ]);refine jX ?_;go_wp2_with fail;go_meet;exact⟨i.heap.size,rfl,e.1,f,a⟩
 case rest=>
 obtain⟨bp,rfl,F,z,s⟩:=hcut;have H:=Zd F;have M:=Zd z;have X:=Zd<|ay U s;have R:=Zd<|E3.aC s;have R4:=Zd<|R3.aC s;have f:=Zs (d.heap.size+1+1<=bp) (YM (show d.heap.size+1+1<=i.heap.size from R3.lt) z);have af:=Zd<|x wc s;clear F z s E3 R3 U B3 KI x RB a6;have cp:=(H.cell 0).trans (tX g 0 (by rw[o.out];omega));rw[c0.out]at cp;have ad:=Zd<|iQ.all g 25 o;go_upto_if 38 with fail;go_cut []from 18 (λc=>aW c bp 79 (aQ PP)/\h_ c d.heap.size q j/\h_ c (d.heap.size+1) (au 225) false/\d.grownBy c none)
 case first=>
  by_cases s:k=2
  .have a3:(k==2)=true:=beq_iff_eq.2 s;have M:=Zd<|al s;clear s;go_wp2_with fail;go_meet;exact⟨by rw[<-M.out];exact H,R,R4,X⟩
  have a3:(k==2)=false:=beq_eq_false_iff_ne.2 s;have ai:=Zd<|w s wc X af;have M:=Zd<|EP s;have aA:=Zd<|SL s;clear w af cp s EP SL;go_wp2_with (first|refine lV 124 R aK (by rw[ab.out];omega) PM ?_|refine lV 0 H dS (by rw[aN,o.out];omega) ad ?_);refine ai.mono ?_;rintro aa wd ⟨rfl,F⟩;have ax:=Zd<|H.aC F;have e:=amb ax 9 r (by rw[aA.out,o.out];omega);have z:=Zd e.1;rw[M.out]at z;have E5:=Zd<|(R.out.aC F).aH e.2 (by have:=f.out;omega);have R5:=Zd<|(R4.out.aC F).aH e.2 (by have:=f.out;omega);have Y:=Zd<|aG (ay X.out F) e.2 (by have:=f.out;omega);have IS:=Zd<|dO r;have LS:=Zs ((aQ r).length=16) (by rw[aN];exact aA);clear e H R R4 X F ai ad;go_wp2_with (first|refine sV 9 (aQ r) ax (by rw[LS.out,aN,o.out];omega) (by rw[LS.out];exact JB) IS ?_);go_meet;exact⟨z,E5,R5,Y⟩
 case rest=>
 obtain⟨p5,e5,r5,g5⟩:=hcut;have z:=Zd p5;have E5:=Zd e5;have R5:=Zd r5;have Y:=Zd g5;clear p5 e5 r5 g5 H R R4 X af ad w EP SL al cp;generalize a5:wc=W5 at *
 clear a5;go_upto_region 8 with fail;have N5:=Zs (bp+1<=W5.heap.size) (z.lt);go_wp2_with (first|refine lV 0 z dS (by rw[aN,am.out];omega) AP ?_);refine(PK W5 Y).mono ?_;rintro aa W6 ⟨vb,rfl,ob,M⟩;have P6:=Zd<|z.aC M;have E6:=Zd<|E5.aC M;have R6:=Zd<|R5.aC M;have G6:=Zd<|ay Y M;have an:=Zd<|ob.base N5;have N6:=Zd<|YM N5 M.size;clear PK z E5 R5 Y M ob N5;go_upto_region 9 with fail;have az:=Zd<|PY W6 G6;clear PY;go_wp2_with (first|refine lV 124 E6 aK (by rw[ab.out];omega) PM ?_|refine lV 0 P6 dS (by rw[aN,am.out];omega) AP ?_);refine az.mono ?_;rintro aa W7 ⟨vl,rfl,ol,g7⟩;have s:=Zd<|L_ W7 y m ML;have E8:=Zd<|(E6.aC g7).aC s.2.2;have R8:=Zd<|(R6.aC g7).aC s.2.2;have G8:=Zd<|ay (ay G6 g7) s.2.2;have ao:=Zd<|(an.aC g7).aC s.2.2;have ar:=Zd<|(ol.base N6).aC s.2.2;have F:=Zd<|aJ ML m;have OF:=Zd<|bO y m;have ZM:=Zd<|aJ (ak 101) false;have aE:=dM;unfold bL at aE;clear az P6 E6 R6 G6 an g7 ol N6;go_upto_region 10 with(first|refine sV 0 (aP y m) s.1 (by rw[ZM.out,F.out];omega) (by rw[F.out];exact aK) OF ?_);(try simp only[Act.put]);have V8:=Zd s.2.1;clear s aE;generalize dz (W7.alloc (.cells (aP (au 101) false).toArray 53)) W7.heap.size 0 (aP y m)=W8 at *
 generalize W7.heap.size=bm at *
 have AF:=Zd<|bU.all m ML;have e:=qM E8 124 (aP y m) (by rw[F.out,ab.out];omega);rw[SM.out]at e;have E9:=Zs (h_ _ d.heap.size T m) (e.1);have R9:=Zd<|R8.aH e.2 gO;have G9:=Zd<|aG G8 e.2 (Q6 _);have ap:=Zd<|ao.out.bH e.2 (by have:=f.out;omega);have av:=Zd<|ar.out.bH e.2 (by have:=f.out;omega);clear e R8 G8 ao ar;go_upto_region 11 with(first|refine lV 0 V8 aK (by rw[F.out];omega) AF ?_|refine sV 124 (aP y m) E8 (by rw[F.out,ab.out];omega) (by rw[F.out];exact aK) OF ?_);(try simp only[Act.put]);clear E8 V8 AF;generalize dz W8 d.heap.size 124 (aP y m)=W9 at *
 have a0:=Zd<|h_.all m FL;have ac:=Zd<|bK FL m;have a1:=Zd<|gG T m;have PB:=Zd<|R9.dQ (m:=T) (t:=m) (ak 225) FL;have aq:=Zd<|ap.out.bH PB.out.2 (by have:=f.out;omega);have aw:=Zd<|av.out.bH PB.out.2 (by have:=f.out;omega);have FF:=Zd<|ae.out _ _ _ (aq.out.base (b':=d.heap.size) (by have:=f.out;omega)) (aw.base (b':=d.heap.size) (by have:=f.out;omega)) (aG G9 PB.2 gO);clear ae ap av aq aw;go_wp2_with (first|refine lV 0 E9 dN (by rw[ac.out];omega) a0 ?_|refine sV 0 (bV T m) R9 (by rw[ZC.out,ac.out];omega) (by rw[ac.out];exact dN) a1 ?_);have a2:=qG PB.1 (by rw[ac.out];exact dN);refine QB (v:=.tuple #[.agg (bV T m).toArray,_,_,I 0]) ?_ rfl FF;simp[results,results91,asAddr,Act.put,a2]
def Gp (a:L)(d:Bool)(b:Int)(B:a.length=101)(z:bJ a=true)(a7:0<=b)(a9:b<=1)(g:W):Calls prog 157 #[bL a d,I b] g (fu g (nD a b) (yN a b d) (nN a b) (yO a b)):=by
 have M0:=Zd<|kT.new g a d;have GD:=Zd λt=>gM a d B t;have a6:=og B z;have P:Et a b:=⟨z,gO,gO⟩;have EB:=Ca a b z;rw[z]at GD;have WI:=Zd λbg=>gL b 0 1 bg;rw[KN (show 0<=b/\b<=1 by omega)]at WI;obtain⟨bn,bo⟩:0<=aB a 99/\aB a 99<=6:=(g_ a).1 z 99 gO;obtain⟨j,y⟩:∃j,Qv a b=j:=⟨_,rfl⟩;obtain⟨K,ad⟩:∃K,Gz (aB a 96) j=K:=⟨_,rfl⟩;obtain⟨f2,ae⟩:∃f2,Gz (aB a 97) j=f2:=⟨_,rfl⟩;obtain⟨v,af⟩:∃v,K / 4=v:=⟨_,rfl⟩;obtain⟨e,ao⟩:∃e,a.set 99 j=e:=⟨_,rfl⟩;have r:e=a.set 99 j:=ao.symm;have EH:=Zs (b=0->min (aB a 99+1) 6=j) (λR=>by rw[<-y];unfold Qv;by_cases q6:aB a 99<6;rw[Q9 ⟨R,q6⟩];omega;rw[X9 (λap=>q6 ap.2)];omega);have EO:=Zs (¬b=0->aB a 99=j) (λR=>by rw[<-y];unfold Qv;rw[X9 (λap=>R ap.1)]);have o:=Zs (e.length=101) (by rw[r,XB];exact B);have aq:=Zs (aB e 96=aB a 96) (by rw[r,iM _ _ _ gO,X9 gO]);have ar:=Zs (aB e 97=aB a 97) (by rw[r,iM _ _ _ gO,X9 gO]);have av:=Zs (aB e 98=aB a 98) (by rw[r,iM _ _ _ gO,X9 gO]);have ag:=Zs (aB e 99=j) (by rw[r,iM _ _ _ gO,Q9 rfl]);have az:=Zs (aB e 100=aB a 100) (by rw[r,iM _ _ _ gO,X9 gO]);have Y:=Zs (∀q,aB (e.set 100 q) 97=aB a 97) (λq=>by rw[iM _ _ _ (by rw[o.out];omega),X9 gO];exact ar);have Z:=Zs (∀q,aB (e.set 100 q) 98=aB a 98) (λq=>by rw[iM _ _ _ (by rw[o.out];omega),X9 gO];exact av);have aa:=Zs (∀q,aB (e.set 100 q) 99=j) (λq=>by rw[iM _ _ _ (by rw[o.out];omega),X9 gO];exact ag);have C:=Zd λt=>tC e d v o t;rw[az.out]at C;have EZ:yH (aB a 100) v 40=xQ a b:=by unfold xQ;rw[y,ad,af]
 rw[EZ]at C;have G:=Fv a b z;rw[y,ae]at G;have MX:=Zd λT t (hv:aY t T (xQ a b))=>abT (bM a 16 80) (aB a 98) f2 T (xQ a b) t (aT _ _ _) hv G;rw[(kL (h:=bM a 16 80) G).1,(kL (h:=bM a 16 80) G).2]at MX;have EX:Wt (lW (bM a 16 80) (aB a 98)) f2 (xQ a b)=rM a b:=by unfold rM;rw[y,ae]
 rw[EX]at MX;have KP:=Zd λT t (hv:aY t T (rM a b))=>Yx (bM a 16 80) T (rM a b) t (aT _ _ _) hv (jk a b);rw[(ji (h:=bM a 16 80) (jk a b)).1,(ji (h:=bM a 16 80) (jk a b)).2]at KP;have KL:=Zd<|lG (bM a 16 80) (rM a b);have ah:=Zd (show ∀v' l,fO g.heap.size l v' (rM a b)->g.grownBy l none->fu g (nD a b) (yN a b d) (nN a b) (yO a b) (.returned (.tuple #[bL (jd (e.set 100 (rC (aB a 100) 40)) 16 (yM (bM a 16 80) (rM a b))) d,v',I 0])) l from λv' l bf R=>
  ⟨v',by rw[(iJ (s:=d) P).1,(iJ (s:=d) P).2.1,(iJ (s:=d) P).2.2.2];unfold memT;rw[y,r],by rw[(iJ (s:=d) P).2.2.1];exact bf,R⟩)
 have PS:=Zs (bM e 16 80=bM a 16 80) (by rw[r];exact iZ a 99 _ 16 80 gO (.inr gO));have an:=Zd λq=>iZ e 100 q 16 80 (by rw[o.out];omega) (.inr gO);have CL:=Zd<|aJ B d;have AL:=Zd<|bU.all d B;have C1:=Zd<|aJ o d;have A1:=Zd<|bU.all d o;have ZL:=Zd<|aJ (ak 101) false;have HL:=Zd B;have fb:=Bv (aB a 96) j;rw[ad]at fb;have aC:=Zd ad;have aE:=Zd ae;have bb:K.tdiv 4=v:=by rw[YS fb.1];exact af
 have bc:K / 4=v:=af;have a0:=eG v gO gO;have hz:=dM;have aw:=Zd ao;clear z a6 B ad ae af EZ EX G P r ao fb a7 a9 y;generalize fu g (nD a b) (yN a b d) (nN a b) (yO a b)=bi at *
 unfold NsE at C;unfold bL at hz ah GD C ⊢;generalize rM a b=a1 at *
 generalize xQ a b=N at *
 generalize rC (aB a 100) 40=n at *
 generalize aB a 96=g0 at *
 generalize aB a 97=p0 at *
 generalize aB a 98=lg at *
 replace Y:=Zd<|Y n;replace Z:=Zd<|Z n;replace aa:=Zd<|aa n;have w:=Zs ((e.set 100 n).length=101) (by rw[XB];exact o);have U:=Zd<|aJ w d;have aH:=Zd<|bO (e.set 100 n) d;have P2:=Zd<|bU.part (l:=e.set 100 n) d 16 80 (by rw[w.out];omega);rw[an.out,PS.out]at P2;go_enter func157,ntmps157;go_upto_region 1 with fail;generalize (g.alloc (.cells (aP a d).toArray 53)).alloc (.cells (aP (au 101) false).toArray 53)=W0 at *
 clear hz;go_wp2_with (refine lV 0 M0.1 aK (by rw[CL.out];omega) AL ?_);refine(GD W0).mono ?_;rintro E W1 ⟨rfl,g1⟩;have F:=Zd<|M0.aC g1;clear M0 g1 GD;go_wp2_with fail;refine(WI _).mono ?_;rintro E w1 ⟨rfl,rfl⟩;clear WI;have a4:=F.1.cell 99 (by rw[HL.out];omega);have a5:=F.1.free 99;go_upto_if 20 with fail;go_cut []from 19 (λwx=>kT g e d wx)
 case first=>
  by_cases O:b=0
  .have bd:(b==0)=true:=beq_iff_eq.2 O;have m9:=EH O;have p:=Zs (kT g e d (w1.setCell ⟨g.heap.size,99,none⟩ (I j))) (by rw[<-aw.out];exact F.set 99 j (by rw[HL.out];omega));clear O;generalize aB a 99=z9 at *
   go_wp2_with fail;go_meet;exact p
  have bd:(b==0)=false:=beq_eq_false_iff_ne.2 O;have p:=Zs (kT g e d w1) (by rw[<-aw.out,<-EO.out O,set_self a 99 (by rw[HL.out];omega)];exact F);go_wp2_with fail;go_meet;exact p
 case rest=>
 obtain⟨D,aA⟩:∃D,wc=D:=⟨_,rfl⟩;rw[aA]at hcut ⊢;have p:=Zd hcut;clear hcut aA a4 a5 F EH EO;go_upto_region 5 with fail;have B2:=Zs (g.heap.size+1<D.heap.size) (p.2.1.lt);have bh:=Zs (g.heap.size<=D.heap.size) (p.2.2.size);refine bW 11 (dB D) 13 (by rfl) _ rfl (by kernel_rfl) λf=>?_;have c:=(aS D);refine iN (hy:=by intro l i;(try dsimp only at i);exact bS rfl rfl (p.1.aC i) _ underlying53 rfl aK (by rw[C1.out];omega) _ A1) (v:=.agg (aP e d).toArray) 0 c f λf=>?_;refine aZ 1 c f λf=>?_;refine iN (hy:=by intro l i;(try dsimp only at i);have s:=(p.1.aC i).cell 96 (by rw[o.out];omega);rw[aq.out]at s;go_simp;(try with_reducible rfl)) (v:=I g0) 2 c f λf=>?_;refine aZ 3 c f λf=>?_;refine iN (hy:=by intro l i;(try dsimp only at i);have s:=(p.1.aC i).cell 99 (by rw[o.out];omega);rw[ag.out]at s;go_simp;(try with_reducible rfl)) (v:=I j) 4 c f λf=>?_;refine jY 5 f λab k=>?_;(try simp only[sZ]);go_simp;refine(o_ g0 j _).mono ?_;rintro E w1 ⟨rfl,rfl⟩;rw[aC.out];go_wp2_with fail;have x:=c;refine k.out _ _ (λ_=>x) λf=>?_;clear k;replace c:=x;clear x;(try simp only[sZ]);refine iN (hy:=by intro l i;(try dsimp only at i);go_simp;(try simp only[bb,bc,a0])) (v:=I v) 6 c f λf=>?_;refine jY 7 f λab k=>?_;(try simp only[sZ]);go_simp;refine(C _).mono ?_;rintro E w2 ⟨v2,rfl,o2,q2⟩;have Q2:=Zd q2;have O2:=Zd<|o2.base c.size;clear q2 o2;go_wp2_with fail;have x:=(aX c Q2);refine k.out _ _ (λ_=>x) λf=>?_;clear k;replace c:=x;clear x;(try simp only[sZ]);refine aZ 8 c f λf=>?_;refine aZ 9 c f λf=>?_;refine iB (i:=10) (v:=?bj) rfl (by kernel_rfl) f (λ_ _ _ M=>M) (Or.inl ⟨by rfl,?a2⟩) c λf=>?bk
 case a2=>(intro l _;go_simp;(try with_reducible rfl))
 (try simp only[sZ]);refine jY 11 f λab k=>?_;(try simp only[sZ]);have al:=Zd<|p.aC c;have ai:=al.Xq (e.set 100 n) d o w;have m:=Zd ai.1;have H:=Zd<|O2.out.bH ai.2 (by have:=B2.out;omega);clear O2 ai;refine dD rfl 53 _ _ rfl g.heap.size 0 53 (aP e d) (aP (e.set 100 n) d) rfl rfl al.1 (by rw[C1.out,U.out];omega) (by rw[U.out];exact aK) aH ?_;refine k.out _ _ (λM=>by cases M) λf=>?_;clear k c;(try simp only[sZ]);clear al p Q2;generalize dz w2 g.heap.size 0 (aP (e.set 100 n) d)=W3 at *
 refine bI _ _ _ _ (by rfl) ?_;refine wpAny_take (i:=12) (v:=?bl) rfl (by kernel_rfl) (by kernel_rfl) (by kernel_rfl) (λ_ _ _ M=>M) (Or.inl ⟨by rfl,?a3⟩) ?bm
 case a3=>(intro l;go_simp;(try with_reducible rfl))
 (try simp only[sZ]);refine wm ?_;clear C;go_upto_region 6 with fail;refine wp_region_held_drew (S:=dB W3) (by kernel_rfl) (aS _) λc=>?_;refine aV 0 c ?_;refine aV (hy:=by intro l i;exact bS rfl rfl (m.1.aC i) _ underlying51 rfl dU (by rw[U.out];omega) _ P2) (v:=.agg (aQ (bM a 16 80)).toArray) 1 c ?_;refine aV 2 c ?_;refine aV (hy:=by intro l i;have s:=(m.1.aC i).cell 98 (by rw[w.out];omega);rw[Z.out]at s;go_simp;(try with_reducible rfl)) (v:=I lg) 3 c ?_;refine aV 4 c ?_;refine aV (hy:=by intro l i;have s:=(m.1.aC i).cell 97 (by rw[w.out];omega);rw[Y.out]at s;go_simp;(try with_reducible rfl)) (v:=I p0) 5 c ?_;refine aV 6 c ?_;refine aV (hy:=by intro l i;have s:=(m.1.aC i).cell 99 (by rw[w.out];omega);rw[aa.out]at s;go_simp;(try with_reducible rfl)) (v:=I j) 7 c ?_;refine aV 9 c ?_;refine eU 8 λab k=>?_;(try simp only[sZ]);go_simp;refine(o_ p0 j _).mono ?_;rintro E w3 ⟨rfl,rfl⟩;rw[aE.out];go_wp2_with fail;refine k.out _ _ c λc=>?_;clear k;(try simp only[sZ]);refine eU 10 λab k=>?_;(try simp only[sZ]);go_simp;refine(MX v2 _ (H.aC c).ints).mono ?_;rintro E w4 ⟨v4,rfl,o4,q4⟩;have Q4:=Zd q4;have J:=Zd<|o4.base c.size;clear q4 o4;go_wp2_with fail;refine k.out _ _ (aX c Q4) λc=>?_;clear k;(try simp only[sZ]);clear Q4;refine aV 11 c ?_;refine aV 12 c ?_;refine aV 13 c ?_;refine aV 14 c ?_;refine aV 15 c ?_;refine jX ?_;have ax:=Zd<|m.aC c;have am:=Zd J;have BL:=Zs (g.heap.size+1<W3.heap.size) (m.2.1.lt);have B1:=Zs (g.heap.size<=W3.heap.size) (m.2.2.size);clear m H J c MX P2;go_upto_region 7 with fail;have ac:=w;have P3:=Zd<|bU.part (l:=e.set 100 n) d 16 80 (by rw[ac.out];omega);rw[an.out,PS.out]at P3;have C3:=U;have KK:=Zd<|KP v4 w4 am.ints;have m:=ax;have H:=am;clear KP PS an ax am Y Z aa aq ar av ag az;go_wp2_with (first|refine lV 16 m.1 dU (by rw[C3.out];omega) P3 ?_);refine KK.mono ?_;rintro E W4 ⟨rfl,g4⟩;have M4:=Zd<|m.aC g4;have J:=Zd<|H.aC g4;clear KK m H g4 P3;generalize yM (bM a 16 80) a1=u at *
 have M5:=Zd<|M4.put 16 u (by rw[KL.out,ac.out];omega);have O5:=Zd<|J.bH (M4.1.put 16 u (by rw[KL.out,ac.out];omega)).2 (by have:=BL.out;omega);have I_:=Zd<|dO u;have IL:=Zs ((aQ u).length=80) (by rw[aN];exact KL);clear J;go_upto_region 8 with(first|refine sV 16 (aQ u) M4.1 (by rw[IL.out,C3.out];omega) (by rw[IL.out];exact dU) I_ ?_);(try simp only[Act.put]);clear M4 I_ IL C3;generalize dz W4 g.heap.size 16 (aQ u)=W5 at *
 have L5:=Zs ((jd (e.set 100 n) 16 u).length=101) (by rw[dV];exact ac);generalize jd (e.set 100 n) 16 u=Q at *
 have A5:=Zd<|bU.all d L5;have X:=Zd<|aJ L5 d;have ON:=Zd<|bO Q d;have PB:=Zd<|M5.fin Q d L5;have O6:=Zd<|O5.bH (M5.2.1.dQ (m:=Q) (t:=d) (ak 101) L5).2 BL;have FF:=Zd<|ah _ _ (O6.base B1) PB.2;clear ah O5 O6;go_wp2_with (first|refine lV 0 M5.1 aK (by rw[X.out];omega) A5 ?_|refine sV 0 (aP Q d) M5.2.1 (by rw[ZL.out,X.out];omega) (by rw[X.out];exact aK) ON ?_);have ba:=qG PB.1 (by rw[X.out];exact aK);refine QB (v:=.tuple #[.agg (aP Q d).toArray,_,I 0]) ?_ rfl FF;simp[results,results157,asAddr,Act.put,ba]
def aci (a:Nat)(j:a<=35184372088832)(b:W):(Instr.makeSlice 26 (I 0) (I a)).run prog b=.ok (.slice (S b.heap.size) 0 a) (b.alloc (.cells (aF (au a)) 3)):=by have⟨h,d,e,f,g⟩:=info_parts nY;have c:=run_make (P:=prog) b 26 3 h (I 0) underlying26 d e .i64 .i64 0 a (DC _) gO (by rw[g];omega) gO;have i:=EA (n:=a);rw[show au a=List.replicate a 0 by unfold au;rfl,<-i];simpa [f,Value.cells] using c
def afx {base:Nat}(a:bY w b 3 (au n))(c:base<=b)(d:n<=35184372088832):fO base w (.slice (S b) 0 n) []:=
 ⟨by simp,.inr ⟨b,n,aF (au n),rfl,c,a,QN _,by unfold maxLen;omega,by simp[aF,ak],by simp⟩⟩
def kT.ane (b:kT w l s w')(a:w'.grownBy u z)(d:∀c,z=some c->w.heap.size+1+1<=c):kT w l s u:=by
 rcases z with _|c
 .exact b.aC a
 have:=d c rfl;exact⟨b.1.aH a gO,b.2.1.aH a gO,aG b.2.2 a gO⟩
def kT.amy {m:L}{t:Bool}(a:kT w l s w')(b:l.length=101)(c:m.length=101):kT w m t (dz w' w.heap.size 0 (aP m t))/\w'.grownBy (dz w' w.heap.size 0 (aP m t)) (some w.heap.size):=by have:=a.1.dQ (m:=m) (t:=t) b c;exact⟨⟨this.1,a.2.1.aH this.2 gO,aG a.2.2 this.2 (Q6 _)⟩,this.2⟩
def Pw (a:List Int)(c:Bool)(l:a.length=101)(j:bJ a=true)(e:W):Calls prog 128 #[bL a c] e (Gc e (j_ (jN a) a 2) c (Eu (jN a) a 2)):=by
 have T:=Zd<|kT.new e a c;have DI:=Zd λwr=>abO (bM a 0 8) (aT _ _ _) (jM j) wr;have EX:=Zd λwr=>abI (pG (bM a 0 8)) (pV _) 32440 gO gO (by rw[zX];intro J hi;have:=(jZ _).1 (Kg _ (aT _ _ _) (jM j)).wide J hi;omega) wr;rw[show wF (pG (bM a 0 8)) 32440=jN a from rfl]at EX;have C:=Zd (show ∀(b:Nat),b<2->∀wr,Calls prog 157 #[bL (j_ (jN a) a b) c,I (b:Int)] wr (fu wr (nD (j_ (jN a) a b) b) c (nN (j_ (jN a) a b) b) 0)from λb k wr=>by
  have Z:=uq (jN a) a l (rP j) j b gO;have f:=qd (jN a) a l b;have aa:Et (j_ (jN a) a b) (b:Int):=⟨Z,gO,gO⟩;have d:=Gp (j_ (jN a) a b) c (b:Int) f Z gO gO wr;rw[(iJ (s:=c) aa).2.1,(iJ (s:=c) aa).2.2.2]at d;exact d)
 have EN:=Zd (λ(b:Nat) (k:b<2)=>show(nN (j_ (jN a) a b) b).length=40 by
  have Z:=uq (jN a) a l (rP j) j b gO;rw[(iJ (s:=true) (l:=j_ (jN a) a b) (half:=(b:Int)) ⟨Z,gO,gO⟩).2.2.1,jk])
 have ON:=Zd λ(b:Nat) (k:b<=2)=>(Ae (jN a) a l (rP j) j b k).1;have SN:=Zd (λ(b:Nat) (k:b<2)=>show(qU (jN a) (nD (j_ (jN a) a b) b) (nN (j_ (jN a) a b) b)).length<=40 by
  have:=J8 (jN a) (bM (nD (j_ (jN a) a b) b) 8 8) (nN (j_ (jN a) a b) b);rw[EN.out b k]at this;exact this)
 have g:=Zd λ(b:Nat)=>qd (jN a) a l b;have LE:=Zd λ(b:Nat)=>Dk (j_ (jN a) a b) (qd (jN a) a l b) (b:Int);have P:=Zs (∀d f,fO e.heap.size f d (Eu (jN a) a 2)->e.grownBy f none->Gc e (j_ (jN a) a 2) c (Eu (jN a) a 2) (.returned (.tuple #[bL (j_ (jN a) a 2) c,d])) f) (λd f aa f=>⟨d,rfl,aa,f⟩);have M:=Zs ((jN a).length=9) (CJ _ _);have u:=Zd<|pV (bM a 0 8);have E:=Zd λ(b:Nat) (k:b<2) d wr (ah:aY wr d (nN (j_ (jN a) a b) b)) (sh:rD d (nN (j_ (jN a) a b) b))=>rF (jN a) (nD (j_ (jN a) a b) b) (nN (j_ (jN a) a b) b) c M (LE b) d wr ah sh (by rw[EN.out b k];omega);have S1:=Zd λ(b:Nat)=>show qR (jN a) (nD (j_ (jN a) a b) b) (nN (j_ (jN a) a b) b)=j_ (jN a) a (b+1)from rfl;have S2:=Zd λ(b:Nat)=>show Eu (jN a) a b++qU (jN a) (nD (j_ (jN a) a b) b) (nN (j_ (jN a) a b) b)=Eu (jN a) a (b+1)from rfl;have E0:=Zs (j_ (jN a) a 0=a) (rfl);have E1:=Zs (Eu (jN a) a 0=[]) (rfl);have HL:=Zd l;have CL:=Zd<|aJ l c;have P0:=Zd<|bU.part (l:=a) c 0 8 gO;have ZL:=Zd<|aJ (ak 101) false;have hz:=dM;have ag:=aci 80 gO;rw[show((80:Nat):Int)=80 from rfl]at ag;clear j l;generalize Gc e (j_ (jN a) a 2) c (Eu (jN a) a 2)=ai at *
 unfold Gc at E;unfold fu at C;unfold bL at hz P C E ⊢;generalize jN a=A at *
 generalize bM a 0 8=k8 at *
 generalize pG k8=O at *
 generalize Bu O 32440=x1 at *
 generalize zh k8=x2 at *
 go_enter func128,ntmps128;go_upto_region 1 with fail;generalize (e.alloc (.cells (aP a c).toArray 53)).alloc (.cells (aP (au 101) false).toArray 53)=W0 at *
 clear hz;go_wp2_with (first|refine lV 0 T.1 dX (by rw[CL.out];omega) P0 ?_);refine(DI W0).mono ?_;rintro i Y ⟨rfl,g1⟩;have⟨b1,b2,b3⟩:=dG Y 69 9 O u;have B1:=Zd b1;have n:=Zd b2;have q:=Zd<|(T.aC g1).aC b3;have f:=Zs (e.heap.size+1+1<=Y.heap.size) ((T.aC g1).2.1.lt);rw[oV]at B1 n q;clear g1 b1 b2 b3 T DI P0;go_upto_region 2 with(first|refine sA O B1 (by rw[u.out,ak]) (by rw[ak];exact bZ) ?_);(try simp only[Act.put]);clear B1;generalize b_ _ Y.heap.size O=W2 at *
 generalize Y.heap.size=r at *
 go_wp2_with (first|refine lA n (by rw[u.out];exact bZ) ?_);refine(EX W2).mono ?_;rintro i W3 ⟨rfl,g3⟩;have o:=Zd<|n.aC g3;have PU:=bF (rs':=A) o (by rw[M.out,u.out]);have v:=Zd<|q.aC g3;have w:=Zd<|v.ane PU.2 (λj i=>by cases i;exact f);have t:=Zd PU.1;clear g3 EX q n PU v;go_upto_region 3 with(first|refine sA A o (by rw[M.out,u.out]) (by rw[u.out];exact bZ) ?_);(try simp only[Act.put]);clear o;generalize b_ W3 r A=F at *
 have x:=Zs (r+1<=F.heap.size) (t.lt);have OZ:=Zd<|afx (base:=r+1) (n:=80) (bY.new F 3 (au 80)) x gO;have Q:=aj F (.cells (aF (au 80)) 3) none;have D:=Zd<|w.aC Q;have z:=Zd<|t.aC Q;have y:=Zd<|YM x Q.size;clear Q w t x;go_upto_region 4 with fail;clear ag;generalize F.alloc (.cells (aF (au 80)) 3)=W5 at *
 generalize F.heap.size=bo at *
 go_wp2_with fail;go_loopw [6,22] (λd J wr=>∃b:Nat,J=I (b:Int)/\b<=2/\Hid (fO (r+1) wr d (Eu A a b))/\Hid (kT e (j_ A a b) c wr)/\Hid (bY wr r 69 A)/\Hid (r+1<=wr.heap.size)) (λ_ J _=>2-(intOf J).toNat)
 case atStart=>exact⟨0,rfl,QN _,by rw[E1.out];exact OZ,by rw[E0.out];exact D,z,y⟩
 case round=>
  obtain⟨b,rfl,k,hO,s,hB,hN⟩:=hrel;clear D z y OZ;by_cases ac:b<2
  .have am:(b:Int)<2:=gO;have K:=Zd<|bU.all c (g b);have m:=Zd<|aJ (g b) c;have ad:=Zd<|C b ac wr;have L1:=Zd<|g b;have R:=Zd<|LE b;have L3:=Zd<|g (b+1);have Q1:=Zd<|S1 b;have Q2:=Zd<|S2 b;have OL:=Zd<|ON b k;have SL:=Zd<|SN b ac;have ab:=Zd<|E b ac;rw[Q1.out]at ab;clear C P g LE S1 S2 ON SN E EN E0 E1 Q1;generalize qU A (nD (j_ A a b) b) (nN (j_ A a b) b)=LX at *
   generalize nN (j_ A a b) b=al at *
   generalize nD (j_ A a b) b=m1 at *
   generalize j_ A a b=m0 at *
   generalize af:j_ A a (b+1)=m2 at *
   have E2:=Zd af;clear af;go_upto_region 8 with fail;go_wp2_with (first|refine lV 0 s.1 aK (by rw[m.out];omega) K ?_);refine ad.mono ?_;rintro i w2 ⟨v2,rfl,o2,G⟩;have O2:=Zd<|hO.aC G;have q:=Zd<|s.aC G;have n:=Zd<|hB.aC G;have N2:=Zd<|YM hN G.size;have X2:=Zd<|o2.base hN;clear hO s hB hN G o2 ad K;have d:=q.amy (m:=m1) (t:=c) L1 R;have v:=Zd d.1;have O3:=Zd<|O2.out.bH d.2 (by have:=f.out;omega);have X3:=Zd<|X2.out.bH d.2 (by have:=f.out;omega);have o:=Zd<|n.out.aH d.2 (by have:=f.out;omega);have N3:=Zd<|YM N2 d.2.size;have p:=Zd<|bO m1 c;have B:=Zd<|aJ R c;clear d O2 X2 n N2;go_upto_region 9 with(first|refine sV 0 (aP m1 c) q.1 (by rw[m.out,B.out];omega) (by rw[B.out];exact aK) p ?_);(try simp only[Act.put]);clear q p m;generalize dz w2 e.heap.size 0 (aP m1 c)=w3 at *
   have A2:=Zd<|bU.all c R;have ae:=Zd<|ab v2 w3 X3.ints X3.xJ;clear ab X3;go_wp2_with (first|refine lA o (by rw[M.out];exact bZ) ?_|refine lV 0 v.1 aK (by rw[B.out];omega) A2 ?_);refine ae.mono ?_;rintro i w4 ⟨v4,rfl,o4,H⟩;have O4:=Zd<|O3.aC H;have w:=Zd<|v.aC H;have t:=Zd<|o.aC H;have x:=Zd<|YM N3 H.size;have X4:=Zd<|o4.base N3;clear O3 v o N3 H o4 ae A2;have d:=w.amy (m:=m2) (t:=c) R L3;have D:=Zd d.1;have U:=Zd<|O4.out.bH d.2 (by have:=f.out;omega);have X5:=Zd<|X4.out.bH d.2 (by have:=f.out;omega);have z:=Zd<|t.out.aH d.2 (by have:=f.out;omega);have y:=Zd<|YM x d.2.size;have p:=Zd<|bO m2 c;have C3:=Zd<|aJ L3 c;clear d O4 X4 t x;go_upto_region 10 with(first|refine sV 0 (aP m2 c) w.1 (by rw[B.out,C3.out];omega) (by rw[C3.out];exact aK) p ?_);(try simp only[Act.put]);clear w p B C3;generalize dz w4 e.heap.size 0 (aP m2 c)=w5 at *
   have LB:=Zs (((Eu A a b).length+LX.length)*8<=140737488355328) (by rw[OL.out];have:=SL.out;omega);have XI:=Zd X5.ints;have XS:=Zd X5.xJ;go_wp2_with (at_builtin;refine dH (by rfl) _ _ rfl (r+1) _ v4 (Eu A a b) LX rfl rfl U XI XS LB y ?_);intro v6 w6 h6 g6;rw[Q2.out]at h6;have X:=Zd h6;have M6:=Zd<|D.ane g6 (λj i=>by have:=(U.lt j i).1;have:=f.out;omega);have B6:=Zd<|aW.alk (aW.own (aW.alj z) g6 (λj i=>by have:=(U.lt j i).1;omega));have N6:=Zd<|YM y g6.size;clear h6 g6 U D z y X5 Q2 XI XS;go_wp2_with fail;go_roundw
   case rel=>exact⟨b+1,by go_num,gO,X,by rw[E2.out];exact M6,B6,N6⟩
   case measure=>simp[intOf];omega
  obtain rfl:b=2:=gO;have K:=Zd<|bU.all c (g 2);have m:=Zd<|aJ (g 2) c;have p:=Zd<|bO (j_ A a 2) c;have d:=Zd<|s.fin (j_ A a 2) c (g 2);have X:=Zd<|hO.out.bH (s.out.2.1.dQ (m:=j_ A a 2) (t:=c) (ak 101) (g.out 2)).2 (by have:=f.out;omega);have G:=Zd<|P.out _ _ (X.out.base (b':=e.heap.size) (by have:=f.out;omega)) d.2;clear P X C E;generalize j_ A a 2=B at *
  generalize Eu A a 2=L at *
  go_wp2_with (first|refine lV 0 s.1 aK (by rw[m.out];omega) K ?_|refine sV 0 (aP B c) s.2.1 (by rw[ZL.out,m.out];omega) (by rw[m.out];exact aK) p ?_);have H:=qG d.1 (by rw[m.out];exact aK);refine QB (v:=.tuple #[.agg (aP B c).toArray,_]) ?_ rfl G;simp[results,results128,asAddr,Act.put,H]
def Ve (a:List Int)(b:Bool)(g:a.length=101)(f:bJ a=true)(c:W):Calls prog 94 #[bL a b] c (fu c (qV a) (sG a b) (qI a) (qg a)):=by
 have r:=Zd<|kT.new c a b;have l:=Zd λd=>gM a b g d;rw[f]at l;have n:=Zd λd=>Pw a b g f d;have i:=Zd<|qd (jN a) a g 2;have p:=Zd (show ∀d e,fO c.heap.size e d (Eu (jN a) a 2)->c.grownBy e none->fu c (qV a) (sG a b) (qI a) (qg a) (.returned (.tuple #[bL (j_ (jN a) a 2) b,d,I 0])) e from λd e e j=>
  ⟨d,by rw[(oh (s:=b) f).1,(oh (s:=b) f).2.1,(oh (s:=b) f).2.2.2],by rw[(oh (s:=b) f).2.2.1];exact e,j⟩)
 have y:=Zd g;have k:=Zd<|aJ g b;have o:=Zd<|bU.all b g;have F:=Zd<|aJ (ak 101) false;have M:=dM;generalize fu c (qV a) (sG a b) (qI a) (qg a)=P at *
 generalize j_ (jN a) a 2=d at *
 generalize Eu (jN a) a 2=L at *
 unfold Gc at n;unfold bL at M p l n ⊢;go_enter func94,ntmps94;go_upto_region 1 with fail;generalize (c.alloc (.cells (aP a b).toArray 53)).alloc (.cells (aP (au 101) false).toArray 53)=D at *
 go_wp2_with (refine lV 0 r.1 aK (by rw[k.out];omega) o ?_);refine(l D).mono ?_;rintro G v ⟨rfl,H⟩;have m:=Zd<|r.aC H;go_wp2_with (refine lV 0 m.1 aK (by rw[k.out];omega) o ?_);refine(n v).mono ?_;rintro G E ⟨R,rfl,O,J⟩;have s:=Zd<|m.aC J;have z:=Zd<|O.base (b':=c.heap.size+1+1) (show c.heap.size+1+1<=v.heap.size from m.2.1.lt);have t:=s.amy (m:=d) (t:=b) y i;have j:=Zd t.1;have B:=Zd<|z.bH t.2 gO;have q:=Zd<|bO d b;have e:=Zd<|aJ i b;go_upto_region 4 with(first|refine sV 0 (aP d b) s.1 (by rw[e.out,k.out];omega) (by rw[e.out];exact aK) q ?_);(try simp only[Act.put]);generalize dz E c.heap.size 0 (aP d b)=Q at *
 have w:=Zd<|bU.all b i;have u:=Zd<|j.fin d b i;have C:=Zd<|B.bH (j.2.1.dQ (m:=d) (t:=b) (ak 101) i).2 gO;have x:=Zd<|p _ _ (C.base (b':=c.heap.size) gO) u.2;go_wp2_with (first|refine lV 0 j.1 aK (by rw[e.out];omega) w ?_|refine sV 0 (aP d b) j.2.1 (by rw[F.out,e.out];omega) (by rw[e.out];exact aK) q ?_);have K:=qG u.1 (by rw[e.out];exact aK);refine QB (v:=.tuple #[.agg (aP d b).toArray,_,I 0]) ?_ rfl x;simp[results,results94,asAddr,Act.put,K]
def Rs (b:W):Sem.run prog (zeroValue 79) b=.ok (.agg (aF (au 25))) b:=by
 have a:=Un;cases hq:prog.info? 79 with
 | none=>simp[hq]at a
 | some d=>
  have c:d.zero=some (.agg (aF (au 25))):=by simpa [hq] using a
  simp[zeroValue,typeInfo,hq,c]
def Gg (a:L):(oJ a).length=25:=by
 unfold oJ;split
 .exact cK _ _
 exact cK _ _
def kT.anC {m:L}{t:Bool}(a:kT w l s w')(b:l.length=101)(c:m.length=101):kT w m t (dz w' w.heap.size 0 (aP m t))/\w'.grownBy (dz w' w.heap.size 0 (aP m t)) (some w.heap.size):=by have:=a.1.dQ (m:=m) (t:=t) b c;exact⟨⟨this.1,a.2.1.aH this.2 gO,aG a.2.2 this.2 (Q6 _)⟩,this.2⟩
def OD (c:W)(pl:CPy 125 c)(R:∀(f:V) (a:L) d,c.grownBy d none->jI d f a->yP a->a.length<=140737488351232->Calls prog 127 #[f] d (AZ d a))(f:V)(a:L)(O:jI c f a)(J:yP a)(K:a.length<=140737488351232)(b:L)(e:Bool)(i:b.length=101)(aa:iI b)(g:bJ b=true)(j:xV a≠0):Calls prog 92 #[bL b e,f] c (fu c (mV b a) (r_ b a) (nP b a) (kM b a)):=by
 have o:=Zd<|kT.new c b e;have k:=Zd λd=>gM b e i d;rw[g]at k;have s:=Zd λd (t:c.grownBy d none)=>R f a d t (jy O t) J K;unfold AZ at s;have r:=Zd<|Gg a;have n:=Zs (∀d,c.grownBy d none->fu c (mV b a) (r_ b a) (nP b a) (kM b a) (.returned (.tuple #[bL (au 101) false,N,I (xV a)])) d) (λd d=>⟨_,by rw[(xX g j).1,(xX g j).2.1,(xX g j).2.2.2],by rw[(xX g j).2.2.1];exact bN _ _,d⟩);have C:=Zd<|bO (au 101) false;have X:=Zd i;have x:=Zd<|aJ i e;have v:=Zd<|bU.all e i;have m:=Zd<|aJ (ak 101) false;have Q:=dM;have ab:=Rs;generalize fu c (mV b a) (r_ b a) (nP b a) (kM b a)=Z at *
 unfold bL at Q n k ⊢;generalize oJ a=P at *
 generalize xV a=T at *
 go_enter func92,ntmps92;go_upto_region 1 with fail;generalize (c.alloc (.cells (aP b e).toArray 53)).alloc (.cells (aP (au 101) false).toArray 53)=z at *
 go_wp2_with (refine lV 0 o.1 aK (by rw[x.out];omega) v ?_);refine(k z).mono ?_;rintro G B ⟨rfl,H⟩;have d:=Zd<|o.aC H;go_wp2_with fail;refine(s B d.2.2).mono ?_;rintro G l ⟨rfl,u⟩;have⟨D,E,F⟩:=dG l 79 25 P r;have w:=Zd D;have U:=Zd E;have p:=Zd<|(d.aC u).aC F;have Y:=Zs (c.heap.size+1+1<=l.heap.size) ((d.aC u).2.1.lt);go_upto_region 5 with(first|refine sA P w (by rw[r.out,ak]) (by rw[ak];exact dS) ?_);generalize b_ _ l.heap.size P=W3 at *
 have q:=Zd<|p.fin (au 101) false (ak 101);have y:=Zd<|n _ q.2;go_wp2_with (first|refine sV 0 (aP (au 101) false) p.2.1 (by rw[m.out];omega) (by rw[m.out];exact aK) C ?_);have M:=qG q.1 (by rw[m.out];exact aK);refine QB (v:=.tuple #[.agg (aP (au 101) false).toArray,N,I T]) ?_ rfl y;simp[results,results92,asAddr,Act.put,M]
def OG (c:W)(pl:CPy 125 c)(pu:∀(l:V) (a:List Int) d,c.grownBy d none->jI d l a->yP a->a.length<=140737488351232->Calls prog 127 #[l] d (AZ d a))(l:V)(a:List Int)(hv:jI c l a)(hb:yP a)(aa:a.length<=140737488351232)(b:List Int)(f:Bool)(j:b.length=101)(ad:iI b)(i:bJ b=true)(k:xV a=0):Calls prog 92 #[bL b f,l] c (fu c (mV b a) (r_ b a) (nP b a) (kM b a)):=by
 have B:=Zd<|kT.new c b f;have s:=Zd λd=>gM b f j d;rw[i]at s;have w:=Zd λd (q:c.grownBy d none)=>pu l a d q (jy hv q) hb aa;unfold AZ at w;have v:=Zd<|Gg a;have u:=Zd λd (q:c.grownBy d none)=>pl b f j i (oJ a) (Gg a) (Aj a k) d q;have y:=Zd (show ∀d e,fO c.heap.size e d (qK b (oJ a))->c.grownBy e none->fu c (mV b a) (r_ b a) (nP b a) (kM b a) (.returned (.tuple #[bL (lH b (oJ a)) (mU (oJ a)),d,I 0])) e from λd e e g=>
  ⟨d,by rw[(qp i k).1,(qp i k).2.1,(qp i k).2.2.2],by rw[(qp i k).2.2.1];exact e,g⟩)
 have m:=Zd<|uD (oJ a) j;rw[k]at w;have Q:=Zd j;have r:=Zd<|aJ j f;have x:=Zd<|bU.all f j;have ZL:=Zd<|aJ (ak 101) false;have hz:=dM;have ae:=Rs;generalize fu c (mV b a) (r_ b a) (nP b a) (kM b a)=ac at *
 unfold Gc at u;unfold bL at hz y s u ⊢;generalize oJ a=P at *
 go_enter func92,ntmps92;go_upto_region 1 with fail;generalize (c.alloc (.cells (aP b f).toArray 53)).alloc (.cells (aP (au 101) false).toArray 53)=X at *
 go_wp2_with (refine lV 0 B.1 aK (by rw[r.out];omega) x ?_);refine(s X).mono ?_;rintro G Y ⟨rfl,g1⟩;have t:=Zd<|B.aC g1;go_wp2_with fail;refine(w Y t.2.2).mono ?_;rintro G p ⟨rfl,H⟩;have⟨b1,b2,b3⟩:=dG p 79 25 P v;have K:=Zd b1;have M:=Zd b2;have n:=Zd<|(t.aC H).aC b3;have N2:=Zs (c.heap.size+1+1<=p.heap.size) ((t.aC H).2.1.lt);go_upto_region 4 with(first|refine sA P K (by rw[v.out,ak]) (by rw[ak];exact dS) ?_);generalize b_ _ p.heap.size P=F at *
 generalize p.heap.size=bp at *
 go_wp2_with (first|refine lV 0 n.1 aK (by rw[r.out];omega) x ?_|refine lA M (by rw[v.out];exact dS) ?_);refine(u F n.2.2).mono ?_;rintro G Z ⟨v4,rfl,o4,g4⟩;(try unfold bL);generalize lH b P=e at *
 generalize mU P=d at *
 generalize qK b P=L at *
 have C:=Zd<|n.aC g4;have R:=Zd<|o4.base (b':=c.heap.size+1+1) (show c.heap.size+1+1<=F.heap.size from n.2.1.lt);have D:=C.anC (m:=e) (t:=d) Q m;have o:=Zd D.1;have T:=Zd<|R.bH D.2 gO;have z:=Zd<|bO e d;have g:=Zd<|aJ m d;go_upto_region 7 with(first|refine sV 0 (aP e d) C.1 (by rw[g.out,r.out];omega) (by rw[g.out];exact aK) z ?_);generalize dz Z c.heap.size 0 (aP e d)=W5 at *
 have J:=Zd<|bU.all d m;have E:=Zd<|o.fin e d m;have U:=Zd<|T.bH (o.2.1.dQ (m:=e) (t:=d) (ak 101) m).2 gO;have O:=Zd<|y _ _ (U.base (b':=c.heap.size) gO) E.2;go_wp2_with (first|refine lV 0 o.1 aK (by rw[g.out];omega) J ?_|refine sV 0 (aP e d) o.2.1 (by rw[ZL.out,g.out];omega) (by rw[g.out];exact aK) z ?_);have ab:=qG E.1 (by rw[g.out];exact aK);refine QB (v:=.tuple #[.agg (aP e d).toArray,_,I 0]) ?_ rfl O;simp[results,results92,asAddr,Act.put,ab]
def YK {W:World}(d:TabA W 4 widq 8):vS W:=λa b=>by
 have c:∀a:Fin 8,widq.getD a.val 0=(wid a.val:Int):=by decide
 rw[d a b];exact congrArg (λd=>some (Value.int .i64 d)) (c ⟨a,b⟩)
def Rw {W:World}(a:TabA W 5 gro 15):uM W:=a
def Vb (a:W):Calls prog 37 #[] a (jB a (gu q9 false)):=by
 have l:=Zd<|h_.new a (au 225) false;have n:=Zd<|aj a (.cells (bV (au 225) false).toArray 55) none;have d:=Zd λb=>yj b;have e:=Zd<|bK zC false;have p:=Zd<|bK (ak 225) false;have o:=Zd<|gG q9 false;have r:=jJ;have f:=Zs (∀b,a.grownBy b none->jB a (gu q9 false) (.returned (gu q9 false)) b) (λb b=>⟨rfl,b⟩);generalize jB a (gu q9 false)=t at *
 have c:=Zd λj rest i g a b=>@xg j rest i g a b;unfold jB at d;unfold bL at c d;unfold gu at r f c;go_enter func37,ntmps37;go_upto_region 1 with fail;generalize a.alloc (.cells (bV (au 225) false).toArray 55)=u at *
 go_wp2_with fail;refine(d _).mono ?_;rintro w v ⟨rfl,k⟩;have b:=Zd<|l.aC k;have j:=b.dQ (m:=q9) (t:=false) (ak 225) zC;have i:=Zd j.1;have m:=Zd<|f _ (aG (ay n k) j.2 (Q6 _));unfold h_ at b i;generalize aP iY false=s at *
 generalize bV q9 false=g at *
 go_wp2_with (first|refine c _ _ _ _ _ _ rfl _ rfl rfl ?_|refine sV 0 g b (by rw[p.out,e.out];omega) (by rw[e.out];exact dN) o ?_);have q:=qG i (by rw[e.out];exact dN);refine QB (v:=.agg g.toArray) ?_ rfl m;simp[results,results37,asAddr,Act.put,q]
def amx (W:World):Yw 37 W:=λa b=>Vb a
def akJ (a:Int)(b:-9223372036854775808<=a)(c:a<=9223372036854775807):(0<=wrap64 (a-20)/\wrap64 (a-20)<=59)↔(20<=a/\a<=79):=by simp only[wrap64];omega
def xH (a b:Int)(d:0<=a/\a<=b)(c:W):Calls prog 42 #[I a,I b] c λa b=>a=.returned (.bool true)/\b=c:=by have⟨e,f⟩:=d;go_enter func42,ntmps42;go_wp2;go_ret;exact⟨rfl,rfl⟩
def zP (a b:Int)(d:¬(0<=a/\a<=b))(c:W):Calls prog 42 #[I a,I b] c λd e=>d=.returned (.bool false)/\e=c:=by
 by_cases e:0<=a
 .have f:¬a<=b:=gO;go_enter func42,ntmps42;go_wp2;go_ret;exact⟨rfl,rfl⟩
 go_enter func42,ntmps42;go_wp2;go_ret;exact⟨rfl,rfl⟩
def fH (a:L)(m:Bool)(P:a.length=101)(M:iI a)(d:W):Calls prog 20 #[bL a m] d (jB d (.bool (bJ a))):=by
 have k:=Zd<|bU.new d a m;have f:=Zd<|aj d (.cells (aP a m).toArray 53) none;have i:=Zd P;have y:=Zd M;have j:=Zd<|oU a;have B:=Zd<|Aa a;obtain⟨n,w⟩:∃n:Ending->W->Prop,jB d (.bool (bJ a))=n:=⟨_,rfl⟩;rw[w];have g:=Zd λ(l:¬bJ a=true) b (v:d.grownBy b none)=>(show n (.returned (.bool false)) b from by rw[<-w];exact⟨by rw[show bJ a=false by simpa using l],v⟩);have G:=Zd λ(l:bJ a=true) b (v:d.grownBy b none)=>(show n (.returned (.bool true)) b from by rw[<-w];exact⟨by rw[l],v⟩);unfold bL;have K:=Zd λ(b:Nat) (Q:b<8) (R:W)=>gF (T:=50) (bM a 0 8) underlying50 b (by rw[aT];omega) (aT _ _ _) R;generalize O:aP a m=o at *
 have u:=Zd O;go_enter func20,ntmps20;go_upto_region 1 with fail;generalize d.alloc (.cells o.toArray 53)=C at *
 have P8:=Zs ((o.drop 0).take 8=aQ (bM a 0 8)) (by rw[<-u.out];exact bU.part m 0 8 (by rw[i.out];omega));have F:=Zs (o.length=102) (by rw[<-u.out];exact aJ i m);have E:=Zs (aW C d.heap.size 53 o) (by rw[<-u.out];exact k);go_wp2_with (refine lV 0 E dX (by rw[F.out];omega) P8 ?_);rw[show Value.agg (aQ (bM a 0 8)).toArray=.agg (aF (bM a 0 8))from rfl];generalize Value.agg (aF (bM a 0 8))=AV at *
 go_loopw [8] (λd wr=>∃b:Nat,d=I (b:Int)/\b<=8/\Hid (∀c,c<b->-31000<=aB a c/\aB a c<=31000)/\wr=C) (λd _=>8-(intOf d).toNat)
 case atStart=>exact⟨0,rfl,QN _,λc e=>gO,rfl⟩
 case round=>
  obtain⟨b,rfl,Q,D,rfl⟩:=hrel;by_cases x:b<8
  .have J:(b:Int)<8:=gO;have t:=K b x;rw[fV _ _ _ _ x,WT]at t;have p:=Zd λ(l:¬(-31000<=aB a b/\aB a b<=31000))=>(show ¬bJ a=true from λd=>l ((B.1 (j.1 d).1) b x));have s:=Zd (λ(l:-31000<=aB a b/\aB a b<=31000)=>(show ∀c,c<b+1->-31000<=aB a c/\aB a c<=31000 from λc e=>by
    by_cases e:c=b
    .subst e;exact l
    exact D c gO))
   generalize aB a b=q at *
   by_cases z:31000<q
   .have c:=Zd<|g (p gO) _ f;go_wp2_with fail;exact c
   by_cases H:q < -31000
   .have c:=Zd<|g (p gO) _ f;go_wp2_with fail;exact c
   have r:=Zd<|s gO;go_wp2;go_roundw
   case rel=>exact⟨b+1,by go_num,gO,r,trivial⟩
   case measure=>first|(simp[intOf];done)|(simp[intOf];omega)
  obtain rfl:b=8:=gO;rw[show((8:Nat):Int)=8 from rfl];have RB:=Zd<|B.2 D;have ad:=k.cell 98 (by rw[i.out];omega);have aa:=k.cell 100 (by rw[i.out];omega);have ab:=k.cell 96 (by rw[i.out];omega);have ac:=k.cell 97 (by rw[i.out];omega);have ae:=k.cell 99 (by rw[i.out];omega);have J:=Zd<|k.ints 8 8 8 (by rw[i.out];omega) gO;have H:=Zd<|k.ints 16 80 80 (by rw[i.out];omega) gO;have z:=Zd<|akJ (aB a 98) (y 98).1 (y 98).2;go_wp2_with fail;refine(cO _ (bM a 8 8) _ J (by rw[aT];omega)).mono ?_;rintro e w0 ⟨rfl,rfl⟩;rcases hb0:aL (bM a 8 8)with _|_
  .have c:=Zd<|g (λd=>by have:=(j.1 d).2.1;rw[hb0]at this;cases this) _ f;go_wp2_with fail;exact c
  go_wp2_with fail;refine(cO _ (bM a 16 80) _ H (by rw[aT];omega)).mono ?_;rintro e w1 ⟨rfl,rfl⟩;rcases hb1:aL (bM a 16 80)with _|_
  .have c:=Zd<|g (λd=>by have:=(j.1 d).2.2.1;rw[hb1]at this;cases this) _ f;go_wp2_with fail;exact c
  go_wp2_with fail;by_cases p:0<=wrap64 (aB a 98-20)/\wrap64 (aB a 98-20)<=59
  rotate_left
  .refine(zP _ _ p _).mono ?_;rintro e T ⟨rfl,rfl⟩;have c:=Zd<|g (λd=>p (z.2 (j.1 d).2.2.2.2.2.1)) _ f;go_wp2_with fail;exact c
  refine(xH _ _ p _).mono ?_;rintro e T ⟨rfl,rfl⟩;go_wp2_with fail;by_cases q:0<=aB a 100/\aB a 100<=65535
  rotate_left
  .refine(zP _ _ q _).mono ?_;rintro e U ⟨rfl,rfl⟩;have c:=Zd<|g (λd=>q (j.1 d).2.2.2.2.2.2.2) _ f;go_wp2_with fail;exact c
  refine(xH _ _ q _).mono ?_;rintro e U ⟨rfl,rfl⟩;go_wp2_with fail;by_cases r:0<=aB a 96/\aB a 96<=32767
  rotate_left
  .refine(zP _ _ r _).mono ?_;rintro e X ⟨rfl,rfl⟩;have c:=Zd<|g (λd=>r (j.1 d).2.2.2.1) _ f;go_wp2_with fail;exact c
  refine(xH _ _ r _).mono ?_;rintro e X ⟨rfl,rfl⟩;go_wp2_with fail;by_cases s:0<=aB a 97/\aB a 97<=18022
  rotate_left
  .refine(zP _ _ s _).mono ?_;rintro e Y ⟨rfl,rfl⟩;have c:=Zd<|g (λd=>s (j.1 d).2.2.2.2.1) _ f;go_wp2_with fail;exact c
  refine(xH _ _ s _).mono ?_;rintro e Y ⟨rfl,rfl⟩;go_wp2_with fail;by_cases t:0<=aB a 99/\aB a 99<=6
  rotate_left
  .refine(zP _ _ t _).mono ?_;rintro e Z ⟨rfl,rfl⟩;have c:=Zd<|g (λd=>t (j.1 d).2.2.2.2.2.2.1) _ f;go_wp2_with fail;exact c
  refine(xH _ _ t _).mono ?_;rintro e Z ⟨rfl,rfl⟩;have c:=Zd<|G (j.2 ⟨RB,hb0,hb1,r,s,z.1 p,t,q⟩) _ f;go_wp2_with fail;exact c
def Jb (a:W):Sem.run prog (Instr.build 53 #[(5,I 20),(7,I 21845)]) a=.ok (bL iY false) a:=by kernel_rfl
def Cq {f:Array Oper}{rest:List Oper}{c:Oper}{a:Act}{g:W}{e:Exit->Act->W->Prop}(i:c.guard=none)(b d:Operand)(j:c.op=.build 53 #[(5,b),(7,d)])(k:a.eval b=I 20)(l:a.eval d=I 21845)
 (m:wpList prog f e rest (a.put c.dst (bL iY false)) g):wpList prog f e (c::rest) a g:=by
 refine wpList_plain i λ_ c=>?_;unfold Oper.wp execOp;have h:(#[(5,b),(7,d)]:Array (Nat×Operand)).map (λ(d,b)=>(d,a.eval b))=#[(5,I 20),(7,I 21845)]:=by simp[k,l]
 simp only[j,h,Sem.run_bind,Jb,Result.andThen_ok,Sem.run_pure];exact c _ _ m
def qF (a:W):Calls prog 14 #[] a (jB a (bL iY false)):=by
 have b:=Zd<|bU.new a (au 101) false;have i:=b.dQ (m:=iY) (t:=false) (ak 101) j5;have g:=Zd i.1;have k:=Zd<|aG (aj a (.cells (aP (au 101) false).toArray 53) none) i.2 (Q6 _);have c:=Zs ((aP iY false).length=102) (aJ j5 false);have l:=Zs ((aP (au 101) false).length=102) (aJ (ak 101) false);have j:=Zd<|bO iY false;have n:=dM;have e:=Zs (jB a (bL iY false) (.returned (bL iY false)) (dz (a.alloc (.cells (aP (au 101) false).toArray 53)) a.heap.size 0 (aP iY false))) (⟨rfl,k⟩);generalize jB a (bL iY false)=o at *
 have d:=Zd λm rest k i a f=>@Cq m rest k i a f;unfold bL at n e d;unfold bU at b g;generalize aP (au 101) false=p at *
 generalize aP iY false=f at *
 go_enter func14,ntmps14;go_wp2_with (first|refine d _ _ _ _ _ _ rfl _ _ rfl rfl rfl ?_|refine sV 0 f b (by rw[l.out,c.out];omega) (by rw[c.out];exact aK) j ?_);have m:=qG g (by rw[c.out];exact aK);refine QB (v:=.agg f.toArray) ?_ rfl e;simp[results,results14,asAddr,Act.put,m]
def aix (c a:W)(b f g h:Int)(d:L)(e:Nat):Prop:=
 a.heap[c.heap.size]?=some (.cells #[I b,I f,I g,I h] 48 (0,0))/\
 a.heap[c.heap.size+1]?=some (.cells #[I 0,I 0,I 0,I 0] 48 (0,0))/\
 (∀b,b<d.length->a.cell? (A e b)=some (I (aB d b)))/\c.grownBy a none
def aiy {a b c:Int}
 (k:((w.alloc (.cells #[I i,I a,I b,I c] 48)).alloc (.cells #[I 0,I 0,I 0,I 0] 48)).heap[w.heap.size]?=some (.cells #[I i,I a,I b,I c] 48 (0,0)))
 (t:w'.ownsRow (w.heap.size+1+1) 3 1 x (2+l.length) ([I a,I i]++l.map (Value.int .i64)))
 (g:(((w.alloc (.cells #[I i,I a,I b,I c] 48)).alloc (.cells #[I 0,I 0,I 0,I 0] 48)).alloc (.cells #[I a,I i] 3)).grownBy w' (some (w.heap.size+1+1))) :
 ∃d e,x=.slice (S d) (2+l.length) e/\(2+l.length<=e/\d<w'.heap.size)/\aix w w' i a b c ([a,i]++l) d:=by
 have⟨u,f⟩:=t;rcases f with⟨f,q⟩|⟨d,e,o,f,q,m,r,v,y,s⟩
 .omega
 refine⟨d,e,f,⟨r,aO m⟩,?_,?_,λd e=>?_,?_⟩
 .have h:=aj ((w.alloc (.cells #[I i,I a,I b,I c] 48)).alloc (.cells #[I 0,I 0,I 0,I 0] 48)) (.cells #[I a,I i] 3) none;rw[g.block _ (by simp;omega) (by simp;omega),h.block _ (aO k) (by simp)];exact k
 .have j:=dF (w.alloc (.cells #[I i,I a,I b,I c] 48)) (.cells #[I 0,I 0,I 0,I 0] 48);rw[show(w.alloc (.cells #[I i,I a,I b,I c] 48)).heap.size=w.heap.size+1 by simp]at j;have h:=aj ((w.alloc (.cells #[I i,I a,I b,I c] 48)).alloc (.cells #[I 0,I 0,I 0,I 0] 48)) (.cells #[I a,I i] 3) none;rw[g.block _ (by simp) (by simp),h.block _ (aO j) (by simp)];exact j
 .have j:(o.toList.take ((2+l.length)*1))[d]?=([I a,I i]++l.map (Value.int .i64))[d]?:=by rw[s]
  have z:d<2+l.length:=by simp at e;omega
  rw[KC,pO,Array.getElem?_toList]at j;rw[aI m,j];have p:([Value.int .i64 a,I i]++l.map (Value.int .i64))=([a,i]++l).map (Value.int .i64):=by simp
  rw[p,List.getElem?_map];have n:d<([a,i]++l).length:=e;rw[KM n];simp only[Option.map_some,aB,List.getD,KM n,Option.getD_some]
 exact aG (ay (ay (aj _ _ none) (aj _ _ none)) (aj _ _ none)) g gO
def HiC (j b:W)(k l d e:Int)(c:L)(h f a i g:Nat):Prop:=
 aix j b k l d e c h/\b.ownsRow f 3 1 (.slice (S i) (a+2) g) (a+2) ((lC c [e,d] a).map (Value.int .i64))
def Y4 {e b c:Int}(a:aix w w' i e b c l n)(f:n<w'.heap.size):HiC w (w'.alloc (.cells #[I c,I b] 3)) i e b c l n w'.heap.size 0 w'.heap.size 2:=by have d:=aj w' (.cells #[I c,I b] 3) none;refine⟨⟨by rw[d.block _ (aO a.1) (by simp)];exact a.1,by rw[d.block _ (aO a.2.1) (by simp)];exact a.2.1,λf e=>aU d (a.2.2.1 f e),ay a.2.2.2 d⟩,World.ownsRow_lit w' #[I c,I b] 2 (Q6 _) (by decide) rfl⟩
def uO {m c d:Int}{e:Nat}(f:HiC w w' i m c d l n b k j e)(a:Nat)(g:a<k+2):w'.cell? (A j a)=some (I (aB (lC l [d,c] k) a)):=by have:=World.ownsRow.cellAt f.2 a gO;have h:=uV l c d k;rw[this,List.getElem?_map];simp[aB,List.getD,h,g]
def adT {e f g:Int}{d:Nat}(a:HiC w w' i e f g l n b k j d)(c:w'.grownBy u none):HiC w u i e f g l n b k j d:=
 ⟨⟨by rw[c.block _ (aO a.1.1) (by simp)];exact a.1.1,by rw[c.block _ (aO a.1.2.1) (by simp)];exact a.1.2.1,λe d=>aU c (a.1.2.2.1 e d),ay a.1.2.2.2 c⟩,a.2.kept c (.inr (by simp[Value.ownBlock]))⟩
def akK {r a c:Int}{y:Nat}{d s:Int}(f:HiC w w' i r a c l n b k j y)(H:w.heap.size+1<b)(C:n<b)(B:lC l [c,a] (k+1)=lC l [c,a] k++[s])(D:s=d)
 (m:u.ownsRow b 3 1 x (k+2+1) ((lC l [c,a] k).map (Value.int .i64)++[I d])) (o:(w'.alloc (.cells #[I d] 3)).grownBy u (some j)) :
 ∃h g,x=.slice (S h) (k+1+2) g/\k+1+2<=g/\HiC w u i r a c l n b (k+1) h g:=by
 have G:=(f.2.lt j rfl).1;have p:=aj w' (.cells #[I d] 3) none;have z:(lC l [c,a] k).map (Value.int .i64)++[I d]=(lC l [c,a] (k+1)).map (Value.int .i64):=by rw[B,D];simp
 rw[z]at m;have v:∀e q,e.block<b->w'.cell? e=some q->u.cell? e=some q:=λe q q s=>by
  have q:=aU p s;have t:e.block<w'.heap.size:=by have:=(f.2.lt j rfl).2;omega
  rw[World.cell?_of_block (w:=w'.alloc (.cells #[I d] 3)) (o.block e.block (by simp;omega) (by simp;omega))];exact q
 have q:∀d e,d<b->w'.heap[d]?=some e->u.heap[d]?=some e:=λd e s e=>by
  rw[o.block d (by have:=aO e;simp;omega) (by simp;omega),p.block d (aO e) (by simp)];exact e
 have t:aix w u i r a c l n:=⟨q _ _ gO f.1.1,q _ _ gO f.1.2.1,λc a=>v _ _ C (f.1.2.2.1 c a),aG (ay f.1.2.2.2 p) o gO⟩;have⟨J,e⟩:=id m;rcases e with⟨e,E⟩|⟨h,g,F,e,E,K,M,O,P,Q⟩
 .omega
 subst e;refine⟨h,g,by rw[show k+2+1=k+1+2 by omega],gO,t,?_⟩;rw[show k+2+1=k+1+2 by omega]at m;exact m
def Mv (i:W)(b c d e:Int)(a:L)(h:Ending)(g:W):Prop:=
 ∃f,h=.returned (.tuple #[f,.agg #[I (aB ([c,b]++a) (a.length+1)),I (aB ([c,b]++a) a.length),I (aB (lC ([c,b]++a) [e,d] a.length) (a.length+1)),I (aB (lC ([c,b]++a) [e,d] a.length) a.length)],I 0])/\
  aY g f ((lC ([c,b]++a) [e,d] a.length).drop 2)/\i.grownBy g none
def Y5 {J h m:Int}{g:Nat}(o:HiC w w' i J h m l n b k j g)(P:w.heap.size+1<b)(c d e f:Int)(W:World)
 (u:W=((((w'.setCell (A (w.heap.size+1) 0) (I c)).setCell (A (w.heap.size+1) 1) (I d)).setCell (A (w.heap.size+1) 2) (I e)).setCell (A (w.heap.size+1) 3) (I f)).drew) :
 W.cell? (A (w.heap.size+1) 0)=some (I c)/\W.cell? (A (w.heap.size+1) 1)=some (I d)/\W.cell? (A (w.heap.size+1) 2)=some (I e)/\W.cell? (A (w.heap.size+1) 3)=some (I f)/\w.grownBy W none/\
  ∀p q,(p=0/\g=2)\/(p=2/\q=g-2)->aY W (.slice (some (A j p)) k (g-2)) ((lC l [m,h] k).drop 2):=by
 have D:=o.2.lt j rfl;have F:=heap_setCell (k:=0) o.1.2.1 (I c);have G:=heap_setCell (k:=1) F (I d);have H:=heap_setCell (k:=2) G (I e);have v:=heap_setCell (k:=3) H (I f);have y:=aD w' (A (w.heap.size+1) 0) (I c);have z:=aD (w'.setCell (A (w.heap.size+1) 0) (I c)) (A (w.heap.size+1) 1) (I d);have B:=aD ((w'.setCell (A (w.heap.size+1) 0) (I c)).setCell (A (w.heap.size+1) 1) (I d)) (A (w.heap.size+1) 2) (I e);have C:=aD (((w'.setCell (A (w.heap.size+1) 0) (I c)).setCell (A (w.heap.size+1) 1) (I d)).setCell (A (w.heap.size+1) 2) (I e)) (A (w.heap.size+1) 3) (I f);have x:((((#[Value.int .i64 0,I 0,I 0,I 0].setIfInBounds 0 (I c)).setIfInBounds 1 (I d)).setIfInBounds 2 (I e)).setIfInBounds 3 (I f))=#[I c,I d,I e,I f]:=rfl;rw[x]at v;have r:W.heap[w.heap.size+1]?=some (.cells #[I c,I d,I e,I f] 48 (0,0)):=by rw[u];exact v
 have t:w'.grownBy W (some (w.heap.size+1)):=by
  rw[u];exact bB (bT (bT (bT y z _ (λc a _=>a) (λc a _=>a)) B _ (λc a _=>a) (λc a _=>a)) C _ (λc a _=>a) (λc a _=>a))
 have O:k+2<=g:=by
  rcases o.2.2 with⟨a,_⟩|⟨M,E,K,a,_,_,s,_⟩
  .cases a
  cases a;exact s
 have E:=uV l h m k;refine⟨(aI r 0),(aI r 1),(aI r 2),(aI r 3),aG o.1.2.2.2 t gO,λp q d=>?_⟩;have s:((lC l [m,h] k).drop 2).length=k:=by rw[DN,E];omega
 refine⟨some (A j p),g-2,by rw[s],by rw[s];omega,λe=>⟨_,rfl,λc a=>?_⟩⟩;rw[s]at a e;rcases d with⟨rfl,rfl⟩|⟨rfl,rfl⟩
 .omega
 have p:((A j 2):Addr).add c=(A j (2+c)):=by unfold Addr.add;split<;>simp_all
 have q:=uO o (2+c) gO;rw[p,World.cell?_of_block (w:=w') (t.block j D.2 (by simp;omega)),q];have:aB ((lC l [m,h] k).drop 2) c=aB (lC l [m,h] k) (2+c):=by simp[aB,List.getD]
 rw[this]
def Vg (i j e f:Int)(F:Value)(b:L)(g:World)(ag:∃B aC Q,F=.slice (some B) aC Q)(k:aY g F b)(hl:b.length*8<=140737488351232)(hr:aL b=true)(hx:aL [i,j]=true)(hy:aL [e,f]=true):Calls prog 21 #[.agg #[.int .i64 i,.int .i64 j,.int .i64 e,.int .i64 f],F] g (Mv g i j e f b):=by
 have HI:=Zd k;have RB:=Zd<|cO F b;rw[hr]at RB;obtain⟨ad,Q,rfl,hc,ac⟩:=k;obtain⟨i0,hi,am,an,ao⟩:=info_parts nY;rcases ad with _|B
 .obtain⟨_,_,_,l⟩:=ag;cases l
 clear ag;have ah:Hid (∀m,g.grownBy m none->∀o p,(b.map (Value.int .i64))[o]?=some p->m.cell? (B.add o)=some p):=by
  intro m aw o p k;have D:o<b.length:=by
   by_cases D:o<b.length
   .exact D
   rw[U8 (by simp;omega)]at k;cases k
  obtain⟨a',l,hv⟩:=ac gO;cases l;rw[aU aw (hv o D)];simpa [aB,List.getD,D] using k
 have al:Hid (∀p∈b.map (Value.int .i64),p.oneCell'=true):=by
  intro p E;obtain⟨a6,_,rfl⟩:=List.mem_map.1 E;rfl
 clear ac;go_enter func21,ntmps21;go_wp2_with fail;refine(RB.out _ (aR HI.out (ay (aj _ _ none) (aj _ _ none))) gO).mono ?_;rintro l w1 ⟨rfl,rfl⟩;have C:((g.alloc (.cells #[.int .i64 i,.int .i64 j,.int .i64 e,.int .i64 f] 48)).alloc (.cells #[.int .i64 0,.int .i64 0,.int .i64 0,.int .i64 0] 48)).heap[g.heap.size]?=some (.cells #[.int .i64 i,.int .i64 j,.int .i64 e,.int .i64 f] 48 (0,0)):=mo (aj _ _ none);have M:=Zd<|cO (.slice (some ⟨g.heap.size,0,none⟩) 2 2) [i,j] _ (iG C 0 i j rfl rfl) (by simp);have O:=Zd<|cO (.slice (some ⟨g.heap.size,2,none⟩) 2 2) [e,f] _ (iG C 2 e f rfl rfl) (by simp);rw[hx]at M;rw[hy]at O;go_wp2_with fail;refine M.out.mono ?_;rintro l w1 ⟨rfl,rfl⟩;go_wp2_with fail;refine O.out.mono ?_;rintro l w1 ⟨rfl,rfl⟩;clear M O RB;go_wp2_with (at_builtin;refine wpList_append_own _ rfl _ _ 26 rfl (g.heap.size+1+1) 3 i0 (.int .i64 0) 1 8 underlying26 hi am an ao rfl (by decide) _ 2 [.int .i64 j,.int .i64 i] rfl ?c0 B b.length Q (b.map (Value.int .i64)) rfl ?c1 ?c4 al.out ?c2 ?c3 ?c5 ?_)
 case c1=>simp
 case c2=>unfold maxLen;omega
 case c3=>omega
 case c5=>simp
 case c4=>exact ah.out _ (ay (ay (aj _ _ none) (aj _ _ none)) (aj _ _ none))
 case c0=>exact⟨rfl,.inr ⟨g.heap.size+1+1,2,#[.int .i64 j,.int .i64 i],rfl,by simp,by simpa using dF (((g.alloc _).alloc _)) _,Q6 _,by decide,rfl,rfl⟩⟩
 intro Y w ai g2 _;have ab:=Zd<|aiy C ai g2;clear ai g2 C al ah;obtain⟨gx,cx,rfl,T,v⟩:=ab.out;have az:=aI v.1 2;have aA:=aI v.1 3;clear ab;have z:=Zd<|JL i j b hx hr;have P:=Zd<|ze ([j,i]++b) e f hy;have HC:=Zd<|Y4 v T.2;have av:gx<w.heap.size:=T.2;have ae:g.heap.size+1<w.heap.size:=aO v.2.1;clear T;go_wp2_with fail;clear v az aA;generalize U:[j,i]++b=d at *
 have aq:=Zd U;have a4:d.length=2+b.length:=by rw[<-U];simp;omega
 clear U;go_loopw [8,46] (λaE X wr=>∃(a u n:Nat),X=.int .i64 a/\aE=.slice (some ⟨u,0,none⟩) (a+2) n/\a<=b.length/\a+2<=n/\Hid (HiC g wr i j e f d gx w.heap.size a u n)) (λ_ X _=>b.length-(intOf X).toNat)
 case atStart=>exact⟨0,w.heap.size,2,rfl,rfl,QN _,gO,HC.out⟩
 case round=>
  obtain⟨a,u,n,rfl,rfl,hk,a0,c⟩:=hrel;clear HC;by_cases a3:a<b.length
  .have ca:=c.out.1.2.2.1 (a+2) gO;have cb:=c.out.1.2.2.1 (a+1) gO;have cc:=c.out.1.2.2.1 a gO;have da:=uO c.out (a+1) gO;have db:=uO c.out a gO;obtain⟨a1,a2⟩:=z.out (a+2);obtain⟨b1,b2⟩:=z.out (a+1);obtain⟨c1,c2⟩:=z.out a;obtain⟨d1,d2⟩:=P.out a (a+1);obtain⟨e1,e2⟩:=P.out a a;have ES:=Zs (lC d [f,e] (a+1)=lC d [f,e] a++[zQ (aB d (a+2)) (aB d (a+1)) (aB d a) (aB (lC d [f,e] a) (a+1)) (aB (lC d [f,e] a) a)]) (rfl);generalize aB d (a+2)=q at *
   generalize aB d (a+1)=r at *
   generalize aB d a=ap at *
   generalize aB (lC d [f,e] a) (a+1)=s at *
   generalize aB (lC d [f,e] a) a=t at *
   have a5:(a:Int)+2<2+b.length:=gO;obtain⟨S,R⟩:∃S,S=3798*(q-2*r+ap)+7807*s-3733*t:=⟨_,rfl⟩;have H:=Zd λm=>jr (S+2048) 12 gO gO gO m;rw[show((12:Nat):Int)=12 from rfl,show(2:Int)^12=4096 by decide]at H;have y:=Zd λm=>qA ((S+2048) / 4096) m gO gO;have EH:=Zs (zQ q r ap s t=fA ((S+2048) / 4096)) (by rw[R];rfl);have HS:=Zd R;clear R;generalize hZ:fA ((S+2048) / 4096)=ar at *
   clear hZ;generalize hQ:(S+2048) / 4096=aH at *
   clear hQ;go_wp2_with fail;go_quiet (fail);go_wp2_with fail;rw[<-HS.out];refine(H.out _).mono ?_;rintro l w3 ⟨rfl,g3⟩;have Z:=Zd<|adT c.out (ay (dY _ _ none) g3);clear g3 c;go_wp2_with fail;refine(y.out _).mono ?_;rintro l w4 ⟨rfl,g4⟩;have G:=Zd<|adT Z.out g4;clear g4 Z H y;have K:=Zd G.out.2;go_wp2_with (at_builtin;refine wpList_append_own _ rfl _ _ 26 rfl w.heap.size 3 i0 (.int .i64 0) 1 8 underlying26 hi am an ao rfl (by decide) _ (a+2) ((lC d [f,e] a).map (Value.int .i64)) rfl ?f0 ⟨w4.heap.size,0,none⟩ 1 1 [.int .i64 ar] rfl rfl ?f1 ?f2 ?f3 ?f4 ?f5 ?_)
   case f0=>exact K.out.alloc _
   case f1=>(intro o p k;match o,k with|0,k=>(simp at k;subst k;simp[Addr.add]))
   case f2=>(intro p E;simp at E;subst E;rfl)
   case f3=>(unfold maxLen;omega)
   case f4=>omega
   case f5=>(have:=K.out.lt u rfl;simp;omega)
   intro v5 w5 h5 g5 _;obtain⟨gz,cz,rfl,ax,N5⟩:=akK G.out ae av ES.out EH.out h5 g5;have H5:=Zd N5;clear h5 g5 N5 G K ca cb cc da db;go_wp2_with fail;go_roundw
   case rel=>exact⟨a+1,gz,cz,by go_num,by first|rfl|(simp;omega),gO,ax,H5.out⟩
   case measure=>simp[intOf];omega
  obtain rfl:a=b.length:=gO;have ca:=c.out.1.2.2.1 (b.length+1) gO;have cb:=c.out.1.2.2.1 b.length gO;have da:=uO c.out (b.length+1) gO;have db:=uO c.out b.length gO;have r0:=aI c.out.1.2.1 0;have r1:=aI c.out.1.2.1 1;have r2:=aI c.out.1.2.1 2;have r3:=aI c.out.1.2.1 3;have t0:=bA c.out.1.2.1 0;have t1:=bA c.out.1.2.1 1;have t2:=bA c.out.1.2.1 2;have t3:=bA c.out.1.2.1 3;generalize hp:aB d (b.length+1)=q at *
  generalize hq:aB d b.length=r at *
  generalize hs:aB (lC d [f,e] b.length) (b.length+1)=s at *
  generalize ht:aB (lC d [f,e] b.length) b.length=t at *
  have PP:=Zd hp;have QQ:=Zd hq;have y:=Zd hs;have TT:=Zd ht;clear hp hq hs ht z P;have EN:=Zd<|Y5 c.out ae q r s t _ rfl;obtain⟨o0,o1,o2,o3,aa,x⟩:=EN.out;have GF:=Zd aa;have HT:=Zd (show Mv g i j e f b=λl m=>∃Y,l=.returned (.tuple #[Y,.agg #[.int .i64 q,.int .i64 r,.int .i64 s,.int .i64 t],.int .i64 0])/\aY m Y ((lC d [f,e] b.length).drop 2)/\g.grownBy m none from by
   unfold Mv;rw[aq.out,PP.out,QQ.out,y.out,TT.out])
  clear EN aa c;by_cases af:n=2
  .have J:=Zd<|x 0 (n-2) (.inl ⟨rfl,af⟩);subst af;clear x;go_wp2_with fail;go_region;go_wp2_with fail;refine QB (v:=.tuple #[.slice (some ⟨u,0,none⟩) b.length (2-2),.agg #[.int .i64 q,.int .i64 r,.int .i64 s,.int .i64 t],.int .i64 0]) ?_ rfl ?_
   .simp[results,results21,go_sem,o0,o1,o2,o3];omega
   rw[HT.out];exact⟨_,rfl,J.out,GF.out⟩
  have J:=Zd<|x 2 (n-2) (.inr ⟨rfl,rfl⟩);clear x;go_wp2_with fail;go_region;go_wp2_with fail;refine QB (v:=.tuple #[.slice (some ⟨u,2,none⟩) b.length (n-2),.agg #[.int .i64 q,.int .i64 r,.int .i64 s,.int .i64 t],.int .i64 0]) ?_ rfl ?_
  .simp[results,results21,go_sem,o0,o1,o2,o3]
  rw[HT.out];exact⟨_,rfl,J.out,GF.out⟩
def Y6 (b c d e:Int)(g:V)(f:L)(a:W)(i:aY a g f)(t:f.length*8<=281474976710656)(n:aL f=false):Calls prog 21 #[.agg #[I b,I c,I d,I e],g] a (u_ a):=by
 have k:=Zd i;have RB:=Zd λl j=>cO g f l j gO;obtain⟨o,q,rfl,s,p⟩:=i;have j:((a.alloc (hp b c d e)).alloc (hp 0 0 0 0)).heap[a.heap.size]?=some (hp b c d e):=mo (aj _ _ none);have l:=Zd<|cO (.slice (S a.heap.size) 2 2) [b,c] _ (iG j 0 b c rfl rfl) (by simp);have m:=Zd<|cO (.slice (some (A a.heap.size 2)) 2 2) [d,e] _ (iG j 2 d e rfl rfl) (by simp);rw[n]at RB;simp only[hp]at l m;go_enter func21,ntmps21;go_wp2_with fail;refine(RB _ (aR k (ay (aj _ _ none) (aj _ _ none)))).mono ?_;rintro r u ⟨rfl,rfl⟩;go_wp2;refine QB (v:=.tuple #[N,.agg #[I 0,I 0,I 0,I 0],I 2]) ?_ rfl ?_
 .simp[results,results21,go_sem]
 exact⟨rfl,ay (aj _ _ none) (aj _ _ none)⟩
def Y7 (b c d e:Int)(i:V)(f:L)(a:W)(j:aY a i f)(v:f.length*8<=281474976710656)(o:aL f=true)(p:aL [b,c]=false):Calls prog 21 #[.agg #[I b,I c,I d,I e],i] a (u_ a):=by
 have l:=Zd j;have RB:=Zd λk g=>cO i f k g gO;obtain⟨r,t,rfl,u,s⟩:=j;have k:((a.alloc (hp b c d e)).alloc (hp 0 0 0 0)).heap[a.heap.size]?=some (hp b c d e):=mo (aj _ _ none);have g:=Zd<|cO (.slice (S a.heap.size) 2 2) [b,c] _ (iG k 0 b c rfl rfl) (by simp);have m:=Zd<|cO (.slice (some (A a.heap.size 2)) 2 2) [d,e] _ (iG k 2 d e rfl rfl) (by simp);rw[o]at RB;rw[p]at g;simp only[hp]at g m;go_enter func21,ntmps21;go_wp2_with fail;refine(RB _ (aR l (ay (aj _ _ none) (aj _ _ none)))).mono ?_;rintro n q ⟨rfl,rfl⟩;go_wp2_with fail;refine g.mono ?_;rintro n q ⟨rfl,rfl⟩;go_wp2;refine QB (v:=.tuple #[N,.agg #[I 0,I 0,I 0,I 0],I 2]) ?_ rfl ?_
 .simp[results,results21,go_sem]
 exact⟨rfl,ay (aj _ _ none) (aj _ _ none)⟩
def Y8 (b c d e:Int)(j:V)(f:L)(a:W)(l:aY a j f)(w:f.length*8<=281474976710656)(p:aL f=true)(q:aL [b,c]=true)(r:aL [d,e]=false):Calls prog 21 #[.agg #[I b,I c,I d,I e],j] a (u_ a):=by
 have o:=Zd l;have RB:=Zd λi g=>cO j f i g gO;obtain⟨s,u,rfl,v,t⟩:=l;have m:((a.alloc (hp b c d e)).alloc (hp 0 0 0 0)).heap[a.heap.size]?=some (hp b c d e):=mo (aj _ _ none);have g:=Zd<|cO (.slice (S a.heap.size) 2 2) [b,c] _ (iG m 0 b c rfl rfl) (by simp);have i:=Zd<|cO (.slice (some (A a.heap.size 2)) 2 2) [d,e] _ (iG m 2 d e rfl rfl) (by simp);rw[p]at RB;rw[q]at g;rw[r]at i;simp only[hp]at g i;go_enter func21,ntmps21;go_wp2_with fail;refine(RB _ (aR o (ay (aj _ _ none) (aj _ _ none)))).mono ?_;rintro k n ⟨rfl,rfl⟩;go_wp2_with fail;refine g.mono ?_;rintro k n ⟨rfl,rfl⟩;go_wp2_with fail;refine i.mono ?_;rintro k n ⟨rfl,rfl⟩;go_wp2;refine QB (v:=.tuple #[N,.agg #[I 0,I 0,I 0,I 0],I 2]) ?_ rfl ?_
 .simp[results,results21,go_sem]
 exact⟨rfl,ay (aj _ _ none) (aj _ _ none)⟩
def vY (a b d e:Int)(g:V)(c:L)(f:W)(h:aY f g c)(t:(g=N/\(aL [a,b]=true->aL [d,e]=true->c=[]->Calls prog 21 #[.agg #[I a,I b,I d,I e],N] f (Mv f a b d e [])))\/∃k l,g=.slice (some k) c.length l)(r:c.length*8<=140737488351232):Calls prog 21 #[.agg #[I a,I b,I d,I e],g] f λj n=>∃m,j=.returned (hiT a b d e c m)/\aY n m (Vd a b d e c)/\f.grownBy n none:=by
 rcases hk:P_ a b d e c with _|_
 .have i:Calls prog 21 #[.agg #[I a,I b,I d,I e],g] f (u_ f):=by
   rcases hr:aL c with _|_
   .exact Y6 a b d e g c f h gO hr
   rcases hx:aL [a,b]with _|_
   .exact Y7 a b d e g c f h gO hr hx
   exact Y8 a b d e g c f h gO hr hx (by unfold P_ at hk;rw[hr,hx]at hk;simpa using hk)
  refine i.mono λj n ⟨o,p⟩=>⟨N,?_,?_,p⟩
  .rw[o];simp[hiT,hiM,Xh,hk]
  simp[Vd,hk];exact⟨none,0,rfl,Q6 _,λh=>by simp at h⟩
 have i:=hk;unfold P_ at i;simp only[VL]at i;have q:Calls prog 21 #[.agg #[I a,I b,I d,I e],g] f (Mv f a b d e c):=by
  rcases t with⟨rfl,s⟩|⟨k,l,rfl⟩
  .have⟨u,l,j,_,_⟩:=h;cases e0:c with
   | nil=>exact s i.1.1 i.1.2 e0
   | cons k v=>rw[e0]at j;simp at j
  exact Vg a b d e _ c f ⟨k,_,l,rfl⟩ h r i.2 i.1.1 i.1.2
 refine q.mono λj n ⟨m,o,a,p⟩=>⟨m,?_,?_,p⟩
 .rw[o];simp[hiT,hiM,Xh,hk,hiX,Yv]
 simpa [Vd,hk,Yv,hiX] using a
def nine:Obj:=.cells #[I 0,I 0,I 0,I 0,I 0,I 0,I 0,I 0,I 0] 69
def Eh (a b:W)(c:L):Prop:=
 b.heap[a.heap.size]?=some nine/\b.heap[a.heap.size+1]?=some nine/\b.heap[a.heap.size+1+1]?=some (.cells (aF c) 3 (0,0))/\a.grownBy b none
def Ei (a:List (Option Nat)):Array V:=(a.map λa=>Value.pointer (a.map λa=>(A a 0))).toArray
def zR (b:List (Option Nat))(a:Nat)(c:a<b.length):(Ei b)[a]?=some (.pointer ((b.getD a none).map λa=>(A a 0))):=by simp[Ei,List.getD,c]
def aiC (c:List (Option Nat))(b a:Nat):(Ei c).setIfInBounds b (.pointer (S a))=Ei (c.set b (some a)):=by simp[Ei,List.map_set]
def Mw (e:List (Option Nat))(f:Nat):Prop:=∀d a b c,d<a->a<f->e.getD d none=some b->e.getD a none=some c->b≠c
def Za (d:Nat->Int)(g:W)(f:List (Option Nat))(a c e:Nat):Prop:=∀b,b<a->∃a,f.getD b none=some a/\c<a/\a<e/\kD g a (oM d b)
def zS (a:Eh w w' l)(b:w'.grownBy u none):Eh w u l:=
 ⟨by rw[b.block _ (aO a.1) (by simp)];exact a.1,by rw[b.block _ (aO a.2.1) (by simp)];exact a.2.1,by rw[b.block _ (aO a.2.2.1) (by simp)];exact a.2.2.1,ay a.2.2.2 b⟩
def mem_set (a:Eh w w' l)(c:Nat)(d:Int):Eh w (w'.setCell (A (w.heap.size+1+1) c) (I d)) (l.set c d):=by have b:=aD w' (A (w.heap.size+1+1) c) (I d);refine⟨by rw[b.block _ (aO a.1) (by simp;omega)];exact a.1,by rw[b.block _ (aO a.2.1) (by simp)];exact a.2.1,by rw[heap_setCell a.2.2.1,wD],aG a.2.2.2 b (by simp;omega)⟩
def afz (a:W):kD (a.alloc iW) a.heap.size 0:=⟨_,[],dF _ _,sI _,vM,rA,by rw[nA];rfl,by simp⟩
def RU {j:Array V}(q:kD w n i)(g:w.grownBy w' (some b))(d:w.heap[b]?=some (.cells j T (0,0)))(t:T≠160)(s:n≠b):kD w' n i:=by
 have⟨v,u,f,c,r⟩:=q;refine⟨v,u,by rw[g.block n (aO f) (by simpa using s)];exact f,?_,r⟩;rcases c with c|⟨e,h,k,m,o,a,p⟩
 .exact Or.inl c
 refine Or.inr ⟨e,h,k,m,o,?_,p⟩;rw[g.block e (aO a) ?_]
 .exact a
 intro l;cases l;rw[a]at d;simp at d;exact t d.2.symm
def InC (d:Nat->Int)(i a:W)(h:L)(c:Nat)(f:List (Option Nat))(e b g:Nat):Prop:=
 Eh i a h/\a.heap[c]?=some (.cells (Ei f) 110 (0,0))/\kD a b (gZ d e g)/\Za d a f e c b
def Ct (a:Eh w w' l)(b:w'.grownBy u (some n))(c:w.heap.size+1+1<n):Eh w u l:=
 ⟨by rw[b.block _ (aO a.1) (by simp;omega)];exact a.1,by rw[b.block _ (aO a.2.1) (by simp;omega)];exact a.2.1,by rw[b.block _ (aO a.2.2.1) (by simp;omega)];exact a.2.2.1,aG a.2.2.2 b gO⟩
def acj {W:World}{a:List (Option Nat)}(q:Eh w w' l)(g:w'.heap[W.heap.size]?=some (.cells (Ei a) 110 (0,0)))(r:Za f w' a n W.heap.size w'.heap.size)(o:w.heap.size+1+1<W.heap.size)(t:n<9)(u:a.length=9):InC f w ((w'.setCell (A W.heap.size n) (.pointer (S w'.heap.size))).alloc iW) l W.heap.size (a.set n (some w'.heap.size)) n w'.heap.size 0:=by
 have e:=aD w' (A W.heap.size n) (.pointer (S w'.heap.size));have b:=aj (w'.setCell (A W.heap.size n) (.pointer (S w'.heap.size))) iW none;have p:(w'.setCell (A W.heap.size n) (.pointer (S w'.heap.size))).heap.size=w'.heap.size:=by simp[World.setCell]
 have c:=heap_setCell (k:=n) g (.pointer (S w'.heap.size));rw[aiC]at c;refine⟨zS (Ct q e o) b,by rw[b.block _ (aO c) (by simp)];exact c,?_,?_⟩
 .have:=afz (w'.setCell (A W.heap.size n) (.pointer (S w'.heap.size)));rw[p]at this;exact this
 intro h s;have⟨d,i,j,k,m⟩:=r h s;refine⟨d,by simpa [List.getD,WB,show ¬n=h by omega] using i,j,k,bP (RU m e g (by decide) (show d≠W.heap.size by omega)) b⟩
def aiD {a:List (Option Nat)}(e:Mw a n)(b:Nat):Mw (a.set n (some b)) n:=λa b c d h i f g=>by
 refine e a b c d h i ?_ ?_
 .simpa [List.getD,WB,show ¬n=a by omega] using f
 simpa [List.getD,WB,show ¬n=b by omega] using g
def Zb {d:List (Option Nat)}(h:InC f w w' p n d b k j)(c:KG l 120 p)(o:w.heap.size+1+1<n)(r:d.length=9)(q:b<9)(g:d.getD b none=some k)(a:Nat)(m:a+b<120):w'.cell? (A n b)=some (.pointer (S k))/\w'.cell? (A (w.heap.size+1+1) a)=some (I (wN l a))/\w'.cell? (A (w.heap.size+1+1) (a+b))=some (I (wN l (a+b))):=by
 obtain⟨e,i,-,-⟩:=h;refine⟨?_,?_,?_⟩
 .rw[aI i,zR d b gO,g];rfl
 .rw[aI e.2.2.1,pQ p a (by rw[c.1];omega),c.2 a gO]
 rw[aI e.2.2.1,pQ p (a+b) (by rw[c.1];omega),c.2 (a+b) m]
def akL {d:List (Option Nat)}(a:InC f w w' l n d b k j)(c:w'.grownBy u none):InC f w u l n d b k j:=
 ⟨zS a.1 c,by rw[c.block _ (aO a.2.1) (by simp)];exact a.2.1,bP a.2.2.1 c,λo d=>by
  have⟨e,g,h,i,m⟩:=a.2.2.2 o d;exact⟨e,g,h,i,bP m c⟩⟩
def akM {g:List (Option Nat)}(y:InC (wN l) w w' p n g b k j)(z:KG l 120 p)(e:∀a,-32768<=wN l a/\wN l a<=32768)(u:w.heap.size+1+1<n)(C:g.length=9)(B:b<9)(x:g.getD b none=some k)(F:n<k)(G:j<120-b):∀a f,w'.drew.grownBy a none->kD a f (wN l j*wN l (j+b))->
  (a.cell? (A n b)=some (.pointer (S k))/\a.cell? (A (w.heap.size+1+1) j)=some (I (wN l j))/\a.cell? (A (w.heap.size+1+1) (j+b))=some (I (wN l (j+b))))/\
  Calls prog 47 #[.pointer (S k),.pointer (S k),.pointer (S f)] a (λi m=>i=.returned (.pointer (S k))/\InC (wN l) w m p n g b k (j+1)):=by
 intro a f d D;have v:w'.grownBy a none:=⟨d.os,d.tape,d.output,d.size,d.block⟩;have c:=akL y v;have⟨K,M⟩:=wU (wN l) b e j;have⟨H,J⟩:=Jp _ _ (e j).1 (e j).2 (e (j+b)).1 (e (j+b)).2;refine⟨Zb c z u C B x j gO,?_⟩;have p8:=uH;refine(kP k k f (gZ (wN l) b j) (wN l j*wN l (j+b)) a (dA c.2.2.1) c.2.2.1 D gO gO).mono ?_;rintro i m ⟨rfl,E,h⟩;refine⟨rfl,Ct c.1 h gO,by rw[h.block _ (aO c.2.1) (by simp;omega)];exact c.2.1,E,λd a=>?_⟩;have⟨o,q,r,s,t⟩:=c.2.2.2 d a;exact⟨o,q,r,s,dR t h (dA c.2.2.1) gO⟩
def amz {c:List (Option Nat)}(a:InC f w w' l n c b k (120-b))(v:n<k)(m:c.getD b none=some k)(u:Mw c b):Eh w w' l/\w'.heap[n]?=some (.cells (Ei c) 110 (0,0))/\Za f w' c (b+1) n w'.heap.size/\Mw c (b+1):=by
 refine⟨a.1,a.2.1,λc d=>?_,λq c s t p d o h=>?_⟩
 rotate_left
 .by_cases g:c=b
  .subst g;have⟨i,d,j,r,e⟩:=a.2.2.2 q p;rw[o]at d;rw[m]at h;cases d;cases h;omega
  exact u q c s t p gO o h
 by_cases g:c=b
 .subst g;exact⟨k,m,v,lS a.2.2.1,a.2.2.1⟩
 have⟨i,d,j,r,e⟩:=a.2.2.2 c gO;exact⟨i,d,j,lS e,e⟩
def zT (f:Nat->Int)(b a:W)(h g:L)(e:Nat)(d:List (Option Nat))(c:Nat):Prop:=
 (a.heap[b.heap.size]?=some nine/\a.heap[b.heap.size+1]?=some (.cells (aF g) 69 (0,0))/\a.heap[e]?=some (.cells (Ei d) 110 (0,0))/\b.grownBy a none)/\
 (∀b,c<=b->b<9->∃c,d.getD b none=some c/\e<c/\kD a c (f b))/\Mw d 9
def acn {c:List (Option Nat)}(B:Eh w w' p)(s:w'.heap[n]?=some (.cells (Ei c) 110 (0,0)))(C:Za (wN l) w' c 9 n w'.heap.size)(r:Mw c 9)(z:∀a,-32768<=wN l a/\wN l a<=32768)(K:w.heap.size+1+1<n)(f:c.getD 0 none=some b)(D:n<b)(y:kD w' b (oM (wN l) 0)):∀d g,w'.drew.grownBy d none->kD d g 1->
  d.cell? (A n 0)=some (.pointer (S b))/\
  Calls prog 47 #[.pointer (S b),.pointer (S b),.pointer (S g)] d (λa t=>a=.returned (.pointer (S b))/\zT (eO (wN l)) w t p (List.replicate 9 0) n c 0):=by
 intro d g e G;have h:w'.grownBy d none:=⟨e.os,e.tape,e.output,e.size,e.block⟩;have⟨O,P⟩:=wU (wN l) 0 z 120;have M:oM (wN l) 0=gZ (wN l) 0 120:=rfl;have p8:=uH;have k:d.heap[n]?=some (.cells (Ei c) 110 (0,0)):=by rw[h.block _ (aO s) (by simp)];exact s
 have u:=zS B h;have m:=bP y h;have E:0<c.length:=by
  rcases Nat.eq_zero_or_pos c.length with a|a
  .rw[List.length_eq_zero_iff.1 a]at f;simp at f
  exact a
 refine⟨by rw[aI k,zR c 0 E,f];rfl,?_⟩;refine(kP b b g (oM (wN l) 0) 1 d (dA m) m G gO gO).mono ?_;rintro a t ⟨rfl,H,j⟩;have i:=Ct u j gO;refine⟨rfl,⟨i.1,i.2.1,by rw[j.block _ (aO k) (by simp;omega)];exact k,i.2.2.2⟩,λc _ d=>?_,r⟩;by_cases a:c=0
 .subst a;exact⟨b,f,D,H⟩
 have⟨o,q,v,J,x⟩:=C c d;have F:=r 0 c b o gO d f q;refine⟨o,q,v,?_⟩;unfold eO;rw[X9 a];exact dR (bP x h) j (dA m) (Ne.symm F)
def JC {c:List (Option Nat)}(g:zT f w w' l p n c b)(a:Nat)(i:a<9)(e:c.getD a none=some k):w'.cell? (A n a)=some (.pointer (S k)):=by
 have h:a<c.length:=by
  rcases WZ a c.length with d|d
  .exact d
  rw[List.getD_eq_getElem?_getD,U8 d]at e;simp at e
 rw[aI g.1.2.2.1,zR c a h,e];rfl
def akN {d:List (Option Nat)}(g:zT (eO f) w w' l p n d b)(a:Nat)(j:b<=a)(i:a<9)(h:d.getD a none=some k):kD w' k (eO f a)/\1<=eO f 0:=by have⟨m,c,o,e⟩:=g.2.1 a j i;rw[h]at c;cases c;exact⟨e,Ak⟩
def aco (d:Nat)(c:Int)(b:W)(i:kD b d c)(q:0<=c):Calls prog 50 #[.pointer (S d)] b λe d=>∃a:Nat,a<=1280/\Bits c a/\e=.returned (I a)/\d=b:=by have⟨l,f,s,t,u,m,p,n,o,v⟩:=fG i;have L:=Zd<|Cr l f b m p n gO;rw[show val f=c by rw[o];omega]at L;go_enter func50,ntmps50;go_wp2_with fail;refine L.mono ?_;rintro e r ⟨a,j,k,rfl,rfl⟩;have g:=Zd k;go_wp2_with fail;go_ret;exact⟨a,j,g,rfl,rfl⟩
def Zc {c:List (Option Nat)}(a:zT f w w' l p n c b):zT f w w'.drew l p n c b:=
 ⟨⟨a.1.1,a.1.2.1,a.1.2.2.1,bB a.1.2.2.2⟩,λj c i=>by
  have⟨d,e,g,h⟩:=a.2.1 j c i;exact⟨d,e,g,bP h ⟨rfl,rfl,rfl,Q6 _,λ_ _ _=>rfl⟩⟩,a.2.2⟩
def Ze {d:List (Option Nat)}(a:zT f w w' l p n d b)(s:b<9)(m:d.getD b none=some k)(h:n<k)(q:Struct w' k)(r:w.heap.size+1+1<n)(c:w'.grownBy u (some k)):zT f w u l p n d (b+1):=by refine⟨⟨by rw[c.block _ (aO a.1.1) (by simp;omega)];exact a.1.1,by rw[c.block _ (aO a.1.2.1) (by simp;omega)];exact a.1.2.1,by rw[c.block _ (aO a.1.2.2.1) (by simp;omega)];exact a.1.2.2.1,aG a.1.2.2.2 c gO⟩,λh d d=>?_,a.2.2⟩;have⟨e,g,i,j⟩:=a.2.1 h gO d;have o:=a.2.2 b h k e gO d m g;exact⟨e,g,i,dR j c q (Ne.symm o)⟩
def aiE {c:List (Option Nat)}(q:zT (eO f) w w' l p b c k)(r:k<9)(i:c.getD k none=some j)(g:b<j)(h:kD w' j (eO f k))(m:w.heap.size+1+1<b)(u:n<=1280)(s:31<n):Calls prog 51 #[.pointer (S j),.pointer (S j),.int .u64 ((n-31:Nat):Int)] w'.drew (λe d=>e=.returned (.pointer (S j))/\zT (eO f) w d l p b c (k+1)/\kD d j (QF n (eO f k))):=by have a:kD w'.drew j (eO f k):=bP h ⟨rfl,rfl,rfl,Q6 _,λ_ _ _=>rfl⟩;refine(Uh j j (eO f k) (n-31) gO w'.drew (dA a) a).mono ?_;rintro e d ⟨rfl,t,o⟩;refine⟨rfl,Ze (Zc q) r i g (dA a) m o,?_⟩;unfold QF;rw[Q9 s];exact t
def akO {c:List (Option Nat)}(t:zT (eO f) w w' l p b c k)(h:k<9)(q:c.getD k none=some j)(m:b<j)(o:kD w' j (eO f k))(r:w.heap.size+1+1<b)(x:n<=1280)(u:Bits (eO f 0) n)(i:¬31<n):Calls prog 52 #[.pointer (S j),.pointer (S j),.int .u64 ((31-n:Nat):Int)] w'.drew (λg d=>g=.returned (.pointer (S j))/\zT (eO f) w d l p b c (k+1)/\kD d j (QF n (eO f k))):=by have a:kD w'.drew j (eO f k):=bP o ⟨rfl,rfl,rfl,Q6 _,λ_ _ _=>rfl⟩;have e:=agT u k h;have p8:=uH;unfold QF at e;rw[X9 i]at e;refine(xq j j (eO f k) (31-n) gO w'.drew (dA a) a gO gO).mono ?_;rintro g d ⟨rfl,v,s⟩;refine⟨rfl,Ze (Zc t) h q m (dA a) r s,?_⟩;unfold QF;rw[X9 i];exact v
def Zf {d:List (Option Nat)}(a:zT f w w' l p n d b)(c:w'.grownBy u none):zT f w u l p n d b:=
 ⟨⟨by rw[c.block _ (aO a.1.1) (by simp)];exact a.1.1,by rw[c.block _ (aO a.1.2.1) (by simp)];exact a.1.2.1,by rw[c.block _ (aO a.1.2.2.1) (by simp)];exact a.1.2.2.1,ay a.1.2.2.2 c⟩,λk d j=>by
  have⟨e,g,h,i⟩:=a.2.1 k d j;exact⟨e,g,h,bP i c⟩,a.2.2⟩
def adU {h:List (Option Nat)}(a:zT f w w' l p n h b)(d:Nat)(e:Int)(m:w.heap.size+1+1<n):zT f w (w'.setCell (A (w.heap.size+1) d) (I e)) l (p.set d e) n h b:=by have c:=aD w' (A (w.heap.size+1) d) (I e);refine⟨⟨by rw[c.block _ (aO a.1.1) (by simp)];exact a.1.1,by rw[heap_setCell a.1.2.1,wD],by rw[c.block _ (aO a.1.2.2.1) (by simp;omega)];exact a.1.2.2.1,aG a.1.2.2.2 c (by simp)⟩,λh d e=>?_,a.2.2⟩;have⟨g,i,j,k⟩:=a.2.1 h d e;exact⟨g,i,j,RU k c a.1.2.1 (by decide) (show g≠w.heap.size+1 by omega)⟩
def anf (b:Int)(a:Nat)(d:-2147483648<=b)(e:b<=2147483648)(f:a<9):-2147483648*8<=b*a/\b*a<=2147483648*8/\-2147483648*64<=b*a*a/\b*a*a<=2147483648*64:=by have c:a=0\/a=1\/a=2\/a=3\/a=4\/a=5\/a=6\/a=7\/a=8:=gO;rcases c with rfl|rfl|rfl|rfl|rfl|rfl|rfl|rfl|rfl<;>omega
def Ej {e:Nat->Int}{h:List (Option Nat)}(g:zT e w w' l p b h 9)(c:QI f n 9 p)(a:Nat)(d:a<9):w'.cell? (A (w.heap.size+1) a)=some (I (iD f n a)):=by rw[aI g.1.2.1,pQ p a (by rw[c.1];exact d),c.2 a d]
def lU (c:w.grownBy w' none)(d:w.heap.size<=n)(a:Nat)(b:V):w.grownBy (w'.setCell (A n a) b) none:=aG c (aD w' (A n a) b) d
def afA (a:W):Eh a (((a.alloc nine).alloc nine).alloc (.cells (aF (List.replicate 120 0)) 3)) (List.replicate 120 0):=by
 have g:(a.alloc nine).heap.size=a.heap.size+1:=by simp
 have h:((a.alloc nine).alloc nine).heap.size=a.heap.size+1+1:=by simp
 have e:=dF a nine;have c:=dF (a.alloc nine) nine;have f:=dF ((a.alloc nine).alloc nine) (.cells (aF (List.replicate 120 0)) 3);rw[g]at c;rw[h]at f;have d:=aj (a.alloc nine) nine none;have b:=aj ((a.alloc nine).alloc nine) (.cells (aF (List.replicate 120 0)) 3) none;exact⟨by rw[(ay d b).block _ (aO e) (by simp)];exact e,by rw[b.block _ (aO c) (by simp)];exact c,f,ay (aj a nine none) (ay d b)⟩
def Zg (ax:Value)(c:L)(e:World)(r:aY e ax c)(hl:c.length=120)(hr:aL c=true):Calls prog 22 #[ax] e λo n=>∃d:Nat,Bits (eO (wN c) 0) d/\o=.returned (.tuple #[uY (wN c) d,.int .i64 ((d:Int)-31),.int .i64 0])/\e.grownBy n none:=by
 have HI:=Zd r;have RB:=Zd<|cO ax c;have RI:=Zd<|(bD c).1 hr;have RJ:=Zd<|T9 c hl hr;rw[hr]at RB;obtain⟨ad,a9,rfl,hc,aA⟩:=r;obtain⟨az,rfl,hv⟩:=aA gO;have HV:=Zd hv;rw[hl]at HI RB RI HV ⊢;have av:=λa6=>JK 120 gO gO a6;rw[hl]at hc;clear aA hr hv;go_enter func22,ntmps22;go_wp2_with fail;refine(RB.out _ (aR HI.out (ay (aj _ _ none) (aj _ _ none))) gO).mono ?_;rintro o w1 ⟨rfl,rfl⟩;clear RB;go_wp2_with fail;clear av;go_loopw [25] (λk wr=>∃(b:Nat) (u:L),k=.int .i64 b/\b<=120/\Hid (KG c b u)/\Hid (Eh e wr u)) (λk _=>120-(intOf k).toNat)
 case atStart=>exact⟨0,List.replicate 120 0,rfl,gO,⟨by simp,λaw hj=>gO⟩,afA e⟩
 case round=>
  obtain⟨b,u,rfl,hk,hF,s⟩:=hrel;by_cases ar:b<120
  .have j:=(aU s.out.2.2.2 (HV.out b ar));obtain⟨z1,z2⟩:=RI.out b ar;obtain⟨Y,Z⟩:=Cg b;obtain⟨x1,x2⟩:=TY _ _ z1 z2 Y Z;have a0:=Zd<|QG c u b hF.out ar;have EW:=Zs (wN c b=(aB c b*lI b+16384) / 32768) (rfl);have T:=Zd<|jr (aB c b*lI b+16384) 15 gO gO gO;rw[show((15:Nat):Int)=15 from rfl,show(2:Int)^15=32768 by decide,<-EW.out]at T;have a3:=hF.out.1;have a1:=Zd<|N9 (b:Int);generalize hz:aB c b=ai at *
   generalize lI b=ag at *
   generalize wN c b=aH at *
   have FN:=Zd (show ∀p,wr.drew.grownBy p none->p.cell? (az.add b)=some (.int .i64 ai)/\(p.cell? ⟨e.heap.size+1+1,b,none⟩=some (.int .i64 (aB u b))/\p.frozen? ⟨e.heap.size+1+1,b,none⟩=false/\Eh e p u)from λp af=>by
    have g':wr.grownBy p none:=⟨af.os,af.tape,af.output,af.size,af.block⟩;have g:=zS s.out g';exact⟨aU g' j,by rw[aI g.2.2.1];exact pQ u b gO,bA g.2.2.1 b,g⟩)
   have E1:=Zd<|eG (ai*ag) gO gO;have E2:=Zd<|eG (ai*ag+16384) gO gO;clear hz hF s EW RI HV HI a3;go_wp2_with fail;refine bW 12 ((λn=>n.cell? (az.add b)=some (.int .i64 ai))) 13 (by rfl) _ rfl (by kernel_rfl) λa=>?_;refine aZ 0 j a λa=>?_;refine aZ 1 j a λa=>?_;refine aZ 2 j a λa=>?_;refine aZ 3 j a λa=>?_;refine aZ 4 j a λa=>?_;refine aZ 5 j a λa=>?_;refine aZ 6 j a λa=>?_;refine jY 7 a λB i=>?_;(try simp only[sZ]);go_simp;refine(a1.out _).mono ?_;rintro o p ⟨rfl,rfl⟩;go_wp2_with fail;refine i.out _ _ (λ_=>j) λa=>?_;clear i;(try simp only[sZ]);refine aZ 8 j a λa=>?_;refine aZ 9 j a λa=>?_;refine jY 10 a λB i=>?_;(try simp only[sZ]);go_simp;rw[E1.out,E2.out];refine(T.out _).mono ?_;rintro o p ⟨rfl,D⟩;obtain⟨F,G⟩:=FN.out p D;have C:=Zd F;have H:=Zd G;obtain⟨k3,k4,k5⟩:=G;clear D F k5;go_wp2_with fail;refine i.out _ _ (λ_=>C.out) λa=>?_;clear i;(try simp only[sZ]);refine aZ 11 C.out a λa=>?_;refine jY 12 a λB i=>?_;(try simp only[sZ]);go_simp;go_wp2_with fail;refine i.out _ _ (λr=>by cases r) λa=>?_;clear i;(try simp only[sZ]);refine bI _ _ _ _ (by rfl) ?_;refine wm ?_;go_wp2_with fail;go_roundw
   case rel=>exact⟨b+1,u.set b aH,by go_num,gO,a0.out,mem_set H.out.2.2 b aH⟩
   case measure=>simp[intOf];omega
  obtain rfl:b=120:=gO;clear HV HI RI;have z:=Zs (∀k,-32768<=wN c k/\wN c k<=32768) (RJ.out);clear RJ;go_wp2_with fail;rw[show((120:Nat):Int)=120 from rfl];generalize hW:wr=W at *
  clear hW;have M0:=Zd<|zS s.out (aj W (.cells (Ei (List.replicate 9 none)) 110) none);have H0:=Zd<|dF W (.cells (Ei (List.replicate 9 none)) 110);have U:e.heap.size+1+1<W.heap.size:=aO s.out.2.2.1;have FC:=Zd hF.out;clear s hF;go_loopw [41] (λk wr=>∃(b:Nat) (t:List (Option Nat)),k=.int .i64 b/\b<=9/\t.length=9/\Hid (Eh e wr u)/\Hid (wr.heap[W.heap.size]?=some (.cells (Ei t) 110 (0,0)))/\Hid (Za (wN c) wr t b W.heap.size wr.heap.size/\Mw t b)) (λk _=>9-(intOf k).toNat)
  case atStart=>exact⟨0,List.replicate 9 none,rfl,gO,by simp,M0,H0,λaw hj=>gO,λk aw _ _ _ hj=>gO⟩
  case round=>
   obtain⟨b,t,rfl,hk,ah,s,E,j⟩:=hrel;clear M0 H0;by_cases q:b<9
   .have c0:=(aI E.out b).trans (zR t b gO);have f0:=bA E.out b;have a5:=aO E.out;have ST:=Zd<|acj s.out E.out j.out.1 U q ah;have aC:W.heap.size<wr.heap.size:=a5;have ao:(t.set b (some wr.heap.size)).length=9:=by simpa using ah
    have gk:=Zs ((t.set b (some wr.heap.size)).getD b none=some wr.heap.size) (by simp[List.getD,ah,q]);have DS:=Zd<|aiD j.out.2 wr.heap.size;clear s E j;go_wp2_with fail;clear c0 f0 ah;generalize t.set b (some wr.heap.size)=qs at *
    generalize a2:wr.heap.size=K at *
    clear a2;rw[show decide ((b:Int)<9)=true by simp;omega];go_loopw [10] (λk wx=>∃g:Nat,k=.int .i64 g/\g<=120-b/\Hid (InC (wN c) e wx u W.heap.size qs b K g)) (λk _=>120-b-(intOf k).toNat)
    case atStart=>exact⟨0,rfl,gO,ST.out⟩
    case round=>
     obtain⟨g,rfl,hm,hI⟩:=hrel;clear ST;by_cases av:g<120-b
     .have m:=Zb hI.out FC.out U ao q gk.out g gO;obtain⟨x1,x2⟩:=z.out g;obtain⟨Y,Z⟩:=z.out (g+b);obtain⟨p1,p2⟩:=Jp _ _ x1 x2 Y Z;have FN:=Zd<|akM hI.out FC.out z.out U ao q gk.out aC av;have E1:=Zd<|eG (wN c g*wN c (g+b)) gO gO;have E3:=Zd<|eG ((g:Int)+(b:Int)) gO gO;have ba:g<120:=gO;have bh:(g:Int)<120:=gO;have bc:g+b<120:=gO;have bd:(g:Int)+(b:Int)<120:=gO;have bf:0<=(g:Int)+(b:Int):=gO;have bg:((g:Int)+(b:Int)).toNat=g+b:=gO;generalize wN c g=x at *
      generalize wN c (g+b)=ag at *
      clear hI x1 x2 Y Z z FC;go_wp2_with fail;refine bW 18 ((λn=>n.cell? ⟨W.heap.size,b,none⟩=some (.pointer (some ⟨K,0,none⟩))/\n.cell? ⟨e.heap.size+1+1,g,none⟩=some (.int .i64 x)/\n.cell? ⟨e.heap.size+1+1,g+b,none⟩=some (.int .i64 ag))) 19 (by rfl) _ rfl (by kernel_rfl) λa=>?_;refine aZ 0 m a λa=>?_;refine aZ 1 m a λa=>?_;refine aZ 2 m a λa=>?_;refine aZ 3 m a λa=>?_;refine aZ 4 m a λa=>?_;refine aZ 5 m a λa=>?_;refine aZ 6 m a λa=>?_;refine aZ 7 m a λa=>?_;refine aZ 8 m a λa=>?_;refine aZ 9 m a λa=>?_;refine aZ 10 m a λa=>?_;refine aZ 11 m a λa=>?_;refine aZ 12 m a λa=>?_;refine iN (hy:=by intro n Q;(try dsimp only at Q);go_simp;first|exact E3.out|rw[E3.out]) (v:=.int .i64 ((g:Int)+(b:Int))) 13 m a λa=>?_;refine aZ 14 m a λa=>?_;refine aZ 15 m a λa=>?_;refine aZ 16 m a λa=>?_;refine jY 17 a λB i=>?_;(try simp only[sZ]);go_simp;rw[E1.out];refine(eP (x*ag) _ gO gO).mono ?_;rintro o p ⟨ap,rfl,aq,i2,D⟩;obtain⟨F,G⟩:=FN.out p ap D i2;have C:=Zd F;have H:=Zd G;clear D F G i2 aq FN;go_wp2_with fail;refine i.out _ _ (λ_=>C.out) λa=>?_;clear i;(try simp only[sZ]);refine jY 18 a λB i=>?_;(try simp only[sZ]);go_simp;refine H.out.mono ?_;rintro o w3 ⟨rfl,X⟩;have ab:=Zd X;clear X H C;go_wp2_with fail;refine i.out _ _ (λr=>by cases r) λa=>?_;clear i;(try simp only[sZ]);refine bI _ _ _ _ (by rfl) ?_;refine wm ?_;go_wp2_with fail;go_roundw
      case rel=>exact⟨g+1,by go_num,gO,ab.out⟩
      case measure=>simp[intOf];omega
     obtain rfl:g=120-b:=gO;have an:=Zd<|amz hI.out aC gk.out DS.out;clear hI;go_wp2_with fail;go_roundw
     case rel=>exact⟨b+1,qs,by go_num,gO,ao,an.out.1,an.out.2.1,an.out.2.2⟩
     case measure=>simp[intOf];omega
   obtain rfl:b=9:=gO;obtain⟨b0,u1,u2,u3,u4⟩:=j.out.1 0 gO;have c0:=(aI E.out 0).trans (zR t 0 gO);rw[u1]at c0;have ae:wr.cell? ⟨W.heap.size,0,none⟩=some (.pointer (some ⟨b0,0,none⟩)):=c0;have S0:=Zd<|acn s.out E.out j.out.1 j.out.2 z.out U u1 u2 u4;have U1:=Zd u1;clear s E j c0 u1 u3 u4;go_wp2_with fail;refine bW 5 ((λn=>n.cell? ⟨W.heap.size,0,none⟩=some (.pointer (some ⟨b0,0,none⟩)))) 6 (by rfl) _ rfl (by kernel_rfl) λa=>?_;refine aZ 0 ae a λa=>?_;refine aZ 1 ae a λa=>?_;refine aZ 2 ae a λa=>?_;refine aZ 3 ae a λa=>?_;refine jY 4 a λB i=>?_;(try simp only[sZ]);go_simp;refine(kN 1 _ gO gO).mono ?_;rintro o p ⟨ap,rfl,aq,i2,D⟩;obtain⟨F,G⟩:=S0.out p ap D i2;have C:=Zd F;have H:=Zd G;clear D F G i2 aq S0;go_wp2_with fail;refine i.out _ _ (λ_=>C.out) λa=>?_;clear i;(try simp only[sZ]);refine jY 5 a λB i=>?_;(try simp only[sZ]);go_simp;refine H.out.mono ?_;rintro o w3 ⟨rfl,X⟩;have ab:=Zd X;have c3:=JC X 0 gO U1.out;clear X H C;go_wp2_with fail;refine i.out _ _ (λr=>by cases r) λa=>?_;clear i;(try simp only[sZ]);refine bI _ _ _ _ (by rfl) ?_;refine wm ?_;go_wp2_with fail;obtain⟨i0,aE⟩:=akN ab.out 0 gO gO U1.out;obtain⟨v1,v2⟩:=wV z.out 0 gO;refine(aco b0 _ w3 i0 (by have:=aE;omega)).mono ?_;rintro o w4 ⟨d,n1,n2,rfl,rfl⟩;have n3:=KH z.out n2;have BN:=Zd n2;clear n2 c3 i0 aE v1 v2 ae U1;go_wp2_with fail;go_loopw [83] (λk wx=>∃(b:Nat) (R:L),k=.int .i64 b/\b<=9/\Hid (QI (wN c) d b R)/\Hid (zT (eO (wN c)) e wx u R W.heap.size t b)) (λk _=>9-(intOf k).toNat)
   case atStart=>exact⟨0,List.replicate 9 0,rfl,gO,⟨by simp,λaw hj=>gO⟩,ab.out⟩
   case round=>
    obtain⟨b,R,rfl,hk,hD,O⟩:=hrel;clear ab;by_cases q:b<9
    .obtain⟨K,bp,bb,bi⟩:=O.out.2.1 b (Q6 _) q;have l:=JC O.out b q bp;have a7:(b:Int)<9:=gO;obtain⟨x1,x2⟩:=agT BN.out b q;have BP:=Zd bp;have am:=Zd λhn=>akO O.out q bp bb bi U (n:=d) gO BN.out hn;have bj:=hD.out.1;have al:=Zd λhn=>aiE O.out q bp bb bi U (n:=d) gO hn;have FD:=Zd<|QJ hD.out q;have EC:=Zs (iD (wN c) d b=QF d (eO (wN c) b)-QF d (eO (wN c) b)*b*b / 8192) (rfl);generalize QF d (eO (wN c) b)=x at *
     obtain⟨bl,bm,bn,bo⟩:=anf x b x1 x2 gO;have T:=Zd<|jr (x*b*b) 13 gO gO gO;rw[show((13:Nat):Int)=13 from rfl,show(2:Int)^13=8192 by decide]at T;have bq:-2147483648*64<=x*b*b / 8192:=gO;have br:x*b*b / 8192<=2147483648*64:=gO;clear bi O hD bp z FC;by_cases hn:31<d
     .have a4:0<(d:Int)-31:=gO;have J:=Zd<|al.out hn;obtain⟨N,P⟩:∃N,N=d-31:=⟨_,rfl⟩;have EU:=Zd (show IntKind.u64.wrap ((d:Int)-31)=((N:Nat):Int)from by
       rw[P];show((d:Int)-31) % 18446744073709551616=_;omega)
      rw[<-P]at J;clear al am P;go_wp2_with fail;refine bW 8 ((λn=>n.cell? ⟨W.heap.size,b,none⟩=some (.pointer (some ⟨K,0,none⟩)))) 9 (by rfl) _ rfl (by kernel_rfl) λa=>?_;refine aZ 0 l a λa=>?_;refine aZ 1 l a λa=>?_;refine aZ 2 l a λa=>?_;refine aZ 3 l a λa=>?_;refine aZ 4 l a λa=>?_;refine aZ 5 l a λa=>?_;refine aZ 6 l a λa=>?_;refine iN (hy:=by intro n Q;(try dsimp only at Q);go_simp;(first|exact EU.out|rw[EU.out]|(simp;omega)|trace_state)) (v:=.int .u64 ((N:Nat):Int)) 7 l a λa=>?_;refine jY 8 a λB i=>?_;(try simp only[sZ]);go_simp;refine J.out.mono ?_;rintro o w4 ⟨rfl,w⟩;have ac:=Zd w;have c4:=JC w.1 b q BP.out;have aa:=Zd<|oC K x w4 w.2 gO gO;clear w J;go_wp2_with fail;refine i.out _ _ (λr=>by cases r) λa=>?_;clear i;(try simp only[sZ]);refine bI _ _ _ _ (by rfl) ?_;refine wm ?_;go_wp2_with fail;refine aa.out.mono ?_;rintro o w5 ⟨rfl,rfl⟩;clear aa c4;go_wp2_with fail;refine(T.out _).mono ?_;rintro o w6 ⟨rfl,g6⟩;have M6:=Zd<|Zf ac.out.1 g6;have M:=M6.out.1.2.1;have c6:=(aI M b).trans (pQ R b gO);have f6:=bA M b;clear ac g6 M;go_wp2_with fail;go_roundw
      case rel=>exact⟨b+1,R.set b (iD (wN c) d b),by go_num,gO,FD.out,by rw[EC.out];exact adU M6.out b _ gO⟩
      case measure=>simp[intOf];omega
     have a4:¬0<(d:Int)-31:=gO;have J:=Zd<|am.out gO;obtain⟨N,P⟩:∃N,N=31-d:=⟨_,rfl⟩;have EN:=Zd<|eG (-((d:Int)-31)) gO gO;have EU:=Zd (show IntKind.u64.wrap (-((d:Int)-31))=((N:Nat):Int)from by
      rw[P];show(-((d:Int)-31)) % 18446744073709551616=_;omega)
     rw[<-P]at J;clear al am P;go_wp2_with fail;refine bW 9 ((λn=>n.cell? ⟨W.heap.size,b,none⟩=some (.pointer (some ⟨K,0,none⟩)))) 10 (by rfl) _ rfl (by kernel_rfl) λa=>?_;refine aZ 0 l a λa=>?_;refine aZ 1 l a λa=>?_;refine aZ 2 l a λa=>?_;refine aZ 3 l a λa=>?_;refine aZ 4 l a λa=>?_;refine aZ 5 l a λa=>?_;refine aZ 6 l a λa=>?_;refine iN (hy:=by intro n Q;(try dsimp only at Q);go_simp;(first|exact EN.out|rw[EN.out]|(simp;omega)|trace_state)) (v:=.int .i64 (-((d:Int)-31))) 7 l a λa=>?_;refine iN (hy:=by intro n Q;(try dsimp only at Q);go_simp;(first|exact EU.out|rw[EU.out]|(simp;omega)|trace_state)) (v:=.int .u64 ((N:Nat):Int)) 8 l a λa=>?_;refine jY 9 a λB i=>?_;(try simp only[sZ]);go_simp;refine J.out.mono ?_;rintro o w4 ⟨rfl,w⟩;have ac:=Zd w;have c4:=JC w.1 b q BP.out;have aa:=Zd<|oC K x w4 w.2 gO gO;clear w J;go_wp2_with fail;refine i.out _ _ (λr=>by cases r) λa=>?_;clear i;(try simp only[sZ]);refine bI _ _ _ _ (by rfl) ?_;refine wm ?_;go_wp2_with fail;refine aa.out.mono ?_;rintro o w5 ⟨rfl,rfl⟩;clear aa c4;go_wp2_with fail;refine(T.out _).mono ?_;rintro o w6 ⟨rfl,g6⟩;have M6:=Zd<|Zf ac.out.1 g6;have M:=M6.out.1.2.1;have c6:=(aI M b).trans (pQ R b gO);have f6:=bA M b;clear ac g6 M;go_wp2_with fail;go_roundw
     case rel=>exact⟨b+1,R.set b (iD (wN c) d b),by go_num,gO,FD.out,by rw[EC.out];exact adU M6.out b _ gO⟩
     case measure=>simp[intOf];omega
    obtain rfl:b=9:=gO;have f:=Zd O.out;have v:=Zd hD.out;clear O hD;have r0:wr.cell? ⟨e.heap.size+1,0,none⟩=some (.int .i64 (iD (wN c) d 0)):=Ej f.out v.out 0 gO;have r1:wr.cell? ⟨e.heap.size+1,1,none⟩=some (.int .i64 (iD (wN c) d 1)):=Ej f.out v.out 1 gO;have r2:wr.cell? ⟨e.heap.size+1,2,none⟩=some (.int .i64 (iD (wN c) d 2)):=Ej f.out v.out 2 gO;have r3:wr.cell? ⟨e.heap.size+1,3,none⟩=some (.int .i64 (iD (wN c) d 3)):=Ej f.out v.out 3 gO;have r4:wr.cell? ⟨e.heap.size+1,4,none⟩=some (.int .i64 (iD (wN c) d 4)):=Ej f.out v.out 4 gO;have r5:wr.cell? ⟨e.heap.size+1,5,none⟩=some (.int .i64 (iD (wN c) d 5)):=Ej f.out v.out 5 gO;have r6:wr.cell? ⟨e.heap.size+1,6,none⟩=some (.int .i64 (iD (wN c) d 6)):=Ej f.out v.out 6 gO;have r7:wr.cell? ⟨e.heap.size+1,7,none⟩=some (.int .i64 (iD (wN c) d 7)):=Ej f.out v.out 7 gO;have r8:wr.cell? ⟨e.heap.size+1,8,none⟩=some (.int .i64 (iD (wN c) d 8)):=Ej f.out v.out 8 gO;have q0:wr.cell? ⟨e.heap.size,0,none⟩=some (.int .i64 0):=aI f.out.1.1 0;have t0:wr.frozen? ⟨e.heap.size,0,none⟩=false:=bA f.out.1.1 0;have q1:wr.cell? ⟨e.heap.size,1,none⟩=some (.int .i64 0):=aI f.out.1.1 1;have t1:wr.frozen? ⟨e.heap.size,1,none⟩=false:=bA f.out.1.1 1;have q2:wr.cell? ⟨e.heap.size,2,none⟩=some (.int .i64 0):=aI f.out.1.1 2;have t2:wr.frozen? ⟨e.heap.size,2,none⟩=false:=bA f.out.1.1 2;have q3:wr.cell? ⟨e.heap.size,3,none⟩=some (.int .i64 0):=aI f.out.1.1 3;have t3:wr.frozen? ⟨e.heap.size,3,none⟩=false:=bA f.out.1.1 3;have q4:wr.cell? ⟨e.heap.size,4,none⟩=some (.int .i64 0):=aI f.out.1.1 4;have t4:wr.frozen? ⟨e.heap.size,4,none⟩=false:=bA f.out.1.1 4;have q5:wr.cell? ⟨e.heap.size,5,none⟩=some (.int .i64 0):=aI f.out.1.1 5;have t5:wr.frozen? ⟨e.heap.size,5,none⟩=false:=bA f.out.1.1 5;have q6:wr.cell? ⟨e.heap.size,6,none⟩=some (.int .i64 0):=aI f.out.1.1 6;have t6:wr.frozen? ⟨e.heap.size,6,none⟩=false:=bA f.out.1.1 6;have q7:wr.cell? ⟨e.heap.size,7,none⟩=some (.int .i64 0):=aI f.out.1.1 7;have t7:wr.frozen? ⟨e.heap.size,7,none⟩=false:=bA f.out.1.1 7;have q8:wr.cell? ⟨e.heap.size,8,none⟩=some (.int .i64 0):=aI f.out.1.1 8;have t8:wr.frozen? ⟨e.heap.size,8,none⟩=false:=bA f.out.1.1 8;have AG:=Zs (uY (wN c) d=.agg #[.int .i64 (iD (wN c) d 0),.int .i64 (iD (wN c) d 1),.int .i64 (iD (wN c) d 2),.int .i64 (iD (wN c) d 3),.int .i64 (iD (wN c) d 4),.int .i64 (iD (wN c) d 5),.int .i64 (iD (wN c) d 6),.int .i64 (iD (wN c) d 7),.int .i64 (iD (wN c) d 8)]) (rfl);generalize iD (wN c) d 0=z0 at *
    generalize iD (wN c) d 1=z1 at *
    generalize iD (wN c) d 2=z2 at *
    generalize iD (wN c) d 3=z3 at *
    generalize iD (wN c) d 4=z4 at *
    generalize iD (wN c) d 5=z5 at *
    generalize iD (wN c) d 6=z6 at *
    generalize iD (wN c) d 7=z7 at *
    generalize iD (wN c) d 8=z8 at *
    go_wp2_with fail;have y0:=heap_setCell (k:=0) (show wr.heap[e.heap.size]?=some (.cells #[.int .i64 0,.int .i64 0,.int .i64 0,.int .i64 0,.int .i64 0,.int .i64 0,.int .i64 0,.int .i64 0,.int .i64 0] 69 (0,0))from f.out.1.1) (.int .i64 z0);have Y:=heap_setCell (k:=1) y0 (.int .i64 z1);have Z:=heap_setCell (k:=2) Y (.int .i64 z2);have y3:=heap_setCell (k:=3) Z (.int .i64 z3);have y4:=heap_setCell (k:=4) y3 (.int .i64 z4);have y5:=heap_setCell (k:=5) y4 (.int .i64 z5);have y6:=heap_setCell (k:=6) y5 (.int .i64 z6);have y7:=heap_setCell (k:=7) y6 (.int .i64 z7);have y:=heap_setCell (k:=8) y7 (.int .i64 z8);have o0:=aI y 0;have o1:=aI y 1;have o2:=aI y 2;have o3:=aI y 3;have o4:=aI y 4;have o5:=aI y 5;have o6:=aI y 6;have o7:=aI y 7;have o8:=aI y 8;simp at o0 o1 o2 o3 o4 o5 o6 o7 o8;have GF:=Zd<|lU (lU (lU (lU (lU (lU (lU (lU (lU f.out.1.2.2.2 (Q6 _) 0 (.int .i64 z0)) (Q6 _) 1 (.int .i64 z1)) (Q6 _) 2 (.int .i64 z2)) (Q6 _) 3 (.int .i64 z3)) (Q6 _) 4 (.int .i64 z4)) (Q6 _) 5 (.int .i64 z5)) (Q6 _) 6 (.int .i64 z6)) (Q6 _) 7 (.int .i64 z7)) (Q6 _) 8 (.int .i64 z8);refine QB (v:=.tuple #[uY (wN c) d,.int .i64 ((d:Int)-31),.int .i64 0]) ?_ rfl ⟨d,BN.out,rfl,GF.out⟩;rw[AG.out];simp[results,results22,go_sem,o0,o1,o2,o3,o4,o5,o6,o7,o8]

def Zh (c:iQ w n T l)(b:w.grownBy w' z)(d:∀a,z=some a->n≠a):iQ w' n T l:=by
 rcases z with _|a
 .exact c.aC b
 exact c.aH b (d a rfl)
def Zi (d:aY w x l)(b:w.grownBy w' none)(c:w'.grownBy u z)(e:∀a,z=some a->w.heap.size<=a):aY u x l:=by
 refine aR d ?_;rcases z with _|a
 .exact ay b c
 exact aG b c (e a rfl)
def Mx (d:W)(a:L)(f:Bool)(n:a.length=225)(t:iI a)(o:V)(b:L)(u:aY d o b)(F:b.length*8<=140737488351232)(c:Bool)(j:b.length≠80):Calls prog 15 #[gu a f,o,.bool c] d (rO d (lJ a b c) (mK a b c) (lK a b c) (lM a b c) (iw a b)):=by
 have l:=Zd<|Od.new d a f;have x:=Zd<|bK n f;have i:=Zd<|bK (ak 225) false;have r:=Zd<|gG (au 225) false;have w:=jJ;have y:=Zd n;have e:¬qL a b:=λg=>j g.1;have g:=Zs (∀k,d.grownBy k none->rO d (lJ a b c) (mK a b c) (lK a b c) (lM a b c) (iw a b) (.returned (.tuple #[gu (au 225) false,N,N,I 1])) k) (λk k=>⟨_,_,by rw[(kK c e).1,(kK c e).2.1,(show iw a b=1 from X9 j)],by rw[(kK c e).2.2.1];exact je _ _,by rw[(kK c e).2.2.2];exact bN _ _,k⟩);have m:=Zd λk (s:Od d a f k)=>s.fin (au 225) false (ak 225);obtain⟨B,C,rfl,D,_⟩:=u;have E:((b.length:Int)==80)=false:=beq_eq_false_iff_ne.2 gO;clear e j t;generalize rO d (lJ a b c) (mK a b c) (lK a b c) (lM a b c) (iw a b)=z at *
 unfold gu at w g ⊢;go_enter func15,ntmps15;go_upto_region 1 with fail;generalize (d.alloc (.cells (bV a f).toArray 55)).alloc (.cells (bV (au 225) false).toArray 55)=q at *
 have k:=Zd<|m q l;have p:=Zd<|g _ k.2.1;clear g m;go_wp2_with (first|refine sV 0 (bV (au 225) false) l.2.1 (by rw[i.out];omega) (by rw[i.out];exact dN) r ?_);have v:=qG k.1 (by rw[i.out];exact dN);refine QB (v:=.tuple #[.agg (bV (au 225) false).toArray,N,N,I 1]) ?_ rfl p;simp[results,results15,asAddr,Act.put,v]
def MH (d:W)(a:L)(e:Bool)(o:a.length=225)(Y:iI a)(H:V)(b:L)(G:aY d H b)(ah:b.length*8<=140737488351232)(c:Bool)(q:b.length=80)(hg:bJ (fF a)=true)(p:vV a b=false):Calls prog 15 #[gu a e,H,.bool c] d (rO d (lJ a b c) (mK a b c) (lK a b c) (lM a b c) (iw a b)):=by
 have x:=Zd<|Od.new d a e;have s:=Zd<|bK o e;have k:=Zd<|bK (ak 225) false;have R:=Zd<|gG (au 225) false;have hz:=jJ;have HE:=Zd o;have g:¬qL a b:=λf=>by have:=f.2.2.1;rw[p]at this;cases this
 have t:=Zs (∀f,d.grownBy f none->rO d (lJ a b c) (mK a b c) (lK a b c) (lM a b c) (iw a b) (.returned (.tuple #[gu (au 225) false,N,N,I 2])) f) (λf r=>⟨_,_,by rw[(kK c g).1,(kK c g).2.1,Av g q],by rw[(kK c g).2.2.1];exact je _ _,by rw[(kK c g).2.2.2];exact bN _ _,r⟩);have Q:=Zd λg (n:Od d a e g)=>n.fin (au 225) false (ak 225);obtain⟨l,m,rfl⟩:=qz G gO;have u:=Zd λg (T:d.grownBy g none)=>aR G T;rw[q]at u ⊢;have K:=Zd q;have i:=Zd (λg=>fH (fF a) e (aT _ _ _) (λf=>by
  by_cases r:f<101
  .unfold fF;rw[fV _ _ _ _ r];exact Y _
  rw[dI _ f (by unfold fF;rw[aT];omega)];omega) g)
 rw[hg]at i;have w:=Zd<|qc e o;rw[show bM a 124 101=fF a from rfl]at w;have M:=Zd (show((bV a e).drop 0).take 4=aQ [aB a 0,aB a 1,aB a 2,aB a 3]from by
  rw[tK e 0 4 gO];rfl)
 have f:=Zd λg (n:aY g (.slice (some l) 80 m) b)=>vY (aB a 0) (aB a 1) (aB a 2) (aB a 3) (.slice (some l) 80 m) b g n (.inr ⟨l,m,by rw[K.out]⟩) gO;rw[show Vd (aB a 0) (aB a 1) (aB a 2) (aB a 3) b=jo a b from rfl]at f;unfold hiT at f;generalize ad:hiM (aB a 0) (aB a 1) (aB a 2) (aB a 3) b 0=C at f;generalize ae:hiM (aB a 0) (aB a 1) (aB a 2) (aB a 3) b 1=D at f;generalize af:hiM (aB a 0) (aB a 1) (aB a 2) (aB a 3) b 2=E at f;generalize ag:hiM (aB a 0) (aB a 1) (aB a 2) (aB a 3) b 3=F at f;have Z:Xh (aB a 0) (aB a 1) (aB a 2) (aB a 3) b=2:=by unfold Xh;unfold vV at p;rw[X9 (by rw[p];decide)]
 rw[Z]at f;generalize rO d (lJ a b c) (mK a b c) (lK a b c) (lM a b c) (iw a b)=ac at *
 unfold bL at i;unfold gu at hz t ⊢;go_enter func15,ntmps15;go_upto_region 1 with fail;generalize (d.alloc (.cells (bV a e).toArray 55)).alloc (.cells (bV (au 225) false).toArray 55)=O at *
 go_wp2_with (first|refine lV 124 x.1 aK (by rw[s.out];omega) w ?_);refine(i O).mono ?_;rintro ab z ⟨rfl,U⟩;have j:=Zd<|x.aC U;go_wp2_with (first|refine lV 0 j.1 uo (by rw[s.out];omega) M ?_);refine(f z (u z j.2.2)).mono ?_;rintro ab B ⟨vc,rfl,ic,X⟩;have y:=Zd<|(j.aC X).aC (aj B (.cells #[I C,I D,I E,I F] 48) none);go_upto_region 6 with fail;generalize B.alloc (.cells #[I C,I D,I E,I F] 48)=P at *
 have v:=Zd<|Q P y;have J:=Zd<|t _ v.2.1;go_wp2_with (first|refine sV 0 (bV (au 225) false) y.2.1 (by rw[k.out];omega) (by rw[k.out];exact dN) R ?_);have aa:=qG v.1 (by rw[k.out];exact dN);refine QB (v:=.tuple #[.agg (bV (au 225) false).toArray,N,N,I 2]) ?_ rfl J;simp[results,results15,asAddr,Act.put,aa]
def acp (a:W):kD (a.alloc iW) a.heap.size 0:=⟨_,[],dF _ _,sI _,vM,rA,by rw[nA];rfl,by simp⟩
def AR (va vb:V)(e j:L)(f:W)(ha:aY f va e)(hb:aY f vb j)(hl:e.length<=1000)(a6:e.length<=j.length)(K:aL e=true)(M:aL j=true):Calls prog 26 #[va,vb] f (fP f (I (fU e j e.length))):=by
 have v:=Zd<|n_ e j K M;have D:=Zd<|(bD e).1 K;have RB:=Zd<|(bD j).1 M;obtain⟨ap,ca,rfl,a4,a⟩:=ha;obtain⟨aq,a3,rfl,a5,b⟩:=hb;have E:=Zd a;have F:=Zd b;have C:=Zd<|acp f;have k:=Zd<|aj f iW none;have B:=Zs (fU e j 0=0) (rfl);rw[show iW=.cells #[.bool false,.slice none 0 0] 113 from rfl]at C k;clear a b K M;go_enter func26,ntmps26;go_wp2_with fail;generalize f.alloc (.cells #[.bool false,.slice none 0 0] 113)=W0 at *
 go_loopw [10] (λc wr=>∃d:Nat,c=I d/\d<=e.length/\Hid (kD wr f.heap.size (fU e j d))/\Hid (f.grownBy wr none)) (λc _=>e.length-(intOf c).toNat)
 case atStart=>exact⟨0,rfl,QN _,by rw[B.out];exact C,k⟩
 case round=>
  obtain⟨d,rfl,hm,y,x⟩:=hrel;clear C k;by_cases ac:d<e.length
  .obtain⟨aa,rfl,a⟩:=E gO;obtain⟨ab,rfl,b⟩:=F gO;have ca:=a d ac;have cb:=b d gO;have⟨x1,x2⟩:=D d ac;have⟨y1,y2⟩:=RB d gO;have⟨d1,d2⟩:=v d;have z:=Zs (fU e j (d+1)=fU e j d+aB e d*aB j d) (rfl);clear a b v D RB E F B;generalize aB e d=p at *
   generalize aB j d=n at *
   generalize fU e j d=S at *
   have⟨p1,p2⟩:=sF p n x1 x2 y1 y2;have i1:(d:Int)<e.length:=gO;have i2:(d:Int)<j.length:=gO;have i3:(d:Int)<=1000:=gO;go_wp2_with fail;refine wp_region_held_drew (S:=dB f) (by kernel_rfl) (aX x (bB (aM _ none))) λa=>?_;have c:=Zd<|bP y (bB (aM wr none));clear y x;refine aV 0 a ?_;refine aV 1 a ?_;refine aV 3 a ?_;refine aV 4 a ?_;refine aV 5 a ?_;refine aV (hy:=by intro w' J;have c1:=aU J ca;go_simp;(try with_reducible rfl)) 6 a ?_;refine aV 8 a ?_;refine aV 9 a ?_;refine aV 10 a ?_;refine aV (hy:=by intro w' J;have c2:=aU J cb;go_simp;(try with_reducible rfl)) 11 a ?_;refine qN 2 7 (λk b=>?an) λk b=>?ao
   case an=>
    (try simp only[sZ]);go_simp;go_wp2_with fail;have r:=Zs (f.heap.size<wr.heap.size) (WK (lS c) (by first|exact Q6 _|simp));refine b.out _ _ (dZ a (.cells #[.bool false,.slice none 0 0] 113)) λa=>?_;clear b;have c:=Zd<|bP c (aj (wr.drew) (.cells #[.bool false,.slice none 0 0] 113) none);have i:=Zs (Struct ((wr.alloc (.cells #[.bool false,.slice none 0 0] 113)).drew) (wr.heap.size)) (dW (wr.drew));have H:(wr.drew).alloc (.cells #[.bool false,.slice none 0 0] 113)=(wr.alloc (.cells #[.bool false,.slice none 0 0] 113)).drew:=rfl;rw[H]at c;clear H;generalize (wr.alloc (.cells #[.bool false,.slice none 0 0] 113)).drew=ar at *
    generalize wr.heap.size=t at *
    (try simp only[sZ]);refine eU 7 λk b=>?_;(try simp only[sZ]);go_simp;refine(eP p _ gO gO).mono ?_;rintro l ax ⟨w,rfl,Z,O,P⟩;have s:=Zd P;have g:=Zd O;have c:=Zd<|bP c s;have i:=Zd<|bQ i s (by simp);clear O Z P;go_wp2_with fail;refine b.out _ _ (aX a s) λa=>?_;clear b;(try simp only[sZ]);refine eU 12 λk b=>?_;(try simp only[sZ]);go_simp;refine(eP n _ gO gO).mono ?_;rintro l az ⟨u,rfl,ae,Q,R⟩;have o:=Zd R;have m:=Zd Q;have c:=Zd<|bP c o;have i:=Zd<|bQ i o (by simp);have g:=Zd<|bP g o;clear Q ae R;go_wp2_with fail;refine b.out _ _ (aX a o) λa=>?_;clear b;(try simp only[sZ]);refine eU 13 λk b=>?_;(try simp only[sZ]);go_simp;refine(jh t w u p n _ i g m (by rw[P8] ;omega) (by rw[P8];omega)).mono ?_;rintro l aA ⟨rfl,T,U⟩;have X:=Zd U;have q:=Zd T;have c:=Zd<|dR c.out X.out i.out (by have:=r.out;omega);clear T U g m;go_wp2_with fail;refine b.out _ _ (jq a X (by have:=r.out;omega)) λa=>?_;clear b i;(try simp only[sZ]);refine eU 14 λk b=>?_;(try simp only[sZ]);go_simp;refine(kP f.heap.size f.heap.size t S (p*n) _ (dA c) c q (by rw[P8];omega) (by rw[P8];omega)).mono ?_;rintro l aC ⟨rfl,G,Y⟩;have ag:=Zd Y;rw[<-z.out]at G;have c:=Zd G;clear G Y q;go_wp2_with fail;refine b.out _ _ (jq a ag (Q6 _)) λa=>?_;clear b;(try simp only[sZ]);refine jX ?_;go_wp2_with fail;go_roundw
    case rel=>exact⟨d+1,by go_num,gO,c,a⟩
    case measure=>simp[intOf];omega
   case ao=>
    (try simp only[sZ]);go_simp;refine(eP p _ gO gO).mono ?_;rintro l s ⟨w,rfl,af,X,Y⟩;have Z:=Zd Y;have g:=Zd X;have c:=Zd<|bP c Z;clear X af Y;go_wp2_with fail;refine b.out _ _ (aX a Z) λa=>?_;clear b;(try simp only[sZ]);refine qN 2 12 (λk b=>?ah) λk b=>?ai
    case ah=>
     (try simp only[sZ]);go_simp;go_wp2_with fail;have r:=Zs (f.heap.size<s.heap.size) (WK (lS c) (by first|exact Q6 _|simp));refine b.out _ _ (dZ a (.cells #[.bool false,.slice none 0 0] 113)) λa=>?_;clear b;have c:=Zd<|bP c (aj (s) (.cells #[.bool false,.slice none 0 0] 113) none);have g:=Zd<|bP g (aj (s) (.cells #[.bool false,.slice none 0 0] 113) none);have i:=Zs (Struct (s.alloc (.cells #[.bool false,.slice none 0 0] 113)) (s.heap.size)) (dW (s));generalize s.alloc (.cells #[.bool false,.slice none 0 0] 113)=av at *
     generalize s.heap.size=t at *
     (try simp only[sZ]);refine eU 12 λk b=>?_;(try simp only[sZ]);go_simp;refine(eP n _ gO gO).mono ?_;rintro l aE ⟨u,rfl,U,Q,R⟩;have o:=Zd R;have m:=Zd Q;have c:=Zd<|bP c o;have g:=Zd<|bP g o;have i:=Zd<|bQ i o (by simp);clear Q U R;go_wp2_with fail;refine b.out _ _ (aX a o) λa=>?_;clear b;(try simp only[sZ]);refine eU 13 λk b=>?_;(try simp only[sZ]);go_simp;refine(jh t w u p n _ i g m (by rw[P8] ;omega) (by rw[P8];omega)).mono ?_;rintro l aH ⟨rfl,T,H⟩;have O:=Zd H;have q:=Zd T;have c:=Zd<|dR c.out O.out i.out (by have:=r.out;omega);clear T H g m;go_wp2_with fail;refine b.out _ _ (jq a O (by have:=r.out;omega)) λa=>?_;clear b i;(try simp only[sZ]);refine eU 14 λk b=>?_;(try simp only[sZ]);go_simp;refine(kP f.heap.size f.heap.size t S (p*n) _ (dA c) c q (by rw[P8];omega) (by rw[P8];omega)).mono ?_;rintro l a0 ⟨rfl,G,P⟩;have al:=Zd P;rw[<-z.out]at G;have c:=Zd G;clear G P q;go_wp2_with fail;refine b.out _ _ (jq a al (Q6 _)) λa=>?_;clear b;(try simp only[sZ]);refine jX ?_;go_wp2_with fail;go_roundw
     case rel=>exact⟨d+1,by go_num,gO,c,a⟩
     case measure=>simp[intOf];omega
    case ai=>
     (try simp only[sZ]);go_simp;refine(eP n _ gO gO).mono ?_;rintro l o ⟨u,rfl,ad,O,P⟩;have G:=Zd P;have m:=Zd O;have c:=Zd<|bP c G;have g:=Zd<|bP g G;clear O ad P;go_wp2_with fail;refine b.out _ _ (aX a G) λa=>?_;clear b;(try simp only[sZ]);refine eU 2 λk b=>?_;(try simp only[sZ]);go_simp;go_wp2_with fail;have r:=Zs (f.heap.size<o.heap.size) (WK (lS c) (by first|exact Q6 _|simp));refine b.out _ _ (dZ a (.cells #[.bool false,.slice none 0 0] 113)) λa=>?_;clear b;have c:=Zd<|bP c (aj (o) (.cells #[.bool false,.slice none 0 0] 113) none);have g:=Zd<|bP g (aj (o) (.cells #[.bool false,.slice none 0 0] 113) none);have m:=Zd<|bP m (aj (o) (.cells #[.bool false,.slice none 0 0] 113) none);have i:=Zs (Struct (o.alloc (.cells #[.bool false,.slice none 0 0] 113)) (o.heap.size)) (dW (o));generalize o.alloc (.cells #[.bool false,.slice none 0 0] 113)=aw at *
     generalize o.heap.size=t at *
     (try simp only[sZ]);refine eU 13 λk b=>?_;(try simp only[sZ]);go_simp;refine(jh t w u p n _ i g m (by rw[P8] ;omega) (by rw[P8];omega)).mono ?_;rintro l a1 ⟨rfl,Q,R⟩;have T:=Zd R;have q:=Zd Q;have c:=Zd<|dR c.out T.out i.out (by have:=r.out;omega);clear Q R g m;go_wp2_with fail;refine b.out _ _ (jq a T (by have:=r.out;omega)) λa=>?_;clear b i;(try simp only[sZ]);refine eU 14 λk b=>?_;(try simp only[sZ]);go_simp;refine(kP f.heap.size f.heap.size t S (p*n) _ (dA c) c q (by rw[P8];omega) (by rw[P8];omega)).mono ?_;rintro l a2 ⟨rfl,H,U⟩;have am:=Zd U;rw[<-z.out]at H;have c:=Zd H;clear H U q;go_wp2_with fail;refine b.out _ _ (jq a am (Q6 _)) λa=>?_;clear b;(try simp only[sZ]);refine jX ?_;go_wp2_with fail;go_roundw
     case rel=>exact⟨d+1,by go_num,gO,c,a⟩
     case measure=>simp[intOf];omega
  obtain rfl:d=e.length:=gO;have⟨d1,d2⟩:=v e.length;have N:=Zd<|oC f.heap.size _ wr y gO gO;have c:=x;clear v D RB E F B y x;generalize fU e j e.length=S at *
  go_wp2_with fail;refine N.mono ?_;rintro l g ⟨rfl,rfl⟩;go_wp2_with fail;go_ret;exact⟨rfl,c⟩
def amA:(prog.info? 51).map (·.size)=some 80:=by kernel_rfl
def zU (a:List Int)(G:a.length=80)(d:Int)(c:W):Calls prog 66 #[.agg (aF a),I d] c (gP c (lW a d) (Fj d)):=by
 have s:=Zd<|bY.new c 51 a;have i:=Zd<|aj c (.cells (aF a) 51) none;have w:=Zs (c.heap.size+1<=(c.alloc (.cells (aF a) 51)).heap.size) (by simp);by_cases g:20<=d/\d<=79
 .obtain⟨L,rfl⟩:∃L:Nat,d=(L:Int):=⟨d.toNat,gO⟩;have⟨B,C⟩:=uh a L gO gO;rw[B,C];have⟨M,O⟩:=g;go_enter func66,ntmps66;go_wp2_with fail;generalize c.alloc (.cells (aF a) 51)=E at *
  go_loopw [6,7] (λf e wr=>∃(b:Nat),e=I b/\b<=40/\Hid (fO (c.heap.size+1) wr f (f_ b (BG a L)))/\Hid (bY wr c.heap.size 51 a)/\Hid (c.grownBy wr none)/\Hid (c.heap.size+1<=wr.heap.size)) (λ_ e _=>40-(intOf e).toNat)
  case atStart=>exact⟨0,rfl,QN _,bN _ _,s,i,w⟩
  case round=>
   obtain⟨b,rfl,J,k,n,p,q⟩:=hrel;by_cases F:b<40
   .have H:80-L+b % L<80:=by have:=Nat.mod_lt b (show 0<L by omega);omega
    have z:=n.cell (80-L+b % L) gO;rw[show aB a (80-L+b % L)=BG a L b from rfl]at z;have u:=Zs (f_ (b+1) (BG a L)=f_ b (BG a L)++[BG a L b]) (by unfold f_;rw[List.range_succ];simp);have v:=Zd<|cK b (BG a L);have K:(b:Int)<40:=gO;generalize BG a L b=l at *
    go_wp2_with (at_builtin;refine dH (by rfl) _ _ rfl (c.heap.size+1) _ (.slice (S wr.heap.size) 1 1) (f_ b (BG a L)) [l] rfl rfl (k.aC (aj _ _ none)) (uj wr l) (.inr ⟨_,_,rfl⟩) (by rw[v.out];simp;omega) (by have:=q.out;simp;omega) ?_);intro P D m f;rw[<-u.out]at m;have y:=Zd m;have j:=aj wr (.cells #[I l] 3) none;have r:∀e,u6.ownBlock=some e->c.heap.size+1<=e:=λe l=>(k.lt e l).1;have t:=Zd (show bY D c.heap.size 51 a from by
     have o:=n.aC j;rcases eb:u6.ownBlock with _|e
     .rw[eb]at f;exact o.aC f
     have:=r e eb;rw[eb]at f;exact o.aH f gO)
    have o:=Zd<|gV (ay p j) f (λe l=>by have:=r e l;omega);have x:=Zd<|YM (YM q j.size) f.size;go_wp2;go_roundw
    case rel=>exact⟨b+1,by go_num,gO,y,t,o,x⟩
    case measure=>simp[intOf];omega
   obtain rfl:b=40:=gO;have f:=Zd<|k.base (b':=c.heap.size) gO;have e:=p;go_wp2_with fail;go_ret2;exact⟨_,rfl,f,e⟩
 rw[show lW a d=[]from X9 g,show Fj d=2 from X9 g];by_cases b:d<20
 .clear g;go_enter func66,ntmps66;go_wp2_with fail;go_ret2;exact⟨_,rfl,bN _ _,i⟩
 have e:79<d:=gO;go_enter func66,ntmps66;go_wp2_with fail;go_ret2;exact⟨_,rfl,bN _ _,i⟩
def Ii (a:Int)(i:0<=a):∀(b:Nat),b<=5->∀c:W,Calls prog 90 #[I a,I (b:Int)] c (fP c (I (z_ a b)))
 | 0,_,c=>by
  have d:min a 32767=z_ a 0:=by show min a 32767=(if 32767<a then 32767 else a);split<;>omega
  have f:(if 32767<a then 32767 else a)=z_ a 0:=rfl;have e:=Zs (fP c (I (z_ a 0)) (.returned (I (z_ a 0))) c) (⟨rfl,aM _ _⟩);generalize fP c (I (z_ a 0))=l at *
  generalize z_ a 0=q at *
  rw[show((0:Nat):Int)=0 from rfl];go_enter func90,ntmps90;go_wp2_with fail
  first|exact e|(go_ret;exact e)
 | b+1,g,c=>by
  have k:=Zd<|Ii a i b gO c;have⟨r,s⟩:=S_ a i b;have f:=Zd λd=>jr (z_ a b*26214) 15 gO gO gO d;rw[show(2:Int)^15=32768 by decide,show((15:Nat):Int)=15 from rfl]at f;have e:=Zs (∀d,c.grownBy d none->fP c (I (z_ a (b+1))) (.returned (I (z_ a b*26214 / 32768))) d) (λd g=>⟨rfl,g⟩);generalize fP c (I (z_ a (b+1)))=l at *
  generalize z_ a b=q at *
  have t:((b+1:Nat):Int)-1=(b:Int):=gO;have u:((b+1:Nat):Int)<=5:=gO;have v:0<((b+1:Nat):Int):=gO;generalize ((b+1:Nat):Int)=N at *
  go_enter func90,ntmps90;go_wp2_with fail;refine k.mono ?_;rintro m w ⟨rfl,n⟩;have j:=Zd n;go_wp2_with fail;refine(f _).mono ?_;rintro m p ⟨rfl,o⟩;have d:=Zd<|e p (ay j o);go_wp2_with fail
  first|exact d|(go_ret;exact d)
def pE (a b:Int)(c:W):Calls prog 90 #[I a,I b] c (fP c (I (Gz a b))):=by
 by_cases g:a<0
 .rw[show Gz a b=0 from Q9 (.inl g)];have d:=Zs (fP c (I 0) (.returned (I 0)) c) (⟨rfl,aM _ _⟩);generalize fP c (I 0)=f at *
  go_enter func90,ntmps90;go_wp2_with fail
  first|exact d|(go_ret;exact d)
 by_cases i:6<=b
 .rw[show Gz a b=0 from Q9 (.inr i)];have d:=Zs (fP c (I 0) (.returned (I 0)) c) (⟨rfl,aM _ _⟩);generalize fP c (I 0)=f at *
  go_enter func90,ntmps90;go_wp2_with fail
  first|exact d|(go_ret;exact d)
 rw[show Gz a b=z_ a b.toNat from nO];by_cases k:0<=b
 .obtain⟨e,rfl⟩:∃e:Nat,b=(e:Int):=⟨b.toNat,gO⟩;rw[Int.toNat_natCast];exact Ii a gO e gO c
 rw[show b.toNat=0 by omega];have e:min a 32767=z_ a 0:=by show min a 32767=(if 32767<a then 32767 else a);split<;>omega
 have j:(if 32767<a then 32767 else a)=z_ a 0:=rfl;have d:=Zs (fP c (I (z_ a 0)) (.returned (I (z_ a 0))) c) (⟨rfl,aM _ _⟩);generalize fP c (I (z_ a 0))=f at *
 generalize z_ a 0=m at *
 have l:b<=0:=gO;go_enter func90,ntmps90;go_wp2_with fail
 first|exact d|(go_ret;exact d)
def Vi (a c:Int)(g:W)(P:-9223372036854775808<=a)(Q:a<=9223372036854775807):Calls prog 120 #[.int .i64 a,.int .i64 c] g (fP g (.tuple #[.int .i64 (zk a),.int .i64 (IG a c)])):=by
 have⟨Y,Z⟩:=Fh a;have⟨D,E⟩:=agb a c;have s:=Zd λb=>jr ((zk a-32768)*Nt c) 15 gO gO gO b;rw[show(2:Int)^15=32768 by decide,show((15:Nat):Int)=15 from rfl,show(zk a-32768)*Nt c / 32768=IG a c from rfl]at s;have w:=Zs (∀b,g.grownBy b none->fP g (.tuple #[.int .i64 (zk a),.int .i64 (IG a c)]) (.returned (.tuple #[.int .i64 (zk a),.int .i64 (IG a c)])) b) (λb b=>⟨rfl,b⟩);generalize fP g (.tuple #[.int .i64 (zk a),.int .i64 (IG a c)])=X at *
 have n:=Zd<|dW g;have m:=Zd<|aj g iW none;rw[show iW=.cells #[.bool false,N] 113 from rfl]at n m;have u:=Zs ((a*31821+13849) % 65536=zk a) (rfl);have O:max c 0=(if c<0 then 0 else c):=by split<;>omega
 have C:min (max c 0) 32767=Nt c:=by unfold Nt;split<;>(try split)<;>omega
 have v:=Zd C;clear O C;generalize IG a c=aa at *
 generalize zk a=R at *
 go_enter func120,ntmps120;go_wp2_with fail;generalize M:g.alloc (.cells #[.bool false,N] 113)=wz at *
 generalize z:g.heap.size=o at *
 have r:=Zd z;clear M z;refine(eP a _ P Q).mono ?_;rintro j wa ⟨H,rfl,K,B,t⟩;have q:=Zd B;have n:=Zd<|bQ n t (by simp);have m:=Zd<|ay m t;clear B t K;go_wp2_with fail;refine(kN 31821 _ gO gO).mono ?_;rintro j wb ⟨J,rfl,p,l,b⟩;have i:=Zd l;have q:=Zd<|bP q b;have n:=Zd<|bQ n b (by simp);have m:=Zd<|ay m b;clear l b p;go_wp2_with fail;refine(jh o H J a 31821 _ n q i (by rw[P8];omega) (by rw[P8];omega)).mono ?_;rintro j wc ⟨rfl,f,k⟩;have d:=Zd f;have e:=Zd<|aG m k (by rw[r.out];exact Q6 _);clear f k q i n m;go_wp2_with fail;refine(kN 13849 _ gO gO).mono ?_;rintro j wd ⟨F,rfl,p,l,b⟩;have i:=Zd l;have d:=Zd<|bP d b;have e:=Zd<|ay e b;clear l b p;go_wp2_with fail;refine(kP o o F (a*31821) 13849 _ (dA d) d i (by rw[P8];omega) (by rw[P8];omega)).mono ?_;rintro j we ⟨rfl,f,k⟩;have e:=Zd<|aG e k (by rw[r.out];exact Q6 _);have d:=Zd f;clear f k i;go_wp2_with fail;refine(kN 65536 _ gO gO).mono ?_;rintro j wf ⟨G,rfl,p,l,b⟩;have i:=Zd l;have d:=Zd<|bP d b;have e:=Zd<|ay e b;clear l b p;go_wp2_with fail;refine(acu o o G (a*31821+13849) 65536 _ (dA d) d i gO gO gO gO).mono ?_;rintro j T ⟨rfl,f,k⟩;rw[u.out]at f;have e:=Zd<|aG e k (by rw[r.out];exact Q6 _);have I:=Zd<|oC o R T f gO gO;clear f k i d u;go_wp2_with fail;refine I.mono ?_;rintro j wh ⟨rfl,rfl⟩;clear I;have y:=Zd<|Je _ (Int.le_trans gO D) (Int.le_trans E gO);clear D E;go_wp2_with fail;rw[v.out,y.out];clear v y;refine(s _).mono ?_;rintro j U ⟨rfl,b⟩;have x:=Zd<|w U (ay e b);clear s w e b;go_wp2_with fail
 first|exact x|(go_ret2;exact x)
def iX.ah1 {a c:TypeId}{b':L}(b:iX w w' T a c l p r)(d:b'.length=p.length):bY (b_ w' (w.heap.size+1) b') (w.heap.size+1) a b'/\w.grownBy (b_ w' (w.heap.size+1) b') none:=by have:=bF (rs':=b') b.2.1 d;exact⟨this.1,aG b.2.2.2 this.2 gO⟩
def Zt (c:W)(a d e:TypeId)(b f g:L):iX c (((c.alloc (.cells (aF b) a)).alloc (.cells (aF f) d)).alloc (.cells (aF g) e)) a d e b f g:=by
 refine⟨((bY.new c a b).aC (aj _ _ none)).aC (aj _ _ none),?_,?_,ay (ay (aj _ _ none) (aj _ _ none)) (aj _ _ none)⟩
 .have:=(bY.new (c.alloc (.cells (aF b) a)) d f).aC (aj _ (.cells (aF g) e) none);simpa using this
 have:=bY.new ((c.alloc (.cells (aF b) a)).alloc (.cells (aF f) d)) e g;simpa using this
def Zu (b:L)(u:V)(c:L)(d:W)(J:b.length=80)(t:aY d u c)(l:c.length=40)(H:iI c):Calls prog 74 #[.agg (aF b),u] d (Dj d (Jk b c) (VI c)):=by
 have s:=Zd λwr (q:d.grownBy wr none)=>aR t q;obtain⟨U,X,rfl,hc,_⟩:=t;rw[l]at s ⊢;have C:=Zd<|Zt d 51 51 51 b (au 80) (au 80);have p:=Zd<|ak 80;have z:=Zd J;have B:=Zd l;have y:=Zd H;have F_:=Zd<|iP 80 (Qh b c);have hz:=fT z80;have x:=Zs (∀a,d.grownBy a none->Dj d (Jk b c) (VI c) (.returned (.tuple #[.agg (aF (yM b c)),I 0])) a) (λa q=>⟨by rw[(ji (h:=b) l).1,(ji (h:=b) l).2],q⟩);generalize Dj d (Jk b c) (VI c)=Q at *
 generalize au 80=k at *
 go_enter func74,ntmps74;go_upto_region 2 with fail;generalize ((d.alloc (.cells (aF b) 51)).alloc (.cells (aF k) 51)).alloc (.cells (aF k) 51)=R at *
 go_wp2_with fail;go_loopw [12] (λe wr=>∃(a:Nat) (g:L),e=I (a:Int)/\a<=80/\Hid (jF 80 (Qh b c) a g)/\Hid (iX d wr 51 51 51 b k g)) (λe _=>80-(intOf e).toNat)
 case atStart=>exact⟨0,k,rfl,QN _,F_,C⟩
 case round=>
  obtain⟨a,g,rfl,hm,r,f⟩:=hrel;by_cases F:a<80
  .have i1:(a:Int)<80:=gO;have rl:=r.1;have Y:=f.2.2.1.cell a gO;have fd:=f.2.2.1.free a;have j:=Zd<|eD r F;by_cases E:a<40
   .have M:(a:Int)<40:=gO;have e:=f.1.cell (a+40) (by rw[z.out];omega);have m:Qh b c a=aB b (a+40):=Q9 E;rw[m]at j;have o:=Zd<|f.Sz a (aB b (a+40));generalize aB b (a+40)=v at *
    generalize aB g a=O at *
    go_wp2;go_roundw
    case rel=>exact⟨a+1,_,by go_num,gO,j,o⟩
    case measure=>first|(simp[intOf];done)|(simp[intOf];omega)
   obtain⟨e,K⟩:∃e,a-40=e:=⟨_,rfl⟩;obtain⟨T,rfl,cx⟩:=kX (s wr f.2.2.2) e (by rw[B.out];omega);have w:=y e;have m:Qh b c a=fA (aB c e):=by unfold Qh;rw[nO,K]
   rw[m]at j;have D:=Zd<|qA (aB c e) wr w.1 w.2;have i:=Zd f;have M:¬(a:Int)<40:=gO;have i3:(a:Int)-40=(e:Int):=gO;have i4:(e:Int)<40:=gO;generalize aB c e=v at *
   generalize fA v=P at *
   go_wp2_with fail;refine D.mono ?_;rintro aa w1 ⟨rfl,G⟩;have n:=Zd<|i.aC G;have Z:=n.2.2.1.cell a gO;have ab:=n.2.2.1.free a;have o:=Zd<|n.Sz a P;generalize aB g a=O at *
   go_wp2;go_roundw
   case rel=>exact⟨a+1,_,by go_num,gO,j,o⟩
   case measure=>first|(simp[intOf];done)|(simp[intOf];omega)
  obtain rfl:a=80:=gO;rw[show((80:Nat):Int)=80 from rfl];have v:g=yM b c:=fB r;subst v;have j:=f.ah1 (b':=yM b c) (by rw[lG,p.out]);have o:=Zd j.1;have n:=Zd<|x _ j.2;have e:=Zd<|lG b c;have i:=Zd f;generalize yM b c=m at *
  go_wp2_with (first|refine lA i.2.2.1 (by rw[e.out];exact dU) ?_|refine sA m i.2.1 (by rw[e.out,p.out]) (by rw[p.out];exact dU) ?_);have w:=kU o (by rw[e.out];exact dU);refine QB (v:=.tuple #[.agg (aF m),I 0]) ?_ rfl n;simp[results,results74,asAddr,Act.put,w]
def aiJ (b:W)(e:Int)(L:List Int)(d:Ending)(c:W):Prop:=∃a,d=.returned (.tuple #[I e,a])/\fO b.heap.size c a L/\b.grownBy c none
def nU:∀(b:Nat) (a c:Int) (d:W),b<=1000->Qp a->Calls prog 89 #[I a,I c,I (b:Int)] d (aiJ d (rC a b) (yH a c b))
 | 0,a,c,d,_,g=>by
  have e:=Zs (aiJ d (rC a 0) (yH a c 0) (.returned (.tuple #[I a,.slice none 0 0])) d) (⟨_,rfl,bN _ _,aM _ _⟩);generalize aiJ d (rC a 0) (yH a c 0)=s at *
  rw[show((0:Nat):Int)=0 from rfl];go_enter func89,ntmps89;go_wp2_with fail;exact e
 | b+1,a,c,d,E,g=>by
  have q:=Zd<|Vi a c d g.1 g.2;have k:=Zd λi=>nU b (zk a) c i gO (by have:=Fh a;exact⟨gO,gO⟩);rw[Fu]at k;have e:=Zs (∀f g,fO d.heap.size g f (yH a c (b+1))->d.grownBy g none->aiJ d (rC a (b+1)) (yH a c (b+1)) (.returned (.tuple #[I (rC a (b+1)),f])) g) (λf g j g=>⟨f,rfl,j,g⟩);rw[Wu]at e;have G:(((b+1:Nat):Int)==0)=false:=beq_eq_false_iff_ne.2 gO;have F:((b+1:Nat):Int)-1=(b:Int):=gO;have y:=Zd<|qb (zk a) c b;have D:((b+1:Nat):Int)<=1000:=gO;rw[Wu];generalize aiJ d (rC a (b+1)) (IG a c::yH (zk a) c b)=s at *
  generalize yH (zk a) c b=L at *
  generalize rC a (b+1)=S at *
  generalize IG a c=f at *
  generalize zk a=H at *
  generalize ((b+1:Nat):Int)=N at *
  go_enter func89,ntmps89;go_wp2_with fail;refine q.mono ?_;rintro t i ⟨rfl,u⟩;have o:=Zd u;go_wp2_with fail;refine(k i).mono ?_;rintro t m ⟨J,rfl,l,v⟩;have j:=Zd<|ay o v;have p:=Zd<|aR l.ints (aj m (.cells #[I f] 3) none);have r:=Zd l.xJ;have x:=j.size;go_wp2_with (refine dH (by rfl) _ _ rfl d.heap.size _ _ [f] L rfl rfl (Ad m _ x f) p r (by have:=y.out;simp;omega) (by simp;omega) ?_);intro B C z w;have n:=Zd<|e B C z (gV (ay j (aj _ _ none)) w (λa a=>by simp[Value.ownBlock]at a;omega));go_wp2_with fail;exact n
def afJ (b:L)(a:Nat)(c:a<b.length):b.take (a+1)=b.take a++[aB b a]:=by rw[List.take_add_one,KM c];simp[aB,List.getD,c]
def Zv (a:List Int)(d c:Int)(ac:Value)(f:List Int)(i:World)(F:a.length=80)(ab:iI a)(hv:aY i ac f)(Z:iI f)(w:VH d c f):Calls prog 73 #[.agg (aF a),I d,I c,ac] i (gP i (Df a d c f) (B_ d c f)):=by
 have⟨G,⟨H,J⟩,g0,g9⟩:=id w;have s:=Zd λwr (q:i.grownBy wr none)=>aR hv q;obtain⟨ad,aa,rfl,E,_⟩:=hv;rw[G]at s ⊢;obtain⟨pe,pl⟩:Fj d=0/\(lW a d).length=40:=by
  unfold Fj lW;rw[Q9 ⟨H,J⟩,Q9 ⟨H,J⟩];exact⟨rfl,mR _ _⟩
 have C:=Zd λj=>zU a F d j;rw[pe]at C;have X:=Zd (show iI (lW a d)from λg=>by
  unfold lW;rw[Q9 ⟨H,J⟩];by_cases b:g<40
  .rw[show aB (kW a d.toNat) g=BG a d.toNat g from dP _ _ _ b];exact ab _
  rw[dI _ g (by rw[mR];omega)];omega)
 have O:=Zs (∀b j,fO i.heap.size j b (Wt (lW a d) c f)->i.grownBy j none->gP i (Df a d c f) (B_ d c f) (.returned (.tuple #[b,I 0])) j) (λb j m q=>⟨b,by rw[(kL (h:=a) w).2],by rw[(kL (h:=a) w).1];exact m,q⟩);have B:=Zd<|Jj (lW a d) c f;have R:=Zd λb (hm:b<40)=>ac5 (lW a d) c f b hm;have M:=Zd<|bY.new i 51 a;have P:=Zd<|aj i (.cells (aF a) 51) none;have Q:=Zd Z;have BL:=Zd G;have t:=Zd pl;have Y:=Zs ((prog.info? 51).map (·.size)=some a.length) (by rw[F];exact dU);have D:=Zd λ(e:Int) (ag:World) (af:-9223372036854775808<=e) (q:e<=9223372036854775807)=>qA e ag af q;clear G w F ab Z pe pl E;generalize gP i (Df a d c f) (B_ d c f)=ah at *
 generalize hL:Wt (lW a d) c f=L at *
 clear hL;generalize lW a d=V at *
 go_enter func73,ntmps73;go_upto_region 1 with fail;generalize i.alloc (.cells (aF a) 51)=W0 at *
 go_wp2_with (refine lA M Y ?_);refine(C W0).mono ?_;rintro v l ⟨v2,rfl,K,p⟩;obtain⟨gv,am,rfl,_,_,_⟩:=K.form (by rw[t.out];omega);have k:=Zd<|ay P p;have U:=Zd K;clear K p C M P Y;rw[t.out]at U ⊢;go_wp2_with fail;go_loopw [12,39] (λm g wr=>∃b:Nat,g=I (b:Int)/\b<=40/\Hid (fO l.heap.size wr m (L.take b)/\l.grownBy wr none)) (λ_ g _=>40-(intOf g).toNat)
 case atStart=>exact⟨0,rfl,QN _,by rw[List.take_zero];exact bN _ _,aM _ _⟩
 case round=>
  obtain⟨b,rfl,hm,n⟩:=hrel;by_cases u:b<40
  .have i1:(b:Int)<40:=gO;have cv:=U.cell t.symm b (by rw[t.out];exact u);obtain⟨ai,rfl,cb⟩:=kX (s l k) b (by rw[BL.out];exact u);have⟨x1,x2⟩:=X b;have⟨y1,y2⟩:=Q b;have r:=Zd<|afJ L b (by rw[B.out];exact u);rw[R.out b u]at r;unfold tJ at r;have bx:=mq (aB V b);have al:=mq (aB f b);have bg:-1073709056<=fA (aB V b)*c/\fA (aB V b)*c<=1073741824:=uf _ _ bx.1 bx.2 gO g9;clear s X Q R;generalize aB V b=e at *
   generalize aB f b=m at *
   have W1:=eG (fA e*c) gO gO;have ae:=eG (fA e*c+8192) gO gO;have W3:=eG ((fA e*c+8192) / 16384+fA m) gO gO;go_upto_region 10 with fail;refine wp_region_held_drew (S:=dB l) (by kernel_rfl) (aX n.2 (bB (aM _ none))) λa=>?_;have g:=Zd<|n.1.aC (bB (aM wr none));clear n;generalize wr.drew=wd at *
   refine aV 0 a ?_;refine aV 1 a ?_;refine aV 2 a ?_;refine aV 3 a ?_;refine aV (hy:=by intro j o;have cc:=aU o cv;go_simp;(try with_reducible rfl)) (v:=I e) 4 a ?_;refine aV 6 a ?_;refine aV 10 a ?_;refine aV 11 a ?_;refine aV 12 a ?_;refine aV (hy:=by intro j o;have cc:=aU o cb;go_simp;(try with_reducible rfl)) (v:=I m) 13 a ?_;refine eU 5 λf d=>?_;(try simp only[sZ]);go_simp;refine(D e _ x1 x2).mono ?_;rintro v w1 ⟨rfl,g1⟩;have x:=Zd g1;clear g1;go_wp2_with fail;refine d.out _ _ (aX a x) λa=>?_;clear d;(try simp only[sZ]);replace g:=Zd<|g.aC x;clear x;refine aV (hy:=by intro j o;go_simp;(try simp only[W1])) (v:=I (fA e*c)) 7 a ?_;refine aV (hy:=by intro j o;go_simp;(try simp only[ae])) (v:=I (fA e*c+8192)) 8 a ?_;refine eU 9 λf d=>?_;(try simp only[sZ]);go_simp;refine(jr (fA e*c+8192) 14 gO gO gO _).mono ?_;rintro v w2 ⟨rfl,p⟩;have k:=Zd p;clear p;rw[show((2:Int)^14)=16384 from rfl];go_wp2_with fail;refine d.out _ _ (aX a k) λa=>?_;clear d;(try simp only[sZ]);replace g:=Zd<|g.aC k;clear k;refine eU 14 λf d=>?_;(try simp only[sZ]);go_simp;refine(D m _ y1 y2).mono ?_;rintro v w3 ⟨rfl,g3⟩;have y:=Zd g3;clear g3;go_wp2_with fail;refine d.out _ _ (aX a y) λa=>?_;clear d;(try simp only[sZ]);replace g:=Zd<|g.aC y;clear y;refine aV (hy:=by intro j o;go_simp;(try simp only[W3])) (v:=I ((fA e*c+8192) / 16384+fA m)) 15 a ?_;refine eU 16 λf d=>?_;(try simp only[sZ]);go_simp;refine(D ((fA e*c+8192) / 16384+fA m) _ gO gO).mono ?_;rintro v w4 ⟨rfl,g4⟩;have z:=Zd g4;clear g4;go_wp2_with fail;refine d.out _ _ (aX a z) λa=>?_;clear d;(try simp only[sZ]);replace g:=Zd<|g.aC z;clear z;refine eU 17 λf d=>?_;(try simp only[sZ]);go_simp;go_wp2_with fail;refine d.out _ _ (dZ a _) λa=>?_;clear d;(try simp only[sZ]);replace g:=Zd<|g.aC (aj w4 (.cells #[I (fA ((fA e*c+8192) / 16384+fA m))] 3) none);refine eU 18 λf d=>?_;(try simp only[sZ]);refine XG rfl _ _ rfl l.heap.size _ _ (L.take b) [fA ((fA e*c+8192) / 16384+fA m)] rfl rfl g (uj w4 _) (by simp) (by have:=B.out;simp;omega) (by have:=a.size;simpa using this) ?_;intro v5 w5 o5 g5 _;have T:=Zd o5;clear o5;refine d.out _ _ (gV a g5 (λaa E=>(g.lt aa E).1)) λa=>?_;clear d;(try simp only[sZ]);clear g5 g;refine aV 19 a ?_;refine jX ?_;have NN:=Zs (fO l.heap.size w5 v5 (L.take (b+1))/\l.grownBy w5 none) (⟨by rw[r.out];exact T,a⟩);clear T a r;go_wp2_with fail;go_roundw
   case rel=>exact⟨b+1,by go_num,gO,NN⟩
   case measure=>first|(simp[intOf];done)|(simp[intOf];omega)
  obtain rfl:b=40:=gO;rw[show((40:Nat):Int)=40 from rfl];have g:=Zd<|O _ _ (by have:=n.1;rw[K3 (by rw[B.out];omega)]at this;exact this.base k.size) (ay k n.2);clear n O s;go_wp2_with fail;exact g
def PI (a:L)(b:Bool)(o:a.length=101)(K:iI a)(g:bJ a=true)(c:W):Calls prog 83 #[bL a b] c (fu c (Cy a) (siS a b) (Cz a) (siE a)):=by
 have z:=Zd<|kT.new c a b;have q:=Zd λd=>fH a b o K d;rw[g]at q;have C:=Zd λd=>nU 40 (aB a 100) 8 d gO (K 100);rw[show((40:Nat):Int)=40 from rfl]at C;have y:=Zd λe d (hv:aY d e (yH (aB a 100) 8 40))=>Zu (bM a 16 80) e (yH (aB a 100) 8 40) d (aT _ _ _) hv (qb _ _ _) (qD (wM _ _ _));rw[(ji (h:=bM a 16 80) (qb (aB a 100) 8 40)).1,(ji (h:=bM a 16 80) (qb (aB a 100) 8 40)).2]at y;have r:=Zd<|lG (bM a 16 80) (yH (aB a 100) 8 40);have w:=Zd (show ∀d e,fO c.heap.size e d (yH (aB a 100) 8 40)->c.grownBy e none->fu c (Cy a) (siS a b) (Cz a) (siE a) (.returned (.tuple #[bL (jd (a.set 100 (rC (aB a 100) 40)) 16 (yM (bM a 16 80) (yH (aB a 100) 8 40))) b,d,I 0])) e from λd e e f=>
  ⟨d,by rw[(oG (s:=b) g).1,(oG (s:=b) g).2.1,(oG (s:=b) g).2.2.2];unfold memT siX;rw[set_self a 99 gO],by rw[(oG (s:=b) g).2.2.1];exact e,f⟩)
 have PS:=Zd λd=>iZ a 100 d 16 80 gO (.inr gO);have k:=Zd o;have Q:=Zd<|aJ o b;have O:=Zd<|bU.all b o;have ZL:=Zd<|aJ (ak 101) false;have hz:=dM;generalize fu c (Cy a) (siS a b) (Cz a) (siE a)=ac at *
 unfold bL at hz w q ⊢;generalize yH (aB a 100) 8 40=N at *
 generalize rC (aB a 100) 40=e at *
 go_enter func83,ntmps83;go_upto_region 1 with fail;generalize (c.alloc (.cells (aP a b).toArray 53)).alloc (.cells (aP (au 101) false).toArray 53)=W0 at *
 go_wp2_with (refine lV 0 z.1 aK (by rw[Q.out];omega) O ?_);refine(q W0).mono ?_;rintro H u ⟨rfl,g1⟩;have m:=Zd<|z.aC g1;have aa:=m.1.cell 100 (by rw[k.out];omega);have P:=Zs (c.heap.size<=u.heap.size) (m.2.2.size);generalize aB a 100=ae at *
 go_wp2_with fail;refine(C u).mono ?_;rintro H G ⟨v2,rfl,o2,g2⟩;have s:=Zd<|m.aC g2;have aa:=s.1.cell 100 (by rw[k.out];omega);have ad:=s.1.free 100;have p:=Zs (c.heap.size+1<u.heap.size) (m.2.1.lt);have B:=Zd<|s.set 100 e (by rw[k.out];omega);have D:=Zd<|o2.bH (aD G (A c.heap.size 100) (I e)) (by have:=p.out;simp;omega);go_upto_region 5 with fail;generalize G.setCell (A c.heap.size 100) (I e)=W3 at *
 have f:=Zs ((a.set 100 e).length=101) (by rw[XB];exact k);have E:=Zd<|bU.part (l:=a.set 100 e) b 16 80 (by rw[f.out];omega);rw[PS.out]at E;have v:=Zd<|aJ f b;have U:=Zd<|y v2 W3 D.ints;go_wp2_with (first|refine lV 16 B.1 dU (by rw[v.out];omega) E ?_);refine U.mono ?_;rintro H W4 ⟨rfl,J⟩;have t:=Zd<|B.aC J;have X:=Zd<|D.aC J;generalize yM (bM a 16 80) N=d at *
 have n:=Zd<|t.put 16 d (by rw[r.out,f.out];omega);have Y:=Zd<|X.bH (t.1.put 16 d (by rw[r.out,f.out];omega)).2 (by have:=p.out;omega);have T:=Zd<|dO d;have x:=Zs ((aQ d).length=80) (by rw[aN];exact r);go_upto_region 6 with(first|refine sV 16 (aQ d) t.1 (by rw[x.out,v.out];omega) (by rw[x.out];exact dU) T ?_);(try simp only[Act.put]);generalize dz W4 c.heap.size 16 (aQ d)=W5 at *
 have l:=Zs ((jd (a.set 100 e) 16 d).length=101) (by rw[dV];exact f);generalize jd (a.set 100 e) 16 d=i at *
 have M:=Zd<|bU.all b l;have j:=Zd<|aJ l b;have ON:=Zd<|bO i b;have F:=Zd<|n.fin i b l;have Z:=Zd<|Y.bH (n.2.1.dQ (m:=i) (t:=b) (ak 101) l).2 p;have R:=Zd<|w _ _ (Z.base P) F.2;go_wp2_with (first|refine lV 0 n.1 aK (by rw[j.out];omega) M ?_|refine sV 0 (aP i b) n.2.1 (by rw[ZL.out,j.out];omega) (by rw[j.out];exact aK) ON ?_);have ab:=qG F.1 (by rw[j.out];exact aK);refine QB (v:=.tuple #[.agg (aP i b).toArray,_,I 0]) ?_ rfl R;simp[results,results83,asAddr,Act.put,ab]
def GI (a:L)(c:Bool)(b:Int)(s:a.length=101)(Y:iI a)(v:bJ a=true)(aC:0<=b)(aE:b<=1)(e:W):Calls prog 36 #[bL a c,I b] e (fu e (nD a b) (yN a b c) (nN a b) (yO a b)):=by
 have J:=Zd<|kT.new e a c;have G:=Zd λd=>fH a c s Y d;have D:Et a b:=⟨v,gO,gO⟩;have EB:=Ca a b v;rw[v]at G;have a6:¬b<0:=gO;have a7:¬1<b:=gO;obtain⟨a4,a5⟩:0<=aB a 99/\aB a 99<=6:=(g_ a).1 v 99 gO;obtain⟨f,r⟩:∃f,Qv a b=f:=⟨_,rfl⟩;obtain⟨C,Z⟩:∃C,Gz (aB a 96) f=C:=⟨_,rfl⟩;obtain⟨X,aa⟩:∃X,Gz (aB a 97) f=X:=⟨_,rfl⟩;obtain⟨p,ab⟩:∃p,C / 4=p:=⟨_,rfl⟩;have Q:=Zd λd=>nU 40 (aB a 100) p d gO (Y 100);rw[show((40:Nat):Int)=40 from rfl]at Q;have EZ:yH (aB a 100) p 40=xQ a b:=by unfold xQ;rw[r,Z,ab]
 rw[EZ]at Q;have y:=Fv a b v;rw[r,aa]at y;have P:=Zd (λg d (hv:aY d g (xQ a b))=>Zv (bM a 16 80) (aB a 98) X g (xQ a b) d (aT _ _ _) (λi=>by
  by_cases j:i<80
  .rw[fV _ _ _ _ j];exact Y _
  rw[dI _ i (by rw[aT];omega)];omega) hv (qD (wM _ _ _)) y)
 rw[(kL (h:=bM a 16 80) y).1,(kL (h:=bM a 16 80) y).2]at P;have EX:Wt (lW (bM a 16 80) (aB a 98)) X (xQ a b)=rM a b:=by unfold rM;rw[r,aa]
 rw[EX]at P;have KP:=Zd λg d (hv:aY d g (rM a b))=>Zu (bM a 16 80) g (rM a b) d (aT _ _ _) hv (jk a b) (qD (wL _ _ _));rw[(ji (h:=bM a 16 80) (jk a b)).1,(ji (h:=bM a 16 80) (jk a b)).2]at KP;have KL:=Zd<|lG (bM a 16 80) (rM a b);obtain⟨d,ae⟩:∃d,a.set 99 f=d:=⟨_,rfl⟩;have m:d=a.set 99 f:=ae.symm;obtain⟨q,ac⟩:∃q,decide (b=0/\aB a 99<6)=q:=⟨_,rfl⟩;have TB:=Zd ac;have ET:=Zs (q=true->f=aB a 99+1) (λg=>by rw[<-r];unfold Qv;rw[Q9 (of_decide_eq_true (ac.trans g))]);have EF:=Zs (q=false->f=aB a 99) (λg=>by rw[<-r];unfold Qv;rw[X9 (of_decide_eq_false (ac.trans g))]);clear ac;have ad:=Zd (show ∀i k,fO e.heap.size k i (rM a b)->e.grownBy k none->fu e (nD a b) (yN a b c) (nN a b) (yO a b) (.returned (.tuple #[bL (jd (d.set 100 (rC (aB a 100) 40)) 16 (yM (bM a 16 80) (rM a b))) c,i,I 0])) k from λi k j g=>
  ⟨i,by rw[(iJ (s:=c) D).1,(iJ (s:=c) D).2.1,(iJ (s:=c) D).2.2.2];unfold memT;rw[r,m],by rw[(iJ (s:=c) D).2.2.1];exact j,g⟩)
 have i:=Zs (d.length=101) (by rw[m,XB];exact s);have ap:=Zs (aB d 96=aB a 96) (by rw[m,iM _ _ _ gO,X9 gO]);have aq:=Zs (aB d 97=aB a 97) (by rw[m,iM _ _ _ gO,X9 gO]);have ar:=Zs (aB d 98=aB a 98) (by rw[m,iM _ _ _ gO,X9 gO]);have af:=Zs (aB d 99=f) (by rw[m,iM _ _ _ gO,Q9 rfl]);have am:=Zs (aB d 100=aB a 100) (by rw[m,iM _ _ _ gO,X9 gO]);have PS:=Zs (bM d 16 80=bM a 16 80) (by rw[m];exact iZ a 99 _ 16 80 gO (.inr gO));have ai:=Zd λg=>iZ d 100 g 16 80 (by rw[i.out];omega) (.inr gO);have CL:=Zd<|aJ s c;have AL:=Zd<|bU.all c s;have C1:=Zd<|aJ i c;have P1:=Zd<|bU.part (l:=d) c 16 80 (by rw[i.out];omega);rw[PS.out]at P1;have ZL:=Zd<|aJ (ak 101) false;have HL:=Zd s;have fb:=Bv (aB a 96) f;rw[Z]at fb;have av:=Zd Z;have aw:=Zd aa;have a0:C.tdiv 4=p:=by rw[YS fb.1];exact ab
 have a1:C / 4=p:=ab;have ax:=eG p gO gO;have hz:=dM;have ag:=Zd ae;have U:=J.1.cell 99 (by rw[s];omega);clear v Y s r Z aa ab EZ EX y D m ae fb U aC aE EB;generalize fu e (nD a b) (yN a b c) (nN a b) (yO a b)=a3 at *
 unfold bL at hz ad G ⊢;generalize rM a b=az at *
 generalize xQ a b=N at *
 generalize rC (aB a 100) 40=t at *
 generalize aB a 100=a2 at *
 generalize aB a 96=g0 at *
 generalize aB a 97=p0 at *
 generalize aB a 98=lg at *
 go_enter func36,ntmps36;go_upto_region 1 with fail;generalize (e.alloc (.cells (aP a c).toArray 53)).alloc (.cells (aP (au 101) false).toArray 53)=W0 at *
 clear hz;go_wp2_with (refine lV 0 J.1 aK (by rw[CL.out];omega) AL ?_);refine(G W0).mono ?_;rintro B R ⟨rfl,g1⟩;have x:=Zd<|J.aC g1;have U:=x.1.cell 99 (by rw[HL.out];omega);have an:=x.1.free 99;clear J g1 G;go_upto_region 3 with fail;go_cut [29]from 23 (λg l=>g=.bool q/\l=R)
 case first=>
  by_cases g:b=0
  .have n:(b==0)=true:=beq_iff_eq.2 g;have j:decide (aB a 99<6)=q:=by rw[<-TB.out];simp[g]
   go_wp2_with fail;go_meet;exact⟨by rw[<-j],rfl⟩
  have n:(b==0)=false:=beq_eq_false_iff_ne.2 g;have j:q=false:=by rw[<-TB.out];simp[g]
  go_wp2_with fail;go_meet;exact⟨by rw[j],rfl⟩
 case rest=>
 obtain⟨rfl,g⟩:=hcut;obtain rfl:R=wc:=g.symm;clear g;go_upto_if 29 with fail;go_cut []from 23 (λl=>kT e d c l)
 case first=>
  rcases q with _|_
  .have n:=Zs (kT e d c R) (by rw[<-ag.out,EF.out rfl,set_self a 99 (by rw[HL.out];omega)];exact x);clear U an;go_wp2_with fail;go_meet;exact n
  have n:=Zs (kT e d c (R.setCell ⟨e.heap.size,99,none⟩ (I (aB a 99+1)))) (by rw[<-ag.out,ET.out rfl];exact x.set 99 (aB a 99+1) (by rw[HL.out];omega));go_wp2_with fail;go_meet;exact n
 case rest=>
 obtain⟨T,ao⟩:∃T,wc=T:=⟨_,rfl⟩;rw[ao]at hcut ⊢;have n:=Zd hcut;clear hcut ao U an x ET EF TB;go_upto_region 5 with fail;have B2:=Zs (e.heap.size+1<T.heap.size) (n.2.1.lt);refine wp_region_held_drew (S:=dB T) (by kernel_rfl) (aS _) λb=>?_;refine aV 0 b ?_;refine aV (hy:=by intro k g;have l:=(n.1.aC g).cell 100 (by rw[i.out];omega);rw[am.out]at l;go_simp;(try with_reducible rfl)) (v:=I a2) 1 b ?_;refine aV 2 b ?_;refine aV (hy:=by intro k g;have l:=(n.1.aC g).cell 96 (by rw[i.out];omega);rw[ap.out]at l;go_simp;(try with_reducible rfl)) (v:=I g0) 3 b ?_;refine aV 4 b ?_;refine aV (hy:=by intro k g;have l:=(n.1.aC g).cell 99 (by rw[i.out];omega);rw[af.out]at l;go_simp;(try with_reducible rfl)) (v:=I f) 5 b ?_;refine eU 6 λo m=>?_;(try simp only[sZ]);go_simp;refine(pE g0 f _).mono ?_;rintro B w1 ⟨rfl,q1⟩;have Q1:=Zd q1;clear q1;rw[av.out];go_wp2_with fail;refine m.out _ _ (aX b Q1) λb=>?_;clear m;(try simp only[sZ]);clear Q1;refine aV (hy:=by intro k g;go_simp;(try simp only[a0,a1,ax])) (v:=I p) 7 b ?_;refine eU 8 λo m=>?_;(try simp only[sZ]);go_simp;refine(Q _).mono ?_;rintro B w2 ⟨v2,rfl,o2,q2⟩;have Q2:=Zd q2;have O2:=Zd<|o2.base b.size;clear q2 o2;go_wp2_with fail;refine m.out _ _ (aX b Q2) λb=>?_;clear m;(try simp only[sZ]);clear Q2;refine aV 9 b ?_;refine aV 10 b ?_;refine aV 11 b ?_;refine aV 12 b ?_;refine aV 13 b ?_;refine jX ?_;have j:=Zd<|n.aC b;have u:=Zd O2;clear n O2 b Q;go_upto_region 6 with fail;refine wp_region_held_drew (S:=dB w2) (by kernel_rfl) (aS _) λb=>?_;refine aV 0 b ?_;refine aV (hy:=by intro k g;exact bS rfl rfl (j.1.aC g) _ underlying51 rfl dU (by rw[C1.out];omega) _ P1) (v:=.agg (aQ (bM a 16 80)).toArray) 1 b ?_;refine aV 2 b ?_;refine aV (hy:=by intro k g;have l:=(j.1.aC g).cell 98 (by rw[i.out];omega);rw[ar.out]at l;go_simp;(try with_reducible rfl)) (v:=I lg) 3 b ?_;refine aV 4 b ?_;refine aV (hy:=by intro k g;have l:=(j.1.aC g).cell 97 (by rw[i.out];omega);rw[aq.out]at l;go_simp;(try with_reducible rfl)) (v:=I p0) 5 b ?_;refine aV 6 b ?_;refine aV (hy:=by intro k g;have l:=(j.1.aC g).cell 99 (by rw[i.out];omega);rw[af.out]at l;go_simp;(try with_reducible rfl)) (v:=I f) 7 b ?_;refine aV 9 b ?_;refine eU 8 λo m=>?_;(try simp only[sZ]);go_simp;refine(pE p0 f _).mono ?_;rintro B w3 ⟨rfl,q3⟩;have Q3:=Zd q3;clear q3;rw[aw.out];go_wp2_with fail;refine m.out _ _ (aX b Q3) λb=>?_;clear m;(try simp only[sZ]);clear Q3;refine eU 10 λo m=>?_;(try simp only[sZ]);go_simp;refine(P v2 _ (u.aC b).ints).mono ?_;rintro B w4 ⟨v4,rfl,o4,q4⟩;have Q4:=Zd q4;have z:=Zd<|o4.base b.size;clear q4 o4;go_wp2_with fail;refine m.out _ _ (aX b Q4) λb=>?_;clear m;(try simp only[sZ]);clear Q4;refine aV 11 b ?_;refine aV 12 b ?_;refine aV 13 b ?_;refine aV 14 b ?_;refine aV 15 b ?_;refine jX ?_;have M:=Zd<|j.aC b;have ah:=Zd z;have BL:=Zs (e.heap.size+1<w2.heap.size) (j.2.1.lt);have B1:=Zs (e.heap.size<=w2.heap.size) (j.2.2.size);clear j u z b P;have al:=M.1.cell 100 (by rw[i.out];omega);have aA:=M.1.free 100;have j:=Zd<|M.set 100 t (by rw[i.out];omega);have u:=Zd<|ah.out.bH (aD w4 ⟨e.heap.size,100,none⟩ (I t)) (by have:=BL.out;simp;omega);rw[am.out]at al;clear M ah;go_upto_region 8 with fail;clear al aA;generalize w4.setCell ⟨e.heap.size,100,none⟩ (I t)=W3 at *
 have w:=Zs ((d.set 100 t).length=101) (by rw[XB];exact i);have P3:=Zd<|bU.part (l:=d.set 100 t) c 16 80 (by rw[w.out];omega);rw[ai.out,PS.out]at P3;have C3:=Zd<|aJ w c;have KK:=Zd<|KP v4 W3 u.ints;clear KP PS ai;go_wp2_with (first|refine lV 16 j.1 dU (by rw[C3.out];omega) P3 ?_);refine KK.mono ?_;rintro B W4 ⟨rfl,g4⟩;have K:=Zd<|j.aC g4;have z:=Zd<|u.aC g4;clear KK j u g4 P3;generalize yM (bM a 16 80) az=o at *
 have O:=Zd<|K.put 16 o (by rw[KL.out,w.out];omega);have O5:=Zd<|z.bH (K.1.put 16 o (by rw[KL.out,w.out];omega)).2 (by have:=BL.out;omega);have I_:=Zd<|dO o;have IL:=Zs ((aQ o).length=80) (by rw[aN];exact KL);clear z;go_upto_region 9 with(first|refine sV 16 (aQ o) K.1 (by rw[IL.out,C3.out];omega) (by rw[IL.out];exact dU) I_ ?_);(try simp only[Act.put]);clear K I_ IL C3;generalize dz W4 e.heap.size 16 (aQ o)=W5 at *
 have H:=Zs ((jd (d.set 100 t) 16 o).length=101) (by rw[dV];exact w);generalize jd (d.set 100 t) 16 o=E at *
 have A5:=Zd<|bU.all c H;have F:=Zd<|aJ H c;have ON:=Zd<|bO E c;have PB:=Zd<|O.fin E c H;have O6:=Zd<|O5.bH (O.2.1.dQ (m:=E) (t:=c) (ak 101) H).2 BL;have FF:=Zd<|ad _ _ (O6.base B1) PB.2;clear ad O5 O6;go_wp2_with (first|refine lV 0 O.1 aK (by rw[F.out];omega) A5 ?_|refine sV 0 (aP E c) O.2.1 (by rw[ZL.out,F.out];omega) (by rw[F.out];exact aK) ON ?_);have aH:=qG PB.1 (by rw[F.out];exact aK);refine QB (v:=.tuple #[.agg (aP E c).toArray,_,I 0]) ?_ rfl FF;simp[results,results36,asAddr,Act.put,aH]
def MN (c:L)(hp:c.length=8)(n:V)(b:L)(f:W)(u:aY f n b)(M:b.length<=1000000000000000000):Calls prog 77 #[.agg (aF c),n] f (fP f (.agg (aF (qH c b)))):=by
 obtain⟨F,G,rfl,K,t⟩:=u;have k:=Zd<|oQ f 50 50 50 c (au 8) (au 8);rw[uR]at k;have r:=Zd t;go_enter func77,ntmps77;go_wp2_with fail;have s:=Zs (iX f _ 50 50 50 c (au 8) (au 8)) (k);generalize ((f.alloc (.cells (aF c) 50)).alloc _).alloc _=D at *
 go_loopw [7] (λe wr=>∃(a:Nat) (d:L),e=I a/\a<=8/\Hid (jF 8 (λe=>aB (mE c b) e) a d)/\Hid (iX f wr 50 50 50 c (au 8) d)) (λe _=>8-(intOf e).toNat)
 case atStart=>exact⟨0,au 8,rfl,QN _,⟨ak 8,λe e=>gO⟩,s⟩
 case round=>
  obtain⟨a,d,rfl,O,i,e⟩:=hrel;by_cases w:a<8
  .have g:d.length=8:=i.1;have l:=Zd<|eD i w;have H:=e.2.2.1.cell a gO;have J:=e.2.2.1.free a;have m:=Zd<|e.Sz a (aB (mE c b) a);by_cases q:a<b.length
   .obtain⟨E,rfl,v⟩:=r gO;have j:=aU e.2.2.2 (v (b.length-1-a) gO);rw[<-Jg c b a q]at j;have p:(b.length:Int)-1-(a:Int)=((b.length-1-a:Nat):Int):=gO;generalize aB (mE c b) a=B at *
    generalize aB d a=C at *
    have z:b.length-1-a<b.length:=gO;generalize b.length-1-a=o at *
    have x:(a:Int)<8:=gO;have y:(a:Int)<b.length:=gO;go_wp2;go_roundw
    case rel=>exact⟨a+1,_,by go_num,gO,l,m⟩
    case measure=>simp[intOf];omega
   have j:=e.1.cell (a-b.length) gO;rw[<-Ta c b a gO]at j;have p:(a:Int)-(b.length:Int)=((a-b.length:Nat):Int):=gO;generalize aB (mE c b) a=B at *
   generalize aB d a=C at *
   have z:a-b.length<8:=gO;have x:(a:Int)<8:=gO;have y:¬(a:Int)<b.length:=gO;generalize a-b.length=o at *
   go_wp2;go_roundw
   case rel=>exact⟨a+1,_,by go_num,gO,l,m⟩
   case measure=>simp[intOf];omega
  obtain rfl:a=8:=gO;have g:d.length=8:=i.1;have o:=Zs (qH c b=d) ((fB i).symm);have m:=Zd e.2.2.1;have j:=Zd e.2.1;have q:=Zd e.2.2.2;go_wp2_with (first|refine lA m (by rw[g];exact bG) ?_|refine sA d j (by rw[g,ak]) (by rw[ak];exact bG) ?_);have l:=bF (rs':=d) j (by rw[g,ak]);have v:=kU l.1 (by rw[g];exact bG);have p:=Zd<|aG q l.2 gO;refine QB (v:=.agg (aF d)) ?_ rfl ?_
  .simp[results,results77,asAddr,Act.put,v]
  rw[o.out];exact⟨rfl,p⟩
def yJ (a d:L)(u:a.length=9)(hp:d.length=8)(o:V)(f:L)(e:W)(n:aY e o f)(C:f.length<=1000000000000000000):Calls prog 75 #[.agg (aF a),.agg (aF d),o] e (fP e (.bool (okF a d f))):=by
 have p:=Zd<|nI e 69 50 a d;have y:=Zd λwr (B:e.grownBy wr none)=>cO o f wr (aR n B) C;have x:=Zd λc i=>gF a underlying69 c i u;go_enter func75,ntmps75;go_wp2_with (refine lA p.1 (by rw[u];exact bZ) ?_);have k:=Zs (jc e _ 69 50 a d) (p);generalize (e.alloc (.cells (aF a) 69)).alloc _=r at *
 go_loop [10] (λg=>∃b:Nat,g=I b/\b<=9/\Hid (∀c,c<b->-1048576<=aB a c/\aB a c<=1048576)) (λg=>9-(intOf g).toNat)
 case atStart=>exact⟨0,rfl,QN _,λc i=>gO⟩
 case round=>
  obtain⟨b,rfl,E,t⟩:=hrel;by_cases F:b<9
  .have v:=x b gO;have s:(b:Int)<9:=gO;by_cases j:-1048576<=aB a b/\aB a b<=1048576
   .have m:=Zd (show ∀c,c<b+1->-1048576<=aB a c/\aB a c<=1048576 from λc i=>by
     by_cases n:c=b
     .subst n;exact j
     exact t c gO)
    have⟨c,i⟩:=j;generalize aB a b=l at *
    go_wp2_with fail;go_round
    case rel=>exact⟨b+1,by go_num,gO,m⟩
    case measure=>simp[intOf];omega
   have i:=Zd (show okF a d f=false from by
    have:pY a=false:=by
     rcases hb:pY a with _|_
     .rfl
     exact absurd ((jZ a).1 hb b gO) j
    unfold okF;rw[this];rfl)
   generalize aB a b=l at *
   have c:=Zd k.2.2;by_cases m:l < -1048576
   .go_wp2_with fail;go_ret;exact⟨by rw[i.out];rfl,c⟩
   have q:1048576<l:=gO;go_wp2_with fail;go_ret;exact⟨by rw[i.out];rfl,c⟩
  obtain rfl:b=9:=gO;have z:=Zs (pY a=true) ((jZ a).2 (λg b=>t g gO));have D:=k.1.cell 0 gO;have m:=Zd (cO (.slice (S (e.heap.size+1)) 8 8) d r (by
   refine⟨some (A (e.heap.size+1) 0),8,by rw[hp],gO,λ_=>⟨_,rfl,λg b=>?_⟩⟩;rw[Addr.add_mid,WT];exact k.2.1.cell g b) gO)
  have q:=Zd<|y r k.2.2;have c:=Zd k.2.2;have i:=Zs (okF a d f=(decide (aB a 0=4096)&&aL d&&aL f)) (by unfold okF;rw[z.out];rfl);generalize aB a 0=l at *
  by_cases j:l=4096
  .subst j;rcases hr:aL d with _|_
   .rw[hr]at m;have g:=Zd hr;go_wp2_with fail;refine m.mono ?_;rintro s v ⟨rfl,rfl⟩;go_wp2_with fail;go_ret;exact⟨by rw[i.out,g.out];rfl,c⟩
   rw[hr]at m;have g:=Zd hr;rcases hs:aL f with _|_
   all_goals
    rw[hs]at q;have w:=Zd hs;go_wp2_with fail;refine m.mono ?_;rintro s v ⟨rfl,rfl⟩;go_wp2_with fail;refine q.mono ?_;rintro s v ⟨rfl,rfl⟩;go_wp2_with fail;go_ret;exact⟨by rw[i.out,g.out,w.out];rfl,c⟩
  have g:=Zd<|KF j;go_wp2_with fail;go_ret;exact⟨by rw[i.out,g.out];rfl,c⟩
def anK (b:W)(L:List Int)(d:V)(c:W):Prop:=∃a,d=.pointer (S a)/\bY c a 50 L/\b.heap.size<=a/\b.grownBy c none
def amB (b a:W)(c:L)(d:Nat)(e:L):Prop:=bY a b.heap.size 69 c/\bY a d 50 e/\b.grownBy a none
def afK (a d:L)(ha:a.length=9)(hp:d.length=8)(s:V)(b:L)(e:Nat)(Q:e<=b.length)(i:W)(O:aY i s b)(R:rD s b)(hl:b.length<=1000000000000000000)
 (wa:pY a=true) (Z:aL d=true) (Y:aL b=true) :
 Calls prog 76 #[.agg (aF a),.agg (aF d),s,I e] i (fP i (I (gs a (mE d (b.take e))))):=by
 obtain⟨x,hA,T,sA⟩:=ac8 O R e Q;have u:=Zd λwr (M:i.grownBy wr none)=>MN d hp x (b.take e) wr (aR T M) (by rw[BJ];omega);have p:=pX d (b.take e);have v:=Zd<|xO d (b.take e) Z (aau b e Y);have t:=Zd<|kJ a (-1048576) 1048576 gO gO ((jZ a).1 wa);have G:=Zd<|Jh a (mE d (b.take e)) t v;have F:=Zd λf (P:f<8)=>wI d (b.take e) f P;have C:=Zs (gs a (mE d (b.take e))=wJ a (mE d (b.take e)) 8 / 4096) (rfl);have D:=Zd λf=>show wJ a (mE d (b.take e)) (f+1)=wJ a (mE d (b.take e)) f+aB a (f+1)*aB (mE d (b.take e)) f from rfl;have r:=Zd<|nI i 69 50 a d;generalize qH d (b.take e)=j at *
 generalize mE d (b.take e)=l at *
 generalize gs a l=aa at *
 go_enter func76,ntmps76;go_wp2_with fail;have z:=Zd r.1;have B:=Zd r.2.1;have q:=Zd r.2.2;generalize (i.alloc (.cells (aF a) 69)).alloc _=g at *
 go_cut [9]from 12 (λb c=>anK g j b c)
 case first=>
  refine wp_region_held_drew (S:=dB g) (by kernel_rfl) (aS _) λb=>?_;refine aV (hy:=by intro y c;exact yA (B.aC c) (by rw[hp];exact bG)) (v:=.agg (aF d)) 0 b ?_;refine aV 1 b ?_;refine aV 2 b ?_;refine aV (v:=x) 3 b ?_;refine qN 4 5 (λd c=>?H) λd c=>?J
  case H=>
   (try simp only[sZ]);go_simp;refine(u _ (ay q b)).mono ?_;rintro w m ⟨rfl,E⟩;have K:=Zd E;go_wp2_with fail;refine c.out _ _ (aX b K) λb=>?_;(try simp only[sZ]);refine eU 5 λd c=>?_;(try simp only[sZ]);go_simp;go_wp2_with fail;have n:=Zs (g.heap.size<=m.heap.size) (by first|exact Q6 _|exact K4 b);refine c.out _ _ (dZ b (.cells #[I 0,I 0,I 0,I 0,I 0,I 0,I 0,I 0] 50)) λb=>?_;have k:=Zs (bY (m.alloc (.cells #[I 0,I 0,I 0,I 0,I 0,I 0,I 0,I 0] 50)) m.heap.size 50 (au 8)) (bY.new m 50 (au 8));(try simp only[sZ]);refine eU 6 λd c=>?_;(try simp only[sZ]);refine eH rfl 50 _ _ rfl (m.heap.size) (au 8) j rfl rfl k (by rw[p,ak]) (by rw[ak];exact bG) ?_;have o:=bF (rs':=j) k (by rw[p,ak]);refine c.out _ _ (jq b o.2 n) λb=>?_;(try simp only[sZ]);refine jX ?_;go_wp2_with fail;go_meet;exact⟨m.heap.size,rfl,o.1,n,b⟩
  case J=>
   (try simp only[sZ]);go_simp;go_wp2_with fail;have n:=Zs (g.heap.size<=g.heap.size) (by first|exact Q6 _|exact K4 b);refine c.out _ _ (dZ b (.cells #[I 0,I 0,I 0,I 0,I 0,I 0,I 0,I 0] 50)) λb=>?_;have k:=Zs (bY (g.drew.alloc (.cells #[I 0,I 0,I 0,I 0,I 0,I 0,I 0,I 0] 50)) g.heap.size 50 (au 8)) (bY.new g.drew 50 (au 8));(try simp only[sZ]);refine eU 4 λd c=>?_;(try simp only[sZ]);go_simp;refine(u _ (ay q b)).mono ?_;rintro w K ⟨rfl,E⟩;have m:=Zd E;go_wp2_with fail;refine c.out _ _ (aX b m) λb=>?_;have k:=Zd<|k.aC m;(try simp only[sZ]);refine eU 6 λd c=>?_;(try simp only[sZ]);refine eH rfl 50 _ _ rfl (g.heap.size) (au 8) j rfl rfl k (by rw[p,ak]) (by rw[ak];exact bG) ?_;have o:=bF (rs':=j) k (by rw[p,ak]);refine c.out _ _ (jq b o.2 n) λb=>?_;(try simp only[sZ]);refine jX ?_;go_wp2_with fail;go_meet;exact⟨g.heap.size,rfl,o.1,n,b⟩
 case rest=>
 obtain⟨k,rfl,n,o,m⟩:=hcut;have E:=Zs (amB i _ a k j) (⟨z.aC m,n,ay q m⟩);go_wp2_with fail;go_loopw [10,11] (λb f wr=>∃c:Nat,f=I ((c:Int)+1)/\b=I (wJ a l c)/\c<=8/\Hid (amB i wr a k j)) (λ_ f _=>9-(intOf f).toNat)
 case atStart=>exact⟨0,rfl,rfl,QN _,E⟩
 case round=>
  obtain⟨c,rfl,rfl,hm,f⟩:=hrel;obtain⟨s1,s2⟩:=G c;by_cases K:c<8
  .have ca:=f.1.cell (c+1) gO;have J:=f.2.1.cell c gO;rw[F.out c K]at J;obtain⟨o,H⟩:=t (c+1);obtain⟨U,X⟩:=v c;obtain⟨p1,p2⟩:=JY _ _ o H U X;have m:=Zd<|D c;generalize wJ a l c=S at *
   generalize aB a (c+1)=ab at *
   generalize aB l c=ac at *
   have i1:(c:Int)+1<=8:=gO;have i0:(c:Int)<8:=gO;go_wp2_with fail;go_quiet (fail);go_wp2_with fail;have n:=Zs (amB i (wr.drewN nq) a k j) (⟨f.1.aC (dY wr nq none),f.2.1.aC (dY wr nq none),ay f.2.2 (dY wr nq none)⟩);go_roundw
   case rel=>exact⟨c+1,by go_num,by rw[m.out],gO,n⟩
   case measure=>simp[intOf];omega
  obtain rfl:c=8:=gO;rw[show((8:Nat):Int)=8 from rfl];have m:=Zd λy=>jr (wJ a l 8) 12 gO gO gO y;rw[show((12:Nat):Int)=12 from rfl,show(2:Int)^12=4096 by decide,<-C.out]at m;have o:=Zd f.2.2;generalize wJ a l 8=S at *
  go_wp2_with fail;refine(m _).mono ?_;rintro w J ⟨rfl,H⟩;have n:=Zd<|ay o H;go_wp2_with fail;go_ret;exact⟨rfl,n⟩
end Go.Proofs.YtmpfdogdinhhcaaGreatDoor
