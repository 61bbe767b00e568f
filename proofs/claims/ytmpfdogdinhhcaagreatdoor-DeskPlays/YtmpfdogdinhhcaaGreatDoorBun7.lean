import Derived.Test.YtmpfdogdinhhcaaGreatDoorBun6
import Derived.Deep.CutBlock
import Derived.Test.YtmpfdogdinhhcaaGreatDoorBun3
namespace Go.Proofs.YtmpfdogdinhhcaaGreatDoor
open Go.ChangeShapes Go.WideShapes Go.ChangeAt Go.RowKit Go.Deep
open Go.RowKit
open Tryz
set_option linter.unusedSimpArgs false
set_option linter.unusedVariables false
set_option maxHeartbeats 8000000
set_option maxRecDepth 100000
set_option linter.defProp false
variable {w w' u:World}{n b k j:Nat}{l p r:List Int}{x v':Value}{T:TypeId}{s:Bool}{y:List Value}{z:Option Nat}{i:Int}{Q:Exit→Act→World→Prop}{a:Act}{o:Oper}{Z:Nat→Prop}{f:Nat→Int}
structure RkA (w:World) (c:Cl) (vs vb:Value) (wx:World):Prop where
 cl:aW wx w.heap.size 37 (jL c vs vb)
 zz:aW wx (w.heap.size+1) 34 (dh 0 0 N N)
 an:aW wx (w.heap.size+2) 34 (dh 0 c.v N N)
 gr:w.grownBy wx none
def RkA.new {a:Cl}(e:DZ w a x v' w')(f:w'.heap.size=w.heap.size+1+1):aW (w'.alloc (.cells (dh 0 0 N N).toArray 34)) (w.heap.size+1+1) 34 (dh 0 0 N N)/\RkA w a x v' (dz (w'.alloc (.cells (dh 0 0 N N).toArray 34)) (w.heap.size+1+1) 0 (dh 0 a.v N N)):=by have c:=vE w' 0 0 N N;rw[f]at c;have d:=aj w' (.cells (dh 0 0 N N).toArray 34) none;have b:=F9 (en':=0) (v':=a.v) (vb':=N) (vl':=N) c;exact⟨c,(e.cl.aC d).aH b.2 gO,(e.an.aC d).aH b.2 gO,b.1,aG (ay e.gr d) b.2 gO⟩
def zI (d:w.ownsRow n T b x k y):∃c a,x=.slice c k a/\k<=a/\(0<k->∃a,c=some (A a 0)):=by
 rcases d.2 with⟨rfl,rfl⟩|⟨a,c,f,rfl,_,_,e,_⟩
 .exact⟨none,0,rfl,Q6 _,λd=>gO⟩
 exact⟨_,c,rfl,e,λ_=>⟨a,rfl⟩⟩
def FnP (d:L)(c:Int)(b:Nat)(e:Int):Prop:=(e=-1/\∀a,a<b->aB d a≠c)\/∃a:Nat,a<b/\e=a/\aB d a=c
def ajZ {e:Int}(b:FnP l i n e):FnP l i (n+1) (if aB l n=i then(n:Int)else e):=by
 by_cases a:aB l n=i
 .rw[Q9 a];exact .inr ⟨n,gO,rfl,a⟩
 rw[X9 a];rcases b with⟨b,d⟩|⟨c,b,d⟩
 .exact .inl ⟨b,λc b=>by rcases Nat.lt_or_eq_of_le (Nat.le_of_lt_succ b)with f|rfl;exact d c f;exact a⟩
 exact .inr ⟨c,gO,d⟩
def al5 {P:List (Int×fQ)}{f:Int}(l:(sP P).Nodup)(d:FnP (sP P) i P.length f):(f=-1/\i∉sP P/\oZ P i=none)\/∃A e a,P=A++(i,e)::a/\f=(A.length:Int)/\oZ P i=some e/\i∉sP (A++a):=by
 rcases d with⟨d,h⟩|⟨a,d,rfl,h⟩
 .have:i∉sP P:=λc=>by
   have⟨a,g,b⟩:=List.mem_iff_getElem.1 c;exact h a (by rw[vF]at g;exact g) (by simp[aB,List.getD,g,b])
  exact .inl ⟨d,this,Uq this⟩
 right;have b:P=P.take a++P[a]::P.drop (a+1):=by rw[List.getElem_cons_drop,BI]
 have c:P[a].1=i:=by
  rw[<-h];simp[aB,List.getD,sP,d]
 generalize o:P[a]=n at b c;have⟨m,e⟩:=n;have c:m=i:=c;subst c;have k:(P.take a).length=a:=by rw[BJ];omega
 have j:=l;rw[b,yh]at j;have g:=aho j;rw[<-DW]at g;refine⟨P.take a,e,P.drop (a+1),b,by rw[k],?_,g.1⟩;rw[b];exact adF e _ (λf=>g.1 (by rw[DW];exact BS _ f))
def RkX (p:W)(g d:Nat)(P:List (Int×fQ))(n l:V)(e:Cl)(q:W):Prop:=∃h c j i b k f a o m,RkR p g d P n l e q h (.slice c j i) (.slice b k f) a o m
def al6 {P:List (Int×fQ)}{a:Cl}{g e:V}(h:VQ w n b P x v')(d:RkA w a g e w'){en:Int}(c:F8 (oZ P a.v) P.length a=en/\Ld (oZ P a.v) a=[]/\Iw (oZ P a.v) a=[]/\Le (oZ P) P.length a=oZ P/\Ht (oZ P a.v) P.length a=P.length):RkX w n b P x v' a (w'.setCell (A (w.heap.size+2) 0) (I en)):=by have f:=aD w' (A (w.heap.size+2) 0) (I en);exact⟨en,none,0,0,none,0,0,P,x,v',d.an.set 0 (I en),d.zz.aH f (show w.heap.size+1≠w.heap.size+2 by omega),c.1,by rw[c.2.1];exact je _ _,by rw[c.2.2.1];exact bN _ _,(h.aC d.gr).keepR f (λe a g=>by cases a;have:=(h.lt _ g).2;dsimp only at this;omega),c.2.2.2.1.symm,c.2.2.2.2.symm,λe g=>.inl g,(Qb.refl _ _).step d.gr (λe a=>by cases a) |>.step f (λe a=>by cases a;exact .inr (by dsimp only;omega))⟩
structure RkQ (W w:World) (d:Nat) (x y:Value) (c:Cl) (vs vb:Value) (Z:Nat->Prop) (u:World):Prop where
 dk:aW u d 29 [x,y]
 cl:aW u w.heap.size 37 (jL c vs vb)
 zz:aW u (w.heap.size+1) 34 (dh 0 0 N N)
 an:aW u (w.heap.size+2) 34 (dh 0 c.v N N)
 gr:W.grownBy u none
 tr:Qb Z w u
def RkQ.step {W:World}{c:Cl}{e d:Value}(b:RkQ W w n x v' c e d Z w')(a:w'.grownBy u none):RkQ W w n x v' c e d Z u:=
 ⟨b.dk.aC a,b.cl.aC a,b.zz.aC a,b.an.aC a,ay b.gr a,b.tr.step a (λa a=>by cases a)⟩
def Gb {d:TypeId}{A:Nat}{f:List V}(g:w.ownsRow n T b x k y)(c:aW w A d f)(h:d≠T):∀a,x.ownBlock=some a->A≠a:=by
 rintro a e rfl;rcases g.2 with⟨rfl,_⟩|⟨m,j,l,rfl,_,i,_⟩
 .cases e
 cases e;unfold aW at c;rw[i]at c;cases c;exact h rfl
def Jv {a:TypeId}{A:Nat}{d:List V}(f:w.ownsRow n T b x k y)(c:aW w A a d)(g:a≠T)(e:w.grownBy w' x.ownBlock):aW w' A a d:=
 (e.block _ (aO c) (λa=>Gb f c g A a.symm rfl)).trans c
def RkQ.row {W:World}{h:Cl}{l i:Value}(c:RkQ W w n x v' h l i Z w'){g:Value}(d:w'.ownsRow b T k g j y)(p:T=3\/T=59)(m:W.heap.size<=b)(o:∀e,g.ownBlock=some e->Z e)(a:w'.grownBy u g.ownBlock):RkQ W w n x v' h l i Z u:=by
 have f:29≠T/\37≠T/\34≠T:=by rcases p with rfl|rfl<;>decide
 exact⟨Jv d c.dk f.1 a,Jv d c.cl f.2.1 a,Jv d c.zz f.2.2 a,Jv d c.an f.2.2 a,gV c.gr a (λe f=>YM m (World.ownsRow.lt d e f).1),c.tr.step a o⟩
def RkA.q {W:World}{P:List (Int×fQ)}{c:Cl}{e d:Value}(a:RkA w c e d w')(g:VQ w n b P x v')(f:W.grownBy w none):RkQ W w n x v' c e d (λc=>Oh n x v' c\/w.heap.size<=c) w'.drew:=
 ⟨(g.aC a.gr).dk,a.cl,a.zz,a.an,bB (ay f a.gr),(Qb.refl _ _).step (bB a.gr) (λc a=>by cases a)⟩
def aj0 {W:World}{P:List (Int×fQ)}{g:Value}{c:Cl}{vs vb:Value}(i:VQ w n b P v' g)(s:W.heap.size<=b)(f:RkQ W w n v' g c vs vb (λa=>Oh n v' g a\/w.heap.size<=a) u)(j:c.v∉sP P)(o:P.length<32)
 (d:F8 (oZ P c.v) P.length c=0/\Ld (oZ P c.v) c=[]/\Iw (oZ P c.v) c=[]/\Le (oZ P) P.length c=yg (oZ P) c.v (some Ui)/\Ht (oZ P c.v) P.length c=P.length+1) {y:Value}
 (k:u.ownsRow b 3 1 x (P.length+1) ((sP P).map (Value.int .i64)++[I c.v])) (l:u.ownsRow b 59 328 y (P.length+1) (xC P++gN Ui))
 (q:∀a,x.ownBlock=some a->Oh n v' g a\/w.heap.size+3<=a) (r:∀a,y.ownBlock=some a->Oh n v' g a\/w.heap.size+3<=a) :
 RkX w n b P v' g c ((u.setCell (A n 0) x).setCell (A n 1) y):=by
 have t:=i.dk.lt;have h:=bT (aD u (A n 0) x) (aD (u.setCell (A n 0) x) (A n 1) y) (some n) (λe d _=>d) (λe d _=>d);have m:aW ((u.setCell (A n 0) x).setCell (A n 1) y) n 29 [x,y]:=(f.dk.set 0 x).set 1 y;refine⟨0,none,0,0,none,0,0,P++[(c.v,Ui)],x,y,f.an.aH h gO,f.zz.aH h gO,d.1,by rw[d.2.1];exact je _ _,by rw[d.2.2.1];exact bN _ _,⟨m,?_,?_,?_,?_,?_,i.bd⟩,?_,?_,?_,f.tr.step h (λa d=>by cases d;exact .inl (.inl rfl))⟩
 .have:=gK k h (λa e c=>by cases e;exact Gb k f.dk (by decide) _ c rfl);unfold fO;rw[yh,List.map_append,ZB,vF];exact this
 .have:=gK l h (λa e c=>by cases e;exact Gb l f.dk (by decide) _ c rfl);rw[Az,ZB];simpa [xC] using this
 .rw[yh];exact amT (by simpa [sP] using j) (by simpa [sP] using i.nd)
 .intro p hp;rcases List.mem_append.1 hp with e|e
  .exact i.ok p e
  rw[List.mem_singleton.1 e];exact abh
 .rw[ZB];exact o
 .rw[d.2.2.2.1];exact ahp Ui j
 .rw[d.2.2.2.2,ZB];rfl
 rintro a (rfl|e|e)
 .exact .inl (.inl rfl)
 .exact q a e
 exact r a e
def Jw {c:TypeId}{p o:Nat}{m:List V}(g:w.ownsRow n T k x j y)(l:w.ownsRow b c p v' o m)(h:T≠c):∀a,x.ownBlock=some a->v'.ownBlock≠some a:=by
 intro a e f;rcases g.2 with⟨rfl,_⟩|⟨u,q,s,rfl,_,i,_⟩
 .cases e
 rcases l.2 with⟨rfl,_⟩|⟨v,r,t,rfl,_,d,_⟩
 .cases f
 cases e;cases f;rw[i]at d;cases d;exact h rfl
def aj1 {P A d:List (Int×fQ)}{a:fQ}(m:w.ownsRow n 59 328 (.slice (some ⟨b,0,none⟩) P.length k) P.length (xC P))(g:P=A++(i,a)::d)(v:∀c∈P,jA c.2):∃e,aW w b 59 (xC A++(gN a++e))/\∀h c,jA c->aW h b 59 (xC A++(gN c++e))->h.ownsRow n 59 328 (.slice (some ⟨b,0,none⟩) P.length k) P.length (xC (A++(i,c)::d)):=by
 have⟨q,e⟩:=m;rcases e with⟨e,_⟩|⟨z,y,f,e,o,p,s,r,t,u⟩
 .cases e
 cases e;have j:f.toList=xC A++(gN a++(xC d++f.toList.drop (P.length*328))):=by
  rw[<-WJ (gN a),<-WJ,<-Az A i a d,<-g,<-u,BI]
 have x:jA a:=v (i,a) (by rw[g];simp);refine⟨xC d++f.toList.drop (P.length*328),?_,λh c f e=>?_⟩
 .unfold aW;rw[<-j,p]
 have l:(gN c).length=(gN a).length:=by rw[mh f,mh x]
 have h:(xC (A++(i,c)::d)).length=P.length*328:=by
  rw[<-q,g,Az,Az,ZB,ZB,ZB,ZB,l]
 refine⟨h,.inr ⟨b,k,_,rfl,o,e,s,r,?_,?_⟩⟩
 .have:=congrArg List.length j;rw[Array.length_toList,t]at this;rw[this];simp[l]
 rw[<-WJ (gN c),<-WJ,<-Az A i c d,<-h];exact List.take_left
structure Xe (w:World) (d base:Nat) (P:List (Int×fQ)) (vv vl:Value) (AC:List Value) (g:Nat) (CS:List Value) (u:World):Prop where
 dk:aW u d 29 [vv,vl]
 zz:aW u (w.heap.size+1) 34 (dh 0 0 N N)
 an:aW u (w.heap.size+2) 34 AC
 ov:fO base u vv (sP P)
 ln:aW u g 59 CS
 tr:Qb (λb=>Oh d vv vl b\/w.heap.size<=b) w u
 lt:g<w.heap.size/\d<w.heap.size/\∀b,vv.ownBlock=some b->b<w.heap.size
 zg:vl.ownBlock=some g
def Xe.aC {P:List (Int×fQ)}{d:List V}(a:Xe w n b P x v' y k d w')(c:w'.grownBy u none):Xe w n b P x v' y k d u:=
 ⟨a.dk.aC c,a.zz.aC c,a.an.aC c,a.ov.aC c,a.ln.aC c,a.tr.step c (λc c=>by cases c),a.lt,a.zg⟩
def Xe.ans {P:List (Int×fQ)}{f:List V}(a:Xe w n b P x v' y k f w')(d:Nat)(e:V):Xe w n b P x v' (y.set d e) k f (w'.setCell (A (w.heap.size+2) d) e):=by have c:=aD w' (A (w.heap.size+2) d) e;have g:=a.lt;exact⟨a.dk.aH c (show n≠w.heap.size+2 by omega),a.zz.aH c (show w.heap.size+1≠w.heap.size+2 by omega),a.an.set d e,gK a.ov c (λe d f=>by cases d;have:=g.2.2 _ f;dsimp only at this;omega),a.ln.aH c (show k≠w.heap.size+2 by omega),a.tr.step c (λe d=>by cases d;exact .inr (by dsimp only;omega)),g,a.zg⟩
def Xe.put {P:List (Int×fQ)}{g:List V}(a:Xe w n b P x v' y k g w')(e:Nat)(d:List V)(j:e+d.length<=g.length):Xe w n b P x v' y k (lu g e d) (dz w' k e d)/\w'.grownBy (dz w' k e d) (some k):=by
 have c:=qM a.ln e d j;have l:=a.lt;have m:∀{A:Nat} {h:TypeId} {i:List V},aW w' A h i->h≠59->A≠k:=λe g d=>by
  subst d;have f:=a.ln;unfold aW at e f;rw[e]at f;cases f;exact g rfl
 exact⟨⟨a.dk.aH c.2 (m a.dk (by decide)),a.zz.aH c.2 gO,a.an.aH c.2 gO,gK a.ov c.2 (λe d f=>by cases d;exact Gb a.ov a.ln (by decide) _ f rfl),c.1,a.tr.step c.2 (λe d=>by cases d;exact .inl (.inr (.inr a.zg))),l,a.zg⟩,c.2⟩
def Xe.new {P:List (Int×fQ)}{e:Nat}{d:Cl}{g:V}(c:VQ w n b P x (.slice (S k) j e))(a:RkA w d v' g w')(f:aW w' k 59 y):Xe w n b P x (.slice (S k) j e) (dh 0 d.v N N) k y w':=
 ⟨(c.aC a.gr).dk,a.zz,a.an,(c.aC a.gr).ov,f,(Qb.refl _ _).step a.gr (λa d=>by cases d),⟨(c.lt k (.inr (.inr rfl))).2,(c.lt n (.inl rfl)).2,λa d=>(c.lt a (.inr (.inl d))).2⟩,rfl⟩
def aj2 {P A f:List (Int×fQ)}{g o:Nat}{c:Cl}{d s':fQ}{en:Int}{b m k a n' c'}(i:VQ w n j P x (.slice (some ⟨g,0,none⟩) P.length o))(l:P=A++(c.v,d)::f)(E:c.v∉sP (A++f))(D:oZ P c.v=some d)(F:2<=c.k)(O:c.k<=4)(K:jA s')(B:Um d c=some s')(C:F6 d c=en)
 (G:∀e,aW e g 59 (xC A++(gN s'++y))->e.ownsRow j 59 328 (.slice (some ⟨g,0,none⟩) P.length o) P.length (xC (A++(c.v,s')::f)))
 (h:Xe w n j P x (.slice (some ⟨g,0,none⟩) P.length o) (dh en c.v (.slice b m k) (.slice a n' c')) g (xC A++(gN s'++y)) u) (J:iT (w.heap.size+3) u (.slice b m k) (XF d c)) (M:fO (w.heap.size+3) u (.slice a n' c') (Ul d c)):RkX w n j P x (.slice (some ⟨g,0,none⟩) P.length o) c u:=by
 have⟨r,s,t,v,z⟩:=ahs (oZ P) P.length c d F gO D;have p:(A++(c.v,s')::f).length=P.length:=by rw[l];simp
 have q:sP (A++(c.v,s')::f)=sP P:=by rw[l,yh,yh]
 have H:=G u h.ln;refine⟨en,b,m,k,a,n',c',A++(c.v,s')::f,x,_,h.an,h.zz,by rw[r,C],by rw[s];exact J,by rw[t];exact M,⟨h.dk,by rw[q];exact h.ov,by rw[p];exact H,by rw[q];exact i.nd,λc hp=>?_,by rw[p];exact i.le,i.bd⟩,?_,?_,λb e=>.inl e,h.tr⟩
 .rcases List.mem_append.1 hp with e|e
  .exact i.ok c (by rw[l];exact BS _ e)
  rcases List.mem_cons.1 e with e|e
  .rw[e];exact K
  exact i.ok c (by rw[l];exact PZ _ (List.mem_cons_of_mem _ e))
 .rw[v,B,l];exact ahq d s' E
 rw[z,nO,p]
def ahM {W:World}{P A c:List (Int×fQ)}{i:Value}{a:Cl}{f:fQ}(g:VQ w b k P v' i)(h:P=A++(a.v,f)::c)(z:a.v∉sP (A++c))(v:oZ P a.v=some f)(e:a.k=5){y:Value}(t:n=(A++c).length)(m:aW u b 29 [x,y])(G:aW u (w.heap.size+1) 34 (dh 0 0 N N))(l:aW u (w.heap.size+2) 34 (dh 0 a.v N N))
 (B:u.ownsRow k 3 1 x n ((sP A).map (Value.int .i64)++(sP c).map (Value.int .i64))) (C:u.ownsRow k 59 328 y n (xC A++xC c)) (D:Qb (λd=>Oh b v' i d\/w.heap.size<=d) w u) (E:x.ownBlock=v'.ownBlock) (F:y.ownBlock=i.ownBlock):RkX w b k P v' i a u:=by
 subst t;have⟨o,p,q,r,s⟩:=ahs (oZ P) P.length a f gO gO v;have H:P.length=(A++c).length+1:=by rw[h];simp;omega
 refine⟨0,none,0,0,none,0,0,A++c,x,y,l,G,by rw[o];simp[F6,e],by rw[p];simp[XF,e];exact je _ _,by rw[q];simp[Ul,e];exact bN _ _,⟨m,?_,by rw[ajO];exact C,?_,λc hp=>?_,by have:=g.le;omega,g.bd⟩,?_,?_,λd d=>.inl ?_,D⟩
 .unfold fO;rw[vF,DW,List.map_append];exact B
 .have:=g.nd;rw[h,yh]at this;rw[DW];exact(aho this).2
 .refine g.ok c ?_;rw[h];rcases List.mem_append.1 hp with j|j
  .exact BS _ j
  exact PZ _ (List.mem_cons_of_mem _ j)
 .rw[r,show Um f a=none by simp[Um,e],h];exact ae0 f z
 .rw[s,Q9 e];omega
 rcases d with d|d|d
 .exact .inl d
 .exact .inr (.inl (E ▸ d))
 exact .inr (.inr (F ▸ d))
structure RkU (w:World) (c:Cl) (Z:Nat->Prop) (u:World):Prop where
 zz:aW u (w.heap.size+1) 34 (dh 0 0 N N)
 an:aW u (w.heap.size+2) 34 (dh 0 c.v N N)
 tr:Qb Z w u
def RkU.but {c:Cl}(b:RkU w c Z w')(a:w'.grownBy u (some n))(e:n<w.heap.size)(d:Z n):RkU w c Z u:=
 ⟨b.zz.aH a gO,b.an.aH a gO,b.tr.step a (λa a=>by cases a;exact d)⟩
def ae9 (W:World)(pc:uX 15 W)(pd:uZ 16 W)(pe:zq 17 W)(pb:Yw 13 W)(pf:Y9 14 W)(C ai:Nat)(P:List (Int×fQ))(vv vl:Value)(c:Cl)(a1:Option Addr)(n1 c1:Nat)(a2:Option Addr)(n2 c2:Nat)(g:World)(r:VQ g C ai P vv vl)(gw:W.grownBy g none)(hW:W.heap.size<=ai)(hc:yS g c (.slice a1 n1 c1) (.slice a2 n2 c2)):Calls prog 8 #[.pointer (some ⟨C,0,none⟩),xu c (.slice a1 n1 c1) (.slice a2 n2 c2)] g (RkE g C ai P vv vl c):=by
 have hz:=Ci;have bv:=abq c.v;have AS:=Zd<|DZ.new g c (.slice a1 n1 c1) (.slice a2 n2 c2);have bi:=Zd λwx en vb vr P' bX bR (s:RkR g C ai P vv vl c wx en vb vr P' bX bR) n k=>s.fin (λi l=>(r.lt i l).2) (w':=n) k;have T:=Zd r;have HC:=Zd hc;have GW:=Zd gw;have HW:=Zd hW;have ov:=r.ov;unfold fO at ov;rw[vF]at ov;obtain⟨av,y,rfl,cW,fv⟩:=zI ov;obtain⟨al,u,rfl,cV,fl⟩:=zI r.ol;have OV:=Zd ov;have FV:=Zd fv;have FL:=Zd fl;have d2:=r.le;have ND:=Zd r.nd;have PC:=Zd pc;have PD:=Zd pd;have PE:=Zd pe;have PB:=Zd pb;have PF:=Zd pf;have O1:=Zd<|iK 0 c.v none 0 0 none 0 0;clear r hc gw hW ov fv fl pc pd pe pb pf;generalize RkE g C ai P (.slice av P.length y) (.slice al P.length u) c=dd at *
 unfold xu;go_enter func8,ntmps8;go_upto_region 1 with fail;change Code.wp _ _ _ _ ((g.alloc (.cells (jL c (.slice a1 n1 c1) (.slice a2 n2 c2)).toArray 37)).alloc (.cells (dh 0 0 (.slice none 0 0) (.slice none 0 0)).toArray 34));have hs:((g.alloc (.cells (jL c (.slice a1 n1 c1) (.slice a2 n2 c2)).toArray 37)).alloc (.cells (dh 0 0 (.slice none 0 0) (.slice none 0 0)).toArray 34)).heap.size=g.heap.size+1+1:=by simp
 generalize (g.alloc (.cells (jL c (.slice a1 n1 c1) (.slice a2 n2 c2)).toArray 37)).alloc (.cells (dh 0 0 (.slice none 0 0) (.slice none 0 0)).toArray 34)=W1 at *
 have am:=aW.cell AS.out.cl 1;simp[jL]at am;have E:=Zd<|RkA.new AS.out hs;clear AS;go_upto_region 2 with(first|refine sV 0 (dh 0 c.v (.slice none 0 0) (.slice none 0 0)) E.out.1 (by simp[gQ]) jR O1.out ?_);(try simp only[Act.put]);replace E:=Zd E.out.2;clear am hs;generalize dz (W1.alloc (.cells (dh 0 0 (.slice none 0 0) (.slice none 0 0)).toArray 34)) (g.heap.size+1+1) 0 (dh 0 c.v (.slice none 0 0) (.slice none 0 0))=j at *
 have ad:=Zd<|T.out.aC E.out.gr;have aC:=aW.cell ad.out.dk 0;have aE:=aW.cell ad.out.dk 1;have af:=aW.cell E.out.cl 0;have am:=aW.cell E.out.cl 1;have ck:=aW.cell E.out.an 0;have fk:=aW.free E.out.an 0;simp[jL,dh]at aC aE af am ck;have bk:=Zd<|World.ownsRow.kept OV.out E.out.gr (by rcases Value.ownBlock (.slice av P.length y)with _|i<;>simp);clear OV;have hn:(P.length:Int)<=32:=gO;go_wp2_with fail;go_loopw [6,24] (λs6 da wr=>∃(Z:Nat) (l:Int),da=.int .i64 Z/\s6=.int .i64 l/\Hid (FnP (sP P) c.v Z l)/\Z<=P.length/\wr=j) (λ_ e _=>P.length-(intOf e).toNat)
 case atStart=>exact⟨0,-1,rfl,rfl,.inl ⟨rfl,λd1 hi=>gO⟩,QN _,rfl⟩
 case round=>
  obtain⟨Z,l,rfl,rfl,hF,hj,cm⟩:=hrel;obtain rfl:j=wr:=cm.symm;clear cm;by_cases cX:Z<P.length
  .obtain⟨k,rfl⟩:=FV.out gO;have cx:=World.ownsRow.cellAt bk.out Z gO;rw[show((sP P).map (Value.int .i64))[Z]?=some (.int .i64 (aB (sP P) Z)) by simp[aB,List.getD,vF,cX]]at cx;have i1:(Z:Int)<P.length:=gO;have NX:=Zd<|ajZ hF.out;have d0:=hF;clear hF;by_cases o:aB (sP P) Z=c.v
   .rw[o]at cx;rw[Q9 o]at NX;clear o;go_wp2_with fail;go_roundw
    case rel=>exact⟨Z+1,Z,by simp,rfl,NX.out,gO,trivial⟩
    case measure=>simp[intOf];omega
   have e':(aB (sP P) Z==c.v)=false:=beq_eq_false_iff_ne.2 o;rw[X9 o]at NX;generalize aB (sP P) Z=a4 at *
   go_wp2_with fail;go_roundw
   case rel=>exact⟨Z+1,l,by simp,rfl,NX.out,gO,trivial⟩
   case measure=>simp[intOf];omega
  obtain rfl:Z=P.length:=gO;have FO:=al5 ND.out hF.out;clear hF;go_upto_block 2 with fail;go_cut []from 6 (λwx=>RkX g C ai P (.slice av P.length y) (.slice al P.length u) c wx)
  case first=>
   have ae:=Zd λen s=>al6 (en:=en) T.out E.out s;by_cases h4:c.k<1\/5<c.k
   .have R:=Zd<|ae.out 4 (DY _ _ _ _ (.inl ⟨h4,rfl⟩));clear ae;rcases h4 with h4|h4
    .go_wp2_with fail;go_meet;exact R.out
    go_wp2_with fail;go_meet;exact R.out
   by_cases h1:c.k=1
   .rw[h1]at af;have p:=Zd h1;clear h4 h1;by_cases hv:c.v<0
    .have R:=Zd<|ae.out 2 (DY _ _ _ _ (.inr (.inl ⟨p.out,hv,rfl⟩)));clear ae;go_wp2_with fail;go_meet;exact R.out
    rcases FO with⟨rfl,bd,ac⟩|⟨A,e,ag,hP,rfl,ac,bc⟩
    .by_cases bq:P.length<32
     .as_aux_lemma=>
      have FI:=Zd λm s a4 b0 ox oy zx zy=>aj0 (vs:=.slice a1 n1 c1) (vb:=.slice a2 n2 c2) (W:=W) (u:=m) (x:=a4) (y:=b0) T.out HW.out s bd bq (ajQ _ _ _ p.out gO ac bq) ox oy zx zy;have CL:=Zs ((gN Ui).length=1*328) (mh abh);have C1:=Zd<|XH Ui;have RB:=Zd abo;have RL:=Zd abp;have cL:¬(32:Int)<=P.length:=gO;unfold Yw jB gu at PB;unfold Y9 jB bL at PF;have cr:=Zd λ(m:World) (c0:m.ownsRow ai 3 1 (.slice av P.length y) P.length ((sP P).map (Value.int .i64))) (o':m.ownsRow ai 59 328 (.slice al P.length u) P.length (xC P)) i s l=>Jw c0 o' (by decide) i s l;clear ae bd ac bq bi PC PD PE;generalize gN Ui=SC at *
      generalize bV q9 false=EB at *
      generalize aP iY false=MB at *
      go_upto_region 20 with fail;clear ck fk aC aE af am;refine bW 21 (RkQ W g C (.slice av P.length y) (.slice al P.length u) c (.slice a1 n1 c1) (.slice a2 n2 c2) (λi=>Oh C (.slice av P.length y) (.slice al P.length u) i\/g.heap.size<=i)) 25 (by rfl) _ rfl (by kernel_rfl) λb=>?_;have a:=(E.out.q T.out GW.out);refine aZ 0 a b λb=>?_;refine iB (i:=1) (v:=?dC) rfl (by kernel_rfl) b (λ_ _ _ r=>r) (Or.inl ⟨by rfl,?cM⟩) a λb=>?dE
      case cM=>(intro n _;go_simp;(try with_reducible rfl))
      (try simp only[sZ]);refine aZ 2 a b λb=>?_;refine aZ 3 a b λb=>?_;refine aZ 4 a b λb=>?_;refine iN (hy:=by intro n f;(try dsimp only at f);have t:=f.dk.cell 0;simp at t;go_simp;(try with_reducible rfl)) (v:=(.slice av P.length y)) 5 a b λb=>?_;refine aZ 6 a b λb=>?_;refine iN (hy:=by intro n f;(try dsimp only at f);have t:=f.cl.cell 1;simp[jL]at t;go_simp;(try with_reducible rfl)) (v:=.int .i64 c.v) 7 a b λb=>?_;refine aZ 10 a b λb=>?_;refine aZ 11 a b λb=>?_;refine aZ 12 a b λb=>?_;refine iN (hy:=by intro n f;(try dsimp only at f);have t:=f.dk.cell 1;simp at t;go_simp;(try with_reducible rfl)) (v:=(.slice al P.length u)) 13 a b λb=>?_;refine jY 8 b λw d=>?_;(try simp only[sZ]);go_simp;go_wp2_with fail;have gA:j.drew.grownBy ((j.alloc (.cells #[.int .i64 c.v] 3)).drew) none:=aj j.drew (.cells #[.int .i64 c.v] 3) none;have BL:=Zs (aW ((j.alloc (.cells #[.int .i64 c.v] 3)).drew) j.heap.size 3 [.int .i64 c.v]) (aW.new j 3 [.int .i64 c.v]);have aw:=Zd<|World.ownsRow.kept (w:=j.drew) bk.out gA (by rcases Value.ownBlock (.slice av P.length y)with _|i<;>simp);have a5:=Zd<|World.ownsRow.kept (w:=j.drew) ad.out.ol gA (by rcases Value.ownBlock (.slice al P.length u)with _|i<;>simp);have q:=a.step gA;refine d.out _ _ (λ_=>q) λb=>?_;clear d;replace a:=q;clear q;(try simp only[sZ]);refine jY 9 b λw d=>?_;(try simp only[sZ]);generalize (j.alloc (.cells #[.int .i64 c.v] 3)).drew=W1 at *
      refine Rf rfl _ _ 26 rfl ajR aw.out j.heap.size 1 1 rfl rfl [.int .i64 c.v] rfl BL.out (λm hu=>by rw[List.mem_singleton.1 hu];rfl) ⟨gO,gO⟩ (PN (Nat.lt_of_le_of_lt T.out.bd a.dk.lt)) ?_;intro x2 W2 o2 g2 b2;have ar:=Zd<|gK a5.out g2 (cr.out W1 aw.out a5.out);have ax:=Zd o2;have ZX:=Zs (∀i,x2.ownBlock=some i->Oh C (.slice av P.length y) (.slice al P.length u) i\/g.heap.size+3<=i) (λi s=>by rcases b2 i s with l|l;exact .inl (.inr (.inl l));exact .inr (by have:=a.an.lt;omega));have q:=a.row aw.out (.inl rfl) HW.out (λi s=>.inl (.inr (.inl s))) g2;refine d.out _ _ (λ_=>q) λb=>?_;clear d;replace a:=q;clear q;(try simp only[sZ]);refine jY 14 b λw d=>?_;(try simp only[sZ]);clear aw a5 BL o2 g2 b2 gA;go_simp;refine(PB.out _ a.gr).mono ?_;rintro a4 O ⟨rfl,g3⟩;have aa:=Zd<|gK ar.out g3 (λi o=>by cases o);have bl:=Zd<|gK ax.out g3 (λi o=>by cases o);go_wp2_with fail;have q:=a.step g3;refine d.out _ _ (λ_=>q) λb=>?_;clear d;replace a:=q;clear q;(try simp only[sZ]);refine jY 15 b λw d=>?_;(try simp only[sZ]);clear ar ax g3;go_simp;refine(PF.out _ a.gr).mono ?_;rintro a4 W4 ⟨rfl,g4⟩;have a6:=Zd<|gK aa.out g4 (λi o=>by cases o);have bm:=Zd<|gK bl.out g4 (λi o=>by cases o);go_wp2_with fail;have q:=a.step g4;refine d.out _ _ (λ_=>q) λb=>?_;clear d;replace a:=q;clear q;(try simp only[sZ]);refine iN (hy:=by intro n f;(try dsimp only at f);exact XM rfl rfl rfl RB.out) (v:=.agg SC.toArray) 16 a b λb=>?_;refine jY 17 b λw d=>?_;(try simp only[sZ]);clear aa bl g4;refine ae1 rfl _ rfl rfl RL.out ?_;have gA:=aj W4 (.cells SC.toArray 59) none;have BL:=Zd<|aW.new W4 59 SC;have bu:=Zd<|gK a6.out gA (λi o=>by cases o);have b5:=Zd<|gK bm.out gA (λi o=>by cases o);have q:=a.step gA;refine d.out _ _ (λ_=>q) λb=>?_;clear d;replace a:=q;clear q;(try simp only[sZ]);refine jY 18 b λw d=>?_;(try simp only[sZ]);clear a6 bm gA;generalize W4.alloc (.cells SC.toArray 59)=W5 at *
      refine Rf rfl _ _ 27 rfl ajS bu.out W4.heap.size 1 1 rfl rfl SC CL.out BL.out C1.out ⟨gO,gO⟩ (PN (Nat.lt_of_le_of_lt T.out.bd a.dk.lt)) ?_;intro x6 W6 o6 g6 b6;have b7:=Zd<|gK b5.out g6 (λi s l=>Jw b5.out bu.out (by decide) i l s);have ZY:=Zs (∀i,x6.ownBlock=some i->Oh C (.slice av P.length y) (.slice al P.length u) i\/g.heap.size+3<=i) (λi s=>by rcases b6 i s with l|l;exact .inl (.inr (.inr l));exact .inr (by have:=a.an.lt;omega));have b4:=Zd o6;have q:=a.row bu.out (.inr rfl) HW.out (λi s=>.inl (.inr (.inr s))) g6;refine d.out _ _ (λ_=>q) λb=>?_;clear d;replace a:=q;clear q;(try simp only[sZ]);refine aZ 19 a b λb=>?_;refine aZ 20 a b λb=>?_;refine jY 21 b λw d=>?_;(try simp only[sZ]);obtain⟨y2,z2,rfl,_,_⟩:=zI b7.out;obtain⟨y6,z6,rfl,_,_⟩:=zI b4.out;have QQ:=Zd a;have ck:=a.dk.cell 0;have fk:=a.dk.free 0;have cQ:=(a.dk.set 0 (.slice y2 (P.length+1) z2)).cell 1;have dQ:=(a.dk.set 0 (.slice y2 (P.length+1) z2)).free 1;simp at ck cQ;go_simp;go_wp2_with fail;refine d.out _ _ (λr=>by cases r) λb=>?_;clear d a;(try simp only[sZ]);refine bI _ _ _ _ (by rfl) ?_;refine wpAny_take (i:=22) (v:=?dj) rfl (by kernel_rfl) (by kernel_rfl) (by kernel_rfl) (λ_ _ _ r=>r) (Or.inl ⟨by rfl,?cy⟩) ?dl
      case cy=>(intro n;go_simp;(try with_reducible rfl))
      (try simp only[sZ]);refine wpAny_take (i:=23) (v:=?dm) rfl (by kernel_rfl) (by kernel_rfl) (by kernel_rfl) (λ_ _ _ r=>r) (Or.inl ⟨by rfl,?cz⟩) ?dn
      case cz=>(intro n;go_simp;(try with_reducible rfl))
      (try simp only[sZ]);refine wpAny_ready (rs:=[24]) (by kernel_rfl) (by simp) (AllReady.cons rfl (λw d=>?_) AllReady.nil);(try simp only[sZ]);have p:=Zd d;clear d;go_simp;go_wp2_with fail;refine p.out _ _ ?_;clear p;(try simp only[sZ]);refine wm ?_;go_wp2_with fail;go_meet;exact FI.out _ QQ.out _ _ b7.out b4.out ZX.out ZY.out
     have R:=Zd<|ae.out 7 (DY _ _ _ _ (.inr (.inr (.inr (.inl ⟨p.out,gO,ac,gO,rfl⟩)))));have cL:(32:Int)<=P.length:=gO;clear ae bd ac bq;go_wp2_with fail;go_meet;exact R.out
    have R:=Zd<|ae.out 10 (DY _ _ _ _ (.inr (.inr (.inl ⟨p.out,gO,by rw[ac];rfl,rfl⟩))));have hA:(0:Int)<=A.length:=gO;clear ae hP ac bc;go_wp2_with fail;go_meet;exact R.out
   rcases FO with⟨rfl,bd,ac⟩|⟨A,e,ag,hP,rfl,ac,bc⟩
   .have R:=Zd<|ae.out 6 (DY _ _ _ _ (.inr (.inr (.inr (.inr ⟨gO,gO,ac,rfl⟩)))));have dT:(c.k==1)=false:=beq_eq_false_iff_ne.2 h1;clear ae bd ac;go_wp2_with fail;go_meet;exact R.out
   have hA:A.length<P.length:=by rw[hP];simp
   obtain⟨k,rfl⟩:=FL.out gO;have M:=Zd<|T.out.ok (c.v,e) (by rw[hP];simp);obtain⟨ah,lb,lr⟩:=aj1 ad.out.ol hP T.out.ok;have LB:=Zd lb;have LA:=Zs ((xC A).length=A.length*328) (Uo (λa0 s=>T.out.ok a0 (by rw[hP];exact BS _ s)));have BE:=Zs (A.length*328+328<=(xC A++(gN e++ah)).length) (by rw[ZB,ZB,LA.out,mh M.out];omega);have TU:=Zd λs' en i ba a9 a7 n' c' m (k2:2<=c.k) k4 cn hX hY a3 ob v=>aj2 (s':=s') (en:=en) (b:=i) (m:=ba) (k:=a9) (a:=a7) (n':=n') (c':=c') (u:=m) T.out hP bc ac k2 k4 cn hX hY (λu' l=>lr u' s' cn l) a3 ob v;have bg:=Zd λm a4 b0 (k5:c.k=5) dk zz cw ox oy tr zx zy=>ahM (W:=W) (u:=m) (x:=a4) (y:=b0) (n:=A.length+(P.length-(A.length+1))) T.out hP bc ac k5 (by rw[hP];simp;omega) dk zz cw ox oy tr zx zy;have T0:=Zd<|Xe.new T.out E.out lb;have i0:(0:Int)<=A.length:=gO;have i1:(A.length:Int)<P.length:=gO;have HP:=Zd hP;have S0:=Zs (g.heap.size+3<=j.heap.size) (E.out.an.lt);clear lb lr ae bc ac hP bi;by_cases h2:c.k=2
   .as_aux_lemma=>
    rw[h2]at af;have p:=Zd h2;have DE:=Zd λwr (s:j.grownBy wr none)=>PC.out e.e e.t M.out.ge (.slice a1 n1 c1) c.l wr (ay (ay GW.out E.out.gr) s) (aR HC.out.il (ay E.out.gr s)) HC.out.sl HC.out.ll HC.out.nl c.r;have XL:=Zd<|K5 (l:=c.l) c.r M.out.ge.len;have ME:=Zd<|amU (R:=ah) M.out LA.out;have ZL:=Zd<|bK (ak 225) false;have hy:=jJ;have bb:=Zd<|al2 (R:=ah) M.out LA.out (mK e.e c.l c.r) XL.out;have SO:=Zd λ(l:iw e.e c.l=0)=>(show Um e c=some ⟨lJ e.e c.l c.r,mK e.e c.l c.r,e.m,e.u⟩ by unfold Um Vf;rw[Q9 p.out,Q9 l]);have SN:=Zd λ(l:¬iw e.e c.l=0)=>(show Um e c=some e by unfold Um Vf;rw[Q9 p.out,X9 l]);have SK:=Zd λ(l:iw e.e c.l=0)=>(show jA ⟨lJ e.e c.l c.r,mK e.e c.l c.r,e.m,e.u⟩ by have:=ahh M.out c.l c.r;unfold Vf at this;rwa [Q9 l]at this);have SY:=Zs (F6 e c=iw e.e c.l) (by unfold F6;rw[Q9 p.out]);have SW:=Zs (XF e c=lK e.e c.l c.r) (by unfold XF;rw[Q9 p.out]);have SZ:=Zs (Ul e c=lM e.e c.l c.r) (by unfold Ul;rw[Q9 p.out]);unfold rO gu at DE;unfold gu at hy;clear h4 h1 h2 PC PD PE PB PF bg GW HC ck fk;generalize lJ e.e c.l c.r=B at *
    generalize mK e.e c.l c.r=x at *
    generalize lK e.e c.l c.r=BB at *
    generalize lM e.e c.l c.r=HH at *
    generalize iw e.e c.l=z at *
    have J:=Zd<|bK XL.out x;have AX:=Zd<|h_.all x XL.out;have OX:=Zd<|gG B x;go_upto_region 24 with fail;go_cut [9,10,11,12]from 146 (λs9 c3 c4 c5 wx=>anu j B x BB HH z s9 c3 c4 c5 wx)
    case first=>
     refine wp_region_held_drew (S:=dB j) (by kernel_rfl) (aS _) λa=>?_;refine aV 0 a ?_;refine aV 1 a ?_;refine aV 2 a ?_;refine aV (hy:=by intro n f;have t:=(ad.out.dk.aC f).cell 1;simp at t;go_simp;(try with_reducible rfl)) (v:=(.slice (some ⟨k,0,none⟩) P.length u)) 3 a ?_;refine aV 4 a ?_;refine aV (v:=.pointer (some ⟨k,A.length*328,none⟩)) 5 a ?_;refine aV (v:=.pointer (some ⟨k,A.length*328,none⟩)) 6 a ?_;refine aV (hy:=by intro n f;exact bS rfl rfl (LB.out.aC f) _ underlying55 rfl dN (by have:=BE.out;omega) _ ME.out) (v:=.agg (bV e.e e.t).toArray) 7 a ?_;refine aV 8 a ?_;refine aV (hy:=by intro n f;have t:=(E.out.cl.aC f).cell 3;simp[jL]at t;go_simp;(try with_reducible rfl)) (v:=.slice a1 n1 c1) 9 a ?_;refine aV 10 a ?_;refine aV (hy:=by intro n f;have t:=(E.out.cl.aC f).cell 2;simp[jL]at t;go_simp;(try with_reducible rfl)) (v:=.bool c.r) 11 a ?_;refine qN 12 18 (λw d=>?cA) λw d=>?cB
     case cA=>
      (try simp only[sZ]);go_simp;refine(DE.out _ a).mono ?_;rintro o ap ⟨vb,vl,rfl,ob,v,cd⟩;have cC:=Zd cd;have OB:=Zd<|ob.base (b':=j.heap.size) (K4 a);have D:=Zd<|v.base (b':=j.heap.size) (K4 a);clear cd ob v;(try unfold bL);(try unfold gu);go_wp2_with fail;refine d.out _ _ (aX a cC.out) λa=>?_;clear d;(try simp only[sZ]);refine aV 13 a ?_;refine aV 14 a ?_;refine aV 15 a ?_;refine aV 16 a ?_;refine aV 17 a ?_;refine eU 18 λw d=>?_;(try simp only[sZ]);go_simp;go_wp2_with fail;have HB:=Zs (j.heap.size<=ap.heap.size) (by first|exact Q6 _|exact K4 a);refine d.out _ _ (dZ a (.cells (bV (au 225) false).toArray 55)) λa=>?_;clear d;have K:=Zs (h_ (ap.alloc (.cells (bV (au 225) false).toArray 55)) ap.heap.size (au 225) false) (h_.new ap (au 225) false);have OB:=Zd<|OB.out.aC (aj ap (.cells (bV (au 225) false).toArray 55) none);have D:=Zd<|D.out.aC (aj ap (.cells (bV (au 225) false).toArray 55) none);generalize ap.alloc (.cells (bV (au 225) false).toArray 55)=de at *
      (try simp only[sZ]);refine eU 19 λw d=>?_;(try simp only[sZ]);refine dD rfl 55 _ _ rfl (ap.heap.size) 0 55 (bV (au 225) false) (bV B x) rfl rfl K.out (by rw[ZL.out,J.out];omega) (by rw[J.out];exact dN) (gG _ _) ?_;have U:=K.out.dQ (m:=B) (t:=x) (ak 225) XL.out;have OB:=Zd<|OB.out.aH U.2 K.out (by decide);have D:=Zd<|D.out.aH U.2 K.out (by decide);refine d.out _ _ (jq a U.2 HB.out) λa=>?_;clear d;(try simp only[sZ]);refine aV 20 a ?_;refine aV 21 a ?_;refine aV 22 a ?_;refine jX ?_;go_wp2_with fail;go_meet;exact⟨ap.heap.size,rfl,rfl,U.1,OB.out,D.out,HB.out,a⟩
     case cB=>
      (try simp only[sZ]);go_simp;go_wp2_with fail;have HB:=Zs (j.heap.size<=j.heap.size) (by first|exact Q6 _|exact K4 a);refine d.out _ _ (dZ a (.cells (bV (au 225) false).toArray 55)) λa=>?_;clear d;have K:=Zs (h_ ((j.alloc (.cells (bV (au 225) false).toArray 55)).drew) j.heap.size (au 225) false) (h_.new j.drew (au 225) false);generalize (j.alloc (.cells (bV (au 225) false).toArray 55)).drew=df at *
      (try simp only[sZ]);refine eU 12 λw d=>?_;(try simp only[sZ]);go_simp;refine(DE.out _ a).mono ?_;rintro o dp ⟨vb,vl,rfl,ob,v,ce⟩;have cf:=Zd ce;have OB:=Zd<|ob.base (b':=j.heap.size) (K4 a);have D:=Zd<|v.base (b':=j.heap.size) (K4 a);clear ce ob v;(try unfold bL);(try unfold gu);go_wp2_with fail;refine d.out _ _ (aX a cf.out) λa=>?_;clear d;have K:=Zd<|K.out.aC cf.out;(try simp only[sZ]);refine aV 13 a ?_;refine aV 14 a ?_;refine aV 15 a ?_;refine aV 16 a ?_;refine aV 17 a ?_;refine eU 19 λw d=>?_;(try simp only[sZ]);refine dD rfl 55 _ _ rfl (j.heap.size) 0 55 (bV (au 225) false) (bV B x) rfl rfl K.out (by rw[ZL.out,J.out];omega) (by rw[J.out];exact dN) (gG _ _) ?_;have U:=K.out.dQ (m:=B) (t:=x) (ak 225) XL.out;have OB:=Zd<|OB.out.aH U.2 K.out (by decide);have D:=Zd<|D.out.aH U.2 K.out (by decide);refine d.out _ _ (jq a U.2 HB.out) λa=>?_;clear d;(try simp only[sZ]);refine aV 20 a ?_;refine aV 21 a ?_;refine aV 22 a ?_;refine jX ?_;go_wp2_with fail;go_meet;exact⟨j.heap.size,rfl,rfl,U.1,OB.out,D.out,HB.out,a⟩
    case rest=>
    obtain⟨bn,rfl,rfl,bf,ob,v,cU,g1⟩:=hcut;obtain⟨ab,nb,cb,rfl⟩:=qC ob.xJ;obtain⟨F,H,G,rfl⟩:=qC v.xJ;have X:=Zd<|T0.out.aC g1;have T2:=Zd<|(X.out.ans 0 (.int .i64 z)).ans 2 (.slice ab nb cb);have az:=X.out.an.cell 0;have bo:=X.out.an.free 0;have cj:=(X.out.ans 0 (.int .i64 z)).an.cell 2;have cR:=(X.out.ans 0 (.int .i64 z)).an.free 2;have aA:=T2.out.an.cell 3;have bp:=T2.out.an.free 3;have Y:=Zd<|T2.out.ans 3 (.slice F H G);simp[dh]at az cj aA;have bj:=Zd<|((ob.base S0.out).bH (aD _ ⟨g.heap.size+2,0,none⟩ (.int .i64 z)) (show g.heap.size+2<_ by omega)).bH (aD _ ⟨g.heap.size+2,2,none⟩ (.slice ab nb cb)) (show g.heap.size+2<_ by omega) |>.bH (aD _ ⟨g.heap.size+2,3,none⟩ (.slice F H G)) (show g.heap.size+2<_ by omega);have aa:=Zd<|((v.base S0.out).bH (aD _ ⟨g.heap.size+2,0,none⟩ (.int .i64 z)) (show g.heap.size+2<_ by omega)).bH (aD _ ⟨g.heap.size+2,2,none⟩ (.slice ab nb cb)) (show g.heap.size+2<_ by omega) |>.bH (aD _ ⟨g.heap.size+2,3,none⟩ (.slice F H G)) (show g.heap.size+2<_ by omega);have N3:=Zd<|(((show aW wc bn _ _ from bf).aH (aD _ ⟨g.heap.size+2,0,none⟩ (.int .i64 z)) (show bn≠g.heap.size+2 by have:=S0.out;omega)).aH (aD _ ⟨g.heap.size+2,2,none⟩ (.slice ab nb cb)) (show bn≠g.heap.size+2 by have:=S0.out;omega)).aH (aD _ ⟨g.heap.size+2,3,none⟩ (.slice F H G)) (show bn≠g.heap.size+2 by have:=S0.out;omega);clear T0 X T2 ob v bf g1 af am aC aE DE;go_upto_region 26 with fail;clear az bo cj cR aA bp;generalize ((wc.setCell ⟨g.heap.size+2,0,none⟩ (.int .i64 z)).setCell ⟨g.heap.size+2,2,none⟩ (.slice ab nb cb)).setCell ⟨g.heap.size+2,3,none⟩ (.slice F H G)=O at *
    by_cases hE:z=0
    .have FI:=Zd λm a3 ob v=>TU.out _ z ab nb cb F H G m (by have:=p.out;omega) (by have:=p.out;omega) (SK.out hE) (SO.out hE) SY.out a3 (SW.out ▸ ob) (SZ.out ▸ v);clear TU SO SN SK SY SW SZ;subst hE;replace Y:=Zd<|Y.out.aC (aS O);replace bj:=Zd<|bj.out.aC (aS O);replace aa:=Zd<|aa.out.aC (aS O);go_upto_region 27 with fail;refine bW 8 (λm=>m=O.drew) 9 (by rfl) _ rfl (by kernel_rfl) λb=>?_;have a:=(rfl:O.drew=O.drew);refine aZ 0 a b λb=>?_;refine aZ 1 a b λb=>?_;refine aZ 2 a b λb=>?_;refine iN (hy:=by intro n f;(try dsimp only at f);subst f;have t:=Y.out.dk.cell 1;simp at t;go_simp;(try with_reducible rfl)) (v:=(.slice (some ⟨k,0,none⟩) P.length u)) 3 a b λb=>?_;refine aZ 4 a b λb=>?_;refine iN (hy:=by intro n f;(try dsimp only at f);subst f;exact bS rfl rfl (show aW O.drew bn _ _ from N3.out) _ underlying55 rfl dN (by rw[J.out];omega) _ AX.out) (v:=.agg (bV B x).toArray) 5 a b λb=>?_;refine aZ (v:=.pointer (some ⟨k,A.length*328,none⟩)) 6 a b λb=>?_;refine aZ (v:=.pointer (some ⟨k,A.length*328,none⟩)) 7 a b λb=>?_;refine jY 8 b λw d=>?_;(try simp only[sZ]);have P4:=Y.out.put (A.length*328) (bV B x) (by rw[J.out];have:=BE.out;omega);refine dD rfl 55 _ _ rfl k (A.length*328) 59 (xC A++(gN e++ah)) (bV B x) rfl rfl Y.out.ln (by rw[J.out];have:=BE.out;omega) (by rw[J.out];exact dN) OX.out ?_;refine d.out _ _ (λr=>by cases r) λb=>?_;clear d a;(try simp only[sZ]);refine bI _ _ _ _ (by rfl) ?_;refine wm ?_;go_wp2_with fail;go_meet;have P5:=P4.1;rw[bb.out]at P5;exact FI.out _ P5 (bj.out.bH P4.2 (by have:=Y.out.lt;omega)) (aa.out.bH P4.2 (by have:=Y.out.lt;omega))
    have R:=Zd<|TU.out e z ab nb cb F H G O (by have:=p.out;omega) (by have:=p.out;omega) M.out (SN.out hE) SY.out Y.out (SW.out ▸ bj.out) (SZ.out ▸ aa.out);have cT:(z==0)=false:=beq_eq_false_iff_ne.2 hE;clear TU SO SN SK SY SW SZ;go_wp2_with fail;go_meet;exact R.out
   by_cases h3:c.k=3
   .as_aux_lemma=>
    rw[h3]at af;have p:=Zd h3;have DE:=Zd λwr (s:j.grownBy wr none)=>PD.out e.m e.u M.out.ml M.out.mg (.slice a2 n2 c2) c.b wr (ay (ay GW.out E.out.gr) s) (jy HC.out.ib (ay E.out.gr s)) HC.out.sb HC.out.bb HC.out.nb;have XL:=Zd<|Ky c.b M.out.ml;have ME:=Zd<|ali (R:=ah) M.out LA.out;have ZL:=Zd<|aJ (ak 101) false;have hy:=dM;have bb:=Zd<|ahr (R:=ah) M.out LA.out (r_ e.m c.b) XL.out;have k2:¬c.k=2:=gO;have SO:=Zd λ(l:kM e.m c.b=0)=>(show Um e c=some ⟨e.e,e.t,mV e.m c.b,r_ e.m c.b⟩ by unfold Um ssD;rw[X9 k2,Q9 p.out,Q9 l]);have SN:=Zd λ(l:¬kM e.m c.b=0)=>(show Um e c=some e by unfold Um ssD;rw[X9 k2,Q9 p.out,X9 l]);have SK:=Zd λ(l:kM e.m c.b=0)=>(show jA ⟨e.e,e.t,mV e.m c.b,r_ e.m c.b⟩ by have:=ahi M.out c.b;unfold ssD at this;rwa [Q9 l]at this);have SY:=Zs (F6 e c=kM e.m c.b) (by unfold F6;rw[X9 k2,Q9 p.out]);have SW:=Zs (XF e c=[]) (by unfold XF;rw[X9 k2]);have SZ:=Zs (Ul e c=nP e.m c.b) (by unfold Ul;rw[X9 k2,Q9 p.out]);unfold fu bL at DE;unfold bL at hy;clear h4 h1 h2 h3 k2 PC PD PE PB PF bg GW HC ck fk;generalize mV e.m c.b=B at *
    generalize r_ e.m c.b=x at *
    generalize nP e.m c.b=HH at *
    generalize kM e.m c.b=z at *
    have J:=Zd<|aJ XL.out x;have AX:=Zd<|bU.all x XL.out;have OX:=Zd<|bO B x;go_upto_region 29 with fail;go_cut [13,14,15]from 184 (λc6 c7 c9 wx=>ant j B x HH z c6 c7 c9 wx)
    case first=>
     refine wp_region_held_drew (S:=dB j) (by kernel_rfl) (aS _) λa=>?_;refine aV 0 a ?_;refine aV 1 a ?_;refine aV 2 a ?_;refine aV (hy:=by intro n f;have t:=(ad.out.dk.aC f).cell 1;simp at t;go_simp;(try with_reducible rfl)) (v:=(.slice (some ⟨k,0,none⟩) P.length u)) 3 a ?_;refine aV 4 a ?_;refine aV (v:=.pointer (some ⟨k,A.length*328,none⟩)) 5 a ?_;refine aV (v:=.pointer (some ⟨k,A.length*328+226,none⟩)) 6 a ?_;refine aV (hy:=by intro n f;exact bS rfl rfl (LB.out.aC f) _ underlying53 rfl aK (by have:=BE.out;omega) _ ME.out) (v:=.agg (aP e.m e.u).toArray) 7 a ?_;refine aV 8 a ?_;refine aV (hy:=by intro n f;have t:=(E.out.cl.aC f).cell 4;simp[jL]at t;go_simp;(try with_reducible rfl)) (v:=.slice a2 n2 c2) 9 a ?_;refine qN 10 15 (λw d=>?cD) λw d=>?cE
     case cD=>
      (try simp only[sZ]);go_simp;refine(DE.out _ a).mono ?_;rintro o aq ⟨vl,rfl,v,cg⟩;have cF:=Zd cg;have D:=Zd<|v.base (b':=j.heap.size) (K4 a);clear cg v;(try unfold bL);(try unfold gu);go_wp2_with fail;refine d.out _ _ (aX a cF.out) λa=>?_;clear d;(try simp only[sZ]);refine aV 11 a ?_;refine aV 12 a ?_;refine aV 13 a ?_;refine aV 14 a ?_;refine eU 15 λw d=>?_;(try simp only[sZ]);go_simp;go_wp2_with fail;have HB:=Zs (j.heap.size<=aq.heap.size) (by first|exact Q6 _|exact K4 a);refine d.out _ _ (dZ a (.cells (aP (au 101) false).toArray 53)) λa=>?_;clear d;have K:=Zs (bU (aq.alloc (.cells (aP (au 101) false).toArray 53)) aq.heap.size (au 101) false) (bU.new aq (au 101) false);have D:=Zd<|D.out.aC (aj aq (.cells (aP (au 101) false).toArray 53) none);generalize aq.alloc (.cells (aP (au 101) false).toArray 53)=dg at *
      (try simp only[sZ]);refine eU 16 λw d=>?_;(try simp only[sZ]);refine dD rfl 53 _ _ rfl (aq.heap.size) 0 53 (aP (au 101) false) (aP B x) rfl rfl K.out (by rw[ZL.out,J.out];omega) (by rw[J.out];exact aK) (bO _ _) ?_;have U:=K.out.dQ (m:=B) (t:=x) (ak 101) XL.out;have D:=Zd<|D.out.aH U.2 K.out (by decide);refine d.out _ _ (jq a U.2 HB.out) λa=>?_;clear d;(try simp only[sZ]);refine aV 17 a ?_;refine aV 18 a ?_;refine jX ?_;go_wp2_with fail;go_meet;exact⟨aq.heap.size,rfl,rfl,U.1,D.out,HB.out,a⟩
     case cE=>
      (try simp only[sZ]);go_simp;go_wp2_with fail;have HB:=Zs (j.heap.size<=j.heap.size) (by first|exact Q6 _|exact K4 a);refine d.out _ _ (dZ a (.cells (aP (au 101) false).toArray 53)) λa=>?_;clear d;have K:=Zs (bU ((j.alloc (.cells (aP (au 101) false).toArray 53)).drew) j.heap.size (au 101) false) (bU.new j.drew (au 101) false);generalize (j.alloc (.cells (aP (au 101) false).toArray 53)).drew=di at *
      (try simp only[sZ]);refine eU 10 λw d=>?_;(try simp only[sZ]);go_simp;refine(DE.out _ a).mono ?_;rintro o dq ⟨vl,rfl,v,ch⟩;have ci:=Zd ch;have D:=Zd<|v.base (b':=j.heap.size) (K4 a);clear ch v;(try unfold bL);(try unfold gu);go_wp2_with fail;refine d.out _ _ (aX a ci.out) λa=>?_;clear d;have K:=Zd<|K.out.aC ci.out;(try simp only[sZ]);refine aV 11 a ?_;refine aV 12 a ?_;refine aV 13 a ?_;refine aV 14 a ?_;refine eU 16 λw d=>?_;(try simp only[sZ]);refine dD rfl 53 _ _ rfl (j.heap.size) 0 53 (aP (au 101) false) (aP B x) rfl rfl K.out (by rw[ZL.out,J.out];omega) (by rw[J.out];exact aK) (bO _ _) ?_;have U:=K.out.dQ (m:=B) (t:=x) (ak 101) XL.out;have D:=Zd<|D.out.aH U.2 K.out (by decide);refine d.out _ _ (jq a U.2 HB.out) λa=>?_;clear d;(try simp only[sZ]);refine aV 17 a ?_;refine aV 18 a ?_;refine jX ?_;go_wp2_with fail;go_meet;exact⟨j.heap.size,rfl,rfl,U.1,D.out,HB.out,a⟩
    case rest=>
    obtain⟨bn,rfl,rfl,bf,v,cU,g1⟩:=hcut;obtain⟨F,H,G,rfl⟩:=qC v.xJ;have X:=Zd<|T0.out.aC g1;have T2:=Zd<|X.out.ans 0 (.int .i64 z);have az:=X.out.an.cell 0;have bo:=X.out.an.free 0;have aA:=T2.out.an.cell 3;have bp:=T2.out.an.free 3;have Y:=Zd<|T2.out.ans 3 (.slice F H G);simp[dh]at az aA;have aa:=Zd<|(v.base S0.out).bH (aD _ ⟨g.heap.size+2,0,none⟩ (.int .i64 z)) (show g.heap.size+2<_ by omega) |>.bH (aD _ ⟨g.heap.size+2,3,none⟩ (.slice F H G)) (show g.heap.size+2<_ by omega);have N3:=Zd<|((show aW wc bn _ _ from bf).aH (aD _ ⟨g.heap.size+2,0,none⟩ (.int .i64 z)) (show bn≠g.heap.size+2 by have:=S0.out;omega)).aH (aD _ ⟨g.heap.size+2,3,none⟩ (.slice F H G)) (show bn≠g.heap.size+2 by have:=S0.out;omega);clear T0 X T2 v bf g1 af am aC aE DE;go_upto_region 31 with fail;clear az bo aA bp;generalize (wc.setCell ⟨g.heap.size+2,0,none⟩ (.int .i64 z)).setCell ⟨g.heap.size+2,3,none⟩ (.slice F H G)=O at *
    by_cases hE:z=0
    .have FI:=Zd λm a3 v=>TU.out _ z none 0 0 F H G m (by have:=p.out;omega) (by have:=p.out;omega) (SK.out hE) (SO.out hE) SY.out a3 (SW.out ▸ je _ _) (SZ.out ▸ v);clear TU SO SN SK SY SW SZ;subst hE;replace Y:=Zd<|Y.out.aC (aS O);replace aa:=Zd<|aa.out.aC (aS O);go_upto_region 32 with fail;refine bW 8 (λm=>m=O.drew) 9 (by rfl) _ rfl (by kernel_rfl) λb=>?_;have a:=(rfl:O.drew=O.drew);refine aZ 0 a b λb=>?_;refine aZ 1 a b λb=>?_;refine aZ 2 a b λb=>?_;refine iN (hy:=by intro n f;(try dsimp only at f);subst f;have t:=Y.out.dk.cell 1;simp at t;go_simp;(try with_reducible rfl)) (v:=(.slice (some ⟨k,0,none⟩) P.length u)) 3 a b λb=>?_;refine aZ 4 a b λb=>?_;refine iN (hy:=by intro n f;(try dsimp only at f);subst f;exact bS rfl rfl (show aW O.drew bn _ _ from N3.out) _ underlying53 rfl aK (by rw[J.out];omega) _ AX.out) (v:=.agg (aP B x).toArray) 5 a b λb=>?_;refine aZ (v:=.pointer (some ⟨k,A.length*328,none⟩)) 6 a b λb=>?_;refine aZ (v:=.pointer (some ⟨k,A.length*328+226,none⟩)) 7 a b λb=>?_;refine jY 8 b λw d=>?_;(try simp only[sZ]);have P4:=Y.out.put (A.length*328+226) (aP B x) (by rw[J.out];have:=BE.out;omega);refine dD rfl 53 _ _ rfl k (A.length*328+226) 59 (xC A++(gN e++ah)) (aP B x) rfl rfl Y.out.ln (by rw[J.out];have:=BE.out;omega) (by rw[J.out];exact aK) OX.out ?_;refine d.out _ _ (λr=>by cases r) λb=>?_;clear d a;(try simp only[sZ]);refine bI _ _ _ _ (by rfl) ?_;refine wm ?_;go_wp2_with fail;go_meet;have P5:=P4.1;rw[bb.out]at P5;exact FI.out _ P5 (aa.out.bH P4.2 (by have:=Y.out.lt;omega))
    have R:=Zd<|TU.out e z none 0 0 F H G O (by have:=p.out;omega) (by have:=p.out;omega) M.out (SN.out hE) SY.out Y.out (SW.out ▸ je _ _) (SZ.out ▸ aa.out);have cT:(z==0)=false:=beq_eq_false_iff_ne.2 hE;clear TU SO SN SK SY SW SZ;go_wp2_with fail;go_meet;exact R.out
   by_cases h5:c.k=4
   .as_aux_lemma=>
    rw[h5]at af;have p:=Zd h5;have DE:=Zd λwr (s:j.grownBy wr none)=>PE.out e.m e.u M.out.ml M.out.mg wr (ay (ay GW.out E.out.gr) s);have XL:=Zd<|Lc e.m M.out.ml;have ME:=Zd<|ali (R:=ah) M.out LA.out;have bb:=Zd<|ahr (R:=ah) M.out LA.out (sG e.m e.u) XL.out;have k2:¬c.k=2:=gO;have FI:=Zd λm F H G a3 (v:fO (g.heap.size+3) m (.slice F H G) (qI e.m))=>TU.out ⟨e.e,e.t,qV e.m,sG e.m e.u⟩ (qg e.m) none 0 0 F H G m gO gO (ahj M.out) (by unfold Um ssR;rw[X9 k2,X9 h3,Q9 h5]) (by unfold F6;rw[X9 k2,X9 h3,Q9 h5]) a3 (by unfold XF;rw[X9 k2];exact je _ _) (by unfold Ul;rw[X9 k2,X9 h3,Q9 h5];exact v);unfold fu bL at DE;clear h4 h1 h2 h3 h5 k2 PC PD PE PB PF bg TU GW HC ck fk;generalize qV e.m=B at *
    generalize sG e.m e.u=x at *
    generalize qI e.m=HH at *
    generalize qg e.m=z at *
    have J:=Zd<|aJ XL.out x;have OX:=Zd<|bO B x;go_upto_region 34 with fail;clear aC aE af am;refine bW 20 (λm=>j.grownBy m none) 25 (by rfl) _ rfl (by kernel_rfl) λb=>?_;have a:=(aS j);refine aZ 0 a b λb=>?_;refine aZ 1 a b λb=>?_;refine aZ 2 a b λb=>?_;refine iN (hy:=by intro n f;(try dsimp only at f);have t:=(ad.out.dk.aC f).cell 1;simp at t;go_simp;(try with_reducible rfl)) (v:=(.slice (some ⟨k,0,none⟩) P.length u)) 3 a b λb=>?_;refine aZ 4 a b λb=>?_;refine aZ 5 a b λb=>?_;refine aZ 6 a b λb=>?_;refine aZ 7 a b λb=>?_;refine iN (hy:=by intro n f;(try dsimp only at f);have t:=(ad.out.dk.aC f).cell 1;simp at t;go_simp;(try with_reducible rfl)) (v:=(.slice (some ⟨k,0,none⟩) P.length u)) 8 a b λb=>?_;refine aZ 9 a b λb=>?_;refine aZ (v:=.pointer (some ⟨k,A.length*328,none⟩)) 10 a b λb=>?_;refine aZ (v:=.pointer (some ⟨k,A.length*328+226,none⟩)) 11 a b λb=>?_;refine iN (hy:=by intro n f;(try dsimp only at f);exact bS rfl rfl (LB.out.aC f) _ underlying53 rfl aK (by have:=BE.out;omega) _ ME.out) (v:=.agg (aP e.m e.u).toArray) 12 a b λb=>?_;refine jY 13 b λw d=>?_;(try simp only[sZ]);go_simp;refine(DE.out _ a).mono ?_;rintro o W1 ⟨vr,rfl,v,g1⟩;obtain⟨F,H,G,rfl⟩:=qC v.xJ;have D:=Zd<|v.base (b':=g.heap.size+3) (YM S0.out (K4 a));clear v;go_wp2_with fail;have q:=ay a g1;refine d.out _ _ (λ_=>q) λb=>?_;clear d;replace a:=q;clear q;(try simp only[sZ]);refine aZ 14 a b λb=>?_;refine aZ 15 a b λb=>?_;refine iB (i:=16) (v:=?dr) rfl (by kernel_rfl) b (λ_ _ _ r=>r) (Or.inl ⟨by rfl,?cG⟩) a λb=>?ds
    case cG=>(intro n _;go_simp;(try with_reducible rfl))
    (try simp only[sZ]);refine iB (i:=17) (v:=?dt) rfl (by kernel_rfl) b (λ_ _ _ r=>r) (Or.inl ⟨by rfl,?cH⟩) a λb=>?du
    case cH=>(intro n _;go_simp;(try with_reducible rfl))
    (try simp only[sZ]);refine aZ (v:=.pointer (some ⟨k,A.length*328,none⟩)) 18 a b λb=>?_;refine aZ (v:=.pointer (some ⟨k,A.length*328+226,none⟩)) 19 a b λb=>?_;refine jY 20 b λw d=>?_;(try simp only[sZ]);have X:=T0.out.aC a;have P4:=X.put (A.length*328+226) (aP B x) (by rw[J.out];have:=BE.out;omega);have LT:=X.lt;have T4:=P4.1;rw[bb.out]at T4;replace T4:=Zd T4;have a6:=Zd<|D.out.bH P4.2 gO;refine dD rfl 53 _ _ rfl k (A.length*328+226) 59 (xC A++(gN e++ah)) (aP B x) rfl rfl X.ln (by rw[J.out];have:=BE.out;omega) (by rw[J.out];exact aK) OX.out ?_;refine d.out _ _ (λr=>by cases r) λb=>?_;clear d a;(try simp only[sZ]);clear X P4 g1 D;generalize dz W1 k (A.length*328+226) (aP B x)=W4 at *
    have aA:=T4.out.an.cell 3;have bp:=T4.out.an.free 3;have az:=(T4.out.ans 3 (.slice F H G)).an.cell 0;have bo:=(T4.out.ans 3 (.slice F H G)).an.free 0;simp[dh]at aA az;refine bI _ _ _ _ (by rfl) ?_;refine wpAny_take (i:=21) (v:=?dv) rfl (by kernel_rfl) (by kernel_rfl) (by kernel_rfl) (λ_ _ _ r=>r) (Or.inl ⟨by rfl,?cI⟩) ?dw
    case cI=>(intro n;go_simp;(try with_reducible rfl))
    (try simp only[sZ]);refine wpAny_ready (rs:=[22]) (by kernel_rfl) (by simp) (AllReady.cons rfl (λw d=>?_) AllReady.nil);(try simp only[sZ]);have p:=Zd d;clear d;go_simp;go_wp2_with fail;refine p.out _ _ ?_;clear p;(try simp only[sZ]);refine wpAny_take (i:=23) (v:=?dx) rfl (by kernel_rfl) (by kernel_rfl) (by kernel_rfl) (λ_ _ _ r=>r) (Or.inl ⟨by rfl,?cJ⟩) ?dy
    case cJ=>(intro n;go_simp;(try with_reducible rfl))
    (try simp only[sZ]);refine wpAny_ready (rs:=[24]) (by kernel_rfl) (by simp) (AllReady.cons rfl (λw d=>?_) AllReady.nil);(try simp only[sZ]);have p:=Zd d;clear d;go_simp;go_wp2_with fail;refine p.out _ _ ?_;clear p;(try simp only[sZ]);refine wm ?_;go_wp2_with fail;go_meet;exact FI.out _ _ _ _ ((T4.out.ans 3 (.slice F H G)).ans 0 (.int .i64 z)) ((a6.out.bH (aD _ ⟨g.heap.size+2,3,none⟩ (.slice F H G)) (show g.heap.size+2<_ by omega)).bH (aD _ ⟨g.heap.size+2,0,none⟩ (.int .i64 z)) (show g.heap.size+2<_ by omega))
   as_aux_lemma=>
   have bz:c.k=5:=gO;rw[bz]at af;obtain⟨Q,rfl⟩:=FV.out gO;have p:=Zd bz;have HN:=Zs (P.length=A.length+1+(P.length-(A.length+1))) gO;have b3:=Zs (ag.length=P.length-(A.length+1)) (by rw[HP.out];simp;omega);have eV:(sP P).map (Value.int .i64)=(sP A).map (Value.int .i64)++([.int .i64 c.v]++(sP ag).map (Value.int .i64)):=by rw[HP.out,yh];simp
   have eL:xC P=xC A++(gN e++xC ag):=by rw[HP.out,Az]
   have bx:=Zs (j.drew.ownsRow ai 3 1 (.slice (some ⟨Q,0,none⟩) P.length y) P.length ((sP A).map (Value.int .i64)++([.int .i64 c.v]++(sP ag).map (Value.int .i64)))) (eV ▸ bk.out);have bw:=Zs (j.drew.ownsRow ai 59 328 (.slice (some ⟨k,0,none⟩) P.length u) P.length (xC A++(gN e++xC ag))) (eL ▸ ad.out.ol);have XA:=Zs (((sP A).map (Value.int .i64)).length=A.length*1) (by rw[GK,vF];omega);have cs:=Zs (((sP ag).map (Value.int .i64)).length=(P.length-(A.length+1))*1) (by rw[GK,vF,b3.out];omega);have ct:=Zs ((xC ag).length=(P.length-(A.length+1))*328) (by rw[Uo (λa0 s=>T.out.ok a0 (by rw[HP.out];exact PZ _ (List.mem_cons_of_mem _ s))),b3.out]);have cq:=Zs (∀m∈(sP ag).map (Value.int .i64),m.oneCell'=true) (λm hu=>by obtain⟨a4,_,rfl⟩:=List.mem_map.1 hu;rfl);have SL:=Zd<|mh M.out;have db:=λm=>adG ajR Q (n:=P.length) (c:=y) (k:=A.length) gO m;have dc:=λm=>adG ajS k (n:=P.length) (c:=u) (k:=A.length) gO m;obtain⟨b9,cN,bC⟩:=adH ajR (g:=Q) (n:=P.length) (c:=y) (k:=A.length+1) gO cW;obtain⟨ca,cP,bE⟩:=adH ajS (g:=k) (n:=P.length) (c:=u) (k:=A.length+1) gO cV;have bC:∀m,Sem.run prog (Instr.slice 26 (.slice (some ⟨Q,0,none⟩) P.length y) (some (.int .i64 ((A.length:Int)+1))) none none) m=.ok (.slice (some b9) (P.length-(A.length+1)) (y-(A.length+1))) m:=bC;have bE:∀m,Sem.run prog (Instr.slice 27 (.slice (some ⟨k,0,none⟩) P.length u) (some (.int .i64 ((A.length:Int)+1))) none none) m=.ok (.slice (some ca) (P.length-(A.length+1)) (u-(A.length+1))) m:=bE;have bs:=Zd<|Gb bk.out ad.out.dk (by decide) Q rfl;have bt:=Zd<|Gb ad.out.ol ad.out.dk (by decide) k rfl;have bh:=Zd ad.out.dk;have DL:=Zs (C<g.heap.size) ((T.out.lt C (.inl rfl)).2);have cu:=Zs (Q<g.heap.size) ((T.out.lt Q (.inr (.inl rfl))).2);have cp:=Zs (k<g.heap.size) ((T.out.lt k (.inr (.inr rfl))).2);have Q0:=E.out.q T.out GW.out;have U0:=Zs (RkU g c (λi=>Oh C (.slice (some ⟨Q,0,none⟩) P.length y) (.slice (some ⟨k,0,none⟩) P.length u) i\/g.heap.size<=i) j.drew) (⟨Q0.zz,Q0.an,Q0.tr⟩);clear h4 h1 h2 h3 h5 bz PC PD PE PB PF TU GW HC ck fk eV eL Q0;go_upto_region 9 with fail;clear aC aE af am;refine bW 17 (λm=>aW m C 29 [(.slice (some ⟨Q,0,none⟩) P.length y),(.slice (some ⟨k,0,none⟩) P.length u)]) 18 (by rfl) _ rfl (by kernel_rfl) λb=>?_;have a:=(show aW j.drew C 29 _ from bh.out);refine aZ 0 a b λb=>?_;refine aZ 1 a b λb=>?_;refine aZ 2 a b λb=>?_;refine aZ 3 a b λb=>?_;refine iN (hy:=by intro n f;(try dsimp only at f);have t:=aW.cell f 0;simp at t;go_simp;(try with_reducible rfl)) (v:=(.slice (some ⟨Q,0,none⟩) P.length y)) 4 a b λb=>?_;refine aZ 5 a b λb=>?_;refine iN (hy:=by intro n f;(try dsimp only at f);have s:=db;go_simp;(try with_reducible rfl)) (v:=.slice (some ⟨Q,0,none⟩) A.length y) 6 a b λb=>?_;refine aZ 7 a b λb=>?_;refine aZ 8 a b λb=>?_;refine aZ 9 a b λb=>?_;refine iN (hy:=by intro n f;(try dsimp only at f);have t:=aW.cell f 0;simp at t;go_simp;(try with_reducible rfl)) (v:=(.slice (some ⟨Q,0,none⟩) P.length y)) 10 a b λb=>?_;refine aZ 11 a b λb=>?_;refine iN (hy:=by intro n f;(try dsimp only at f);go_simp;(try simp only[eG _ (show -9223372036854775808<=(A.length:Int)+1 by omega) (show(A.length:Int)+1<=9223372036854775807 by omega)])) (v:=.int .i64 ((A.length:Int)+1)) 12 a b λb=>?_;refine iN (hy:=by intro n f;(try dsimp only at f);have s:=bC;go_simp;(try with_reducible rfl)) (v:=.slice (some b9) (P.length-(A.length+1)) (y-(A.length+1))) 13 a b λb=>?_;refine jY 14 b λw d=>?_;(try simp only[sZ]);refine Rh rfl _ _ 26 rfl ajR bx.out HN.out XA.out rfl cs.out cN rfl rfl cq.out ?_;intro W1 o1 g1;have a5:=Zd<|gK bw.out g1 (λi o l=>by cases o;exact Jw bx.out bw.out (by decide) _ rfl l);have G1:=Zd g1;have aw:=Zd o1;have q:=aW.aH a g1 bs.out;refine d.out _ _ (λ_=>q) λb=>?_;clear d;replace a:=q;clear q;(try simp only[sZ]);refine aZ 15 a b λb=>?_;refine aZ 16 a b λb=>?_;refine jY 17 b λw d=>?_;(try simp only[sZ]);have ck:=aW.cell a 0;have fk:=aW.free a 0;have DK:=Zd<|aW.set a 0 (.slice (some ⟨Q,0,none⟩) (A.length+(P.length-(A.length+1))) y);simp at ck;go_simp;go_wp2_with fail;refine d.out _ _ (λr=>by cases r) λb=>?_;clear d a;(try simp only[sZ]);refine bI _ _ _ _ (by rfl) ?_;refine wm ?_;have b1:=Zs (aW (W1.setCell ⟨C,0,none⟩ (.slice (some ⟨Q,0,none⟩) (A.length+(P.length-(A.length+1))) y)) C 29 [(.slice (some ⟨Q,0,none⟩) (A.length+(P.length-(A.length+1))) y),(.slice (some ⟨k,0,none⟩) P.length u)]) (DK.out);have gD:=aD W1 ⟨C,0,none⟩ (.slice (some ⟨Q,0,none⟩) (A.length+(P.length-(A.length+1))) y);have U2:=Zd<|(U0.out.but G1.out cu.out (.inl (.inr (.inl rfl)))).but gD DL.out (.inl (.inl rfl));have ax:=Zd<|gK aw.out gD (λi o l=>by cases o;cases l;exact bs.out rfl);have ar:=Zd<|gK a5.out gD (λi o l=>by cases o;cases l;exact bt.out rfl);clear DK gD U0 aw a5 G1 bx bw bh;go_upto_region 10 with fail;generalize W1.setCell ⟨C,0,none⟩ (.slice (some ⟨Q,0,none⟩) (A.length+(P.length-(A.length+1))) y)=W2 at *
   have bh:=Zd b1.out;replace ax:=Zs (W2.drew.ownsRow _ _ _ _ _ _) (ax.out);replace ar:=Zs (W2.drew.ownsRow _ _ _ _ _ _) (ar.out);clear b1;refine bW 17 (λm=>aW m C 29 [(.slice (some ⟨Q,0,none⟩) (A.length+(P.length-(A.length+1))) y),(.slice (some ⟨k,0,none⟩) P.length u)]) 18 (by rfl) _ rfl (by kernel_rfl) λb=>?_;have a:=(show aW W2.drew C 29 _ from bh.out);refine aZ 0 a b λb=>?_;refine aZ 1 a b λb=>?_;refine aZ 2 a b λb=>?_;refine aZ 3 a b λb=>?_;refine iN (hy:=by intro n f;(try dsimp only at f);have t:=aW.cell f 1;simp at t;go_simp;(try with_reducible rfl)) (v:=(.slice (some ⟨k,0,none⟩) P.length u)) 4 a b λb=>?_;refine aZ 5 a b λb=>?_;refine iN (hy:=by intro n f;(try dsimp only at f);have s:=dc;go_simp;(try with_reducible rfl)) (v:=.slice (some ⟨k,0,none⟩) A.length u) 6 a b λb=>?_;refine aZ 7 a b λb=>?_;refine aZ 8 a b λb=>?_;refine aZ 9 a b λb=>?_;refine iN (hy:=by intro n f;(try dsimp only at f);have t:=aW.cell f 1;simp at t;go_simp;(try with_reducible rfl)) (v:=(.slice (some ⟨k,0,none⟩) P.length u)) 10 a b λb=>?_;refine aZ 11 a b λb=>?_;refine iN (hy:=by intro n f;(try dsimp only at f);go_simp;(try simp only[eG _ (show -9223372036854775808<=(A.length:Int)+1 by omega) (show(A.length:Int)+1<=9223372036854775807 by omega)])) (v:=.int .i64 ((A.length:Int)+1)) 12 a b λb=>?_;refine iN (hy:=by intro n f;(try dsimp only at f);have s:=bE;go_simp;(try with_reducible rfl)) (v:=.slice (some ca) (P.length-(A.length+1)) (u-(A.length+1))) 13 a b λb=>?_;refine jY 14 b λw d=>?_;(try simp only[sZ]);refine Rh rfl _ _ 27 rfl ajS ar.out HN.out LA.out SL.out ct.out cP rfl rfl (ajP ag) ?_;intro O o3 g3;have bl:=Zd<|gK ax.out g3 (λi o l=>by cases o;exact Jw ax.out ar.out (by decide) _ l rfl);have G3:=Zd g3;have aa:=Zd o3;have q:=aW.aH a g3 bt.out;refine d.out _ _ (λ_=>q) λb=>?_;clear d;replace a:=q;clear q;(try simp only[sZ]);refine aZ 15 a b λb=>?_;refine aZ 16 a b λb=>?_;refine jY 17 b λw d=>?_;(try simp only[sZ]);have ck:=aW.cell a 1;have fk:=aW.free a 1;have DK:=Zd<|aW.set a 1 (.slice (some ⟨k,0,none⟩) (A.length+(P.length-(A.length+1))) u);simp at ck;go_simp;go_wp2_with fail;refine d.out _ _ (λr=>by cases r) λb=>?_;clear d a;(try simp only[sZ]);refine bI _ _ _ _ (by rfl) ?_;refine wm ?_;have gD:=aD O ⟨C,1,none⟩ (.slice (some ⟨k,0,none⟩) (A.length+(P.length-(A.length+1))) u);have U4:=Zd<|((show RkU g c _ W2.drew from⟨U2.out.zz,U2.out.an,U2.out.tr.step (bB (aM W2 none)) (λi o=>by cases o)⟩:RkU g c (λi=>Oh C (.slice (some ⟨Q,0,none⟩) P.length y) (.slice (some ⟨k,0,none⟩) P.length u) i\/g.heap.size<=i) W2.drew).but G3.out cp.out (.inl (.inr (.inr rfl)))).but gD DL.out (.inl (.inl rfl));have bm:=Zd<|gK bl.out gD (λi o l=>by cases o;cases l;exact bs.out rfl);have a6:=Zd<|gK aa.out gD (λi o l=>by cases o;cases l;exact bt.out rfl);go_wp2_with fail;go_meet;exact bg.out _ _ _ p.out DK.out U4.out.zz U4.out.an bm.out a6.out U4.out.tr rfl rfl
  case rest=>
  obtain⟨en,i,ba,a9,a7,n',c',P',bX,bR,br⟩:=hcut;have R:=Zd λn k=>bi.out wc en _ _ P' bX bR br n k;have AN:=Zd br.an;have ZZ:=Zd br.zz;have a0:=F9 (en':=en) (v':=c.v) (vb':=.slice i ba a9) (vl':=.slice a7 n' c') ZZ.out;have cY:=qB a0.1;replace R:=Zd<|R.out _ a0.2;have O3:=Zd<|iK en c.v i ba a9 a7 n' c';clear a0 br bi aC aE af am ck fk;go_wp2_with (first|refine lV 0 AN.out jR (by simp[gQ]) rfl ?_|refine sV 0 (dh en c.v (.slice i ba a9) (.slice a7 n' c')) ZZ.out (by simp[gQ]) jR O3.out ?_);refine QB (v:=.agg (dh en c.v (.slice i ba a9) (.slice a7 n' c')).toArray) ?_ rfl R.out;simp[results,results8,asAddr,Act.put,cY]
def amW (a:W):Sem.run prog (zeroValue 37) a=.ok (.agg (jL ⟨0,0,false,[],[]⟩ N N).toArray) a:=by kernel_rfl
def aj3 (e:Cl)(c:Option Addr)(h f:Nat)(d:Option Addr)(i g:Nat):∀b∈jL e (.slice c h f) (.slice d i g),b.oneCell'=true:=by intro b a;simp[jL]at a;rcases a with rfl|rfl|rfl|rfl|rfl<;>rfl
def amX {W:World}{a:Cl}(b:aW W n 37 (jL a x v')):Sem.run prog (loadVar 37 (A n 0)) W=.ok (.agg (jL a x v').toArray) W:=
 qG b zH
def clP {W:World}{a c':Cl}{vs' vb':Value}(b:aW W n 37 (jL a x v')):aW (dz W n 0 (jL c' vs' vb')) n 37 (jL c' vs' vb')/\W.grownBy (dz W n 0 (jL c' vs' vb')) (some n):=by have:=qM b 0 (jL c' vs' vb') (by simp[jL]);rwa [pW (jL a x v') (jL c' vs' vb') rfl]at this
def ClE (i:W)(a:Cl)(j:Ending)(b:W):Prop:=∃c g e d h f,j=.returned (xu a (.slice c g e) (.slice d h f))/\yS b a (.slice c g e) (.slice d h f)/\fO i.heap.size b (.slice c g e) a.l/\iT i.heap.size b (.slice d h f) a.b/\i.grownBy b none
def aj4 {c:Cl}{d:Option Addr}{e:Option Addr}(a:yS w c x v')(f:fO w.heap.size w' (.slice d n b) c.l)(g:iT w.heap.size w' (.slice e k j) c.b)(h:w.grownBy w' none):ClE w c (.returned (.agg (jL c (.slice d n b) (.slice e k j)).toArray)) w':=
 ⟨d,n,b,e,k,j,rfl,⟨a.hk,a.hv,f.ints,f.xJ,a.ll,a.nl,g.aay,g.xJ,a.bb,a.nb⟩,f,g,h⟩
def Ll (b:Cl)(f:Option Addr)(l i:Nat)(c:Option Addr)(e d:Nat)(a:W)(o:yS a b (.slice f l i) (.slice c e d)):Calls prog 7 #[xu b (.slice f l i) (.slice c e d)] a (ClE a b):=by
 have hz:=amW;have R:=Zd λg f l i c e d (v:fO a.heap.size g (.slice f l i) b.l) (o2:iT a.heap.size g (.slice c e d) b.b) g=>aj4 o v o2 g;have C:=Zd<|(aW.new a 37 (jL b (.slice f l i) (.slice c e d))).aC (aj _ (.cells (jL ⟨0,0,false,[],[]⟩ N N).toArray 37) none);have H:=Zs (aW ((a.alloc (.cells (jL b (.slice f l i) (.slice c e d)).toArray 37)).alloc (.cells (jL ⟨0,0,false,[],[]⟩ N N).toArray 37)) (a.heap.size+1) 37 (jL ⟨0,0,false,[],[]⟩ N N)) (by have:=aW.new (a.alloc (.cells (jL b (.slice f l i) (.slice c e d)).toArray 37)) 37 (jL ⟨0,0,false,[],[]⟩ N N);simpa using this);have z:=Zd<|ay (aj a (.cells (jL b (.slice f l i) (.slice c e d)).toArray 37) none) (aj _ (.cells (jL ⟨0,0,false,[],[]⟩ N N).toArray 37) none);have IL:=Zd<|aR o.il z;have Y:=Zd<|jy o.ib z;have SL:=Zd o.sl;have SB:=Zd o.sb;have NL:=Zd o.nl;have NB:=Zd o.nb;have aa:=Zd o.ib;generalize ClE a b=ai at *
 unfold xu;go_enter func7,ntmps7;go_upto_region 1 with fail;change Code.wp _ _ _ _ ((a.alloc (.cells (jL b (.slice f l i) (.slice c e d)).toArray 37)).alloc (.cells (jL ⟨0,0,false,[],[]⟩ N N).toArray 37));generalize (a.alloc (.cells (jL b (.slice f l i) (.slice c e d)).toArray 37)).alloc (.cells (jL ⟨0,0,false,[],[]⟩ N N).toArray 37)=M at *
 have G:=Zs (a.heap.size+2<=M.heap.size) (H.lt);have ad:=aW.cell C 3;simp[jL]at ad;have F:=Zd<|ahg (.slice f l i) b.l M IL.out (by have:=NL.out;omega);unfold Lists at F;go_wp2_with fail;refine F.mono ?_;rintro al r ⟨v1,rfl,af,u⟩;have v:fO (a.heap.size+2) r v1 b.l:=fO.base af G;obtain⟨g,k,j,rfl⟩:=qC v.xJ;have x:=Zd<|C.aC u;have R1:=Zd<|H.aC u;have T:=Zd<|ay z u;have ag:=Zd<|jy Y u;have B:=aW.cell x 3;have cf:=aW.free x 3;simp[jL]at B;have m:=aD r (A a.heap.size 3) (.slice g k j);have D:=Zs (aW (r.setCell (A a.heap.size 3) (.slice g k j)) a.heap.size 37 (jL b (.slice g k j) (.slice c e d))) (x.set 3 _);have J:=Zd<|R1.aH m (by show _≠a.heap.size;omega);have E:=Zd<|aG T m (Q6 _);have O2:=Zd<|v.bH m (by show a.heap.size<_;omega);have Z:=Zs (jI (r.setCell (A a.heap.size 3) (.slice g k j)) (.slice c e d) b.b) (jy aa E);have ah:=Zd<|YM G (K4 u);go_upto_region 2 with fail;have ab:=Zs (a.heap.size+2<=(r.setCell (A a.heap.size 3) (.slice g k j)).heap.size) (J.lt);generalize r.setCell (A a.heap.size 3) (.slice g k j)=W2 at *
 have ae:=aW.cell D 4;simp[jL]at ae;go_wp2_with (first|refine sM rfl _ _ rfl (a.heap.size+2) N (.slice c e d) [] b.b rfl rfl (je _ _) Z SB (by have:=NB.out;simp;omega) ab ?_);intro v3 t w s;replace w:iT (a.heap.size+2) t v3 b.b:=w;replace s:W2.grownBy t none:=s;obtain⟨n,q,p,rfl⟩:=qC w.xJ;have y:=Zd<|D.aC s;have R3:=Zd<|J.aC s;have U:=Zd<|ay E s;have O3:=Zd<|O2.aC s;have B:=aW.cell y 4;have cf:=aW.free y 4;simp[jL]at B;have m:=aD t (A a.heap.size 4) (.slice n q p);have O:=Zs (aW (t.setCell (A a.heap.size 4) (.slice n q p)) a.heap.size 37 (jL b (.slice g k j) (.slice n q p))) (y.set 4 _);have K:=Zd<|R3.aH m (by show _≠a.heap.size;omega);have X:=Zd<|aG U m (Q6 _);have O4:=Zd<|O3.bH m (by show a.heap.size<_;omega);have P4:=Zd<|w.bH m (by show a.heap.size<_;omega);go_upto_region 3 with fail;generalize t.setCell (A a.heap.size 4) (.slice n q p)=W4 at *
 have P:=clP (c':=b) (vs':=.slice g k j) (vb':=.slice n q p) K;have ac:=amX P.1;have Q:=Zd<|R _ _ _ _ _ _ _ ((O4.bH P.2 gO).base gO) ((P4.bH P.2 gO).base gO) (aG X P.2 gO);have O1:=Zd<|aj3 b g k j n q p;go_wp2_with (first|refine lV 0 O zH (by simp[jL]) rfl ?_|refine sV 0 (jL b (.slice g k j) (.slice n q p)) K (by simp[jL]) zH O1 ?_);refine QB (v:=.agg (jL b (.slice g k j) (.slice n q p)).toArray) ?_ rfl Q;simp[results,results7,asAddr,Act.put,ac]
def al8 {a:Type}{d:List TypeId}{c:List (DataW a)}{b:DataW a}(f:(DataW.weightsEach prog d c).all (·<=reachBytes)=true)(g:d[n]?=some T)(e:c[n]?=some b):∀a∈b.weights prog T,a<=reachBytes:=λa b=>by
 have:=List.all_eq_true.1 f a (DataW.weights_mem_each g e a b);simpa using this
def Uu {g:Type}{m:TypeId×Value->g}{W:World}{v:Value}{b:DataW g×List MemPlace}(o:DataW.trod m prog W 0 (λ_=>true) true n 26 [v]=some b)(i:∀a∈b.1.weights prog 26,a<=reachBytes):∃a:L,aY W v a/\a.length*8<=140737488351232/\iI a/\rD v a:=by
 rcases open_ints underlying26 underlying3 Cj o with⟨e,k⟩|⟨h,a,j,c,e,_,p,t,s,k,l,r⟩
 .simp at e;subst e;exact⟨[],⟨none,0,rfl,Q6 _,λb=>by simp at b⟩,by simp,λb=>by simp[aB],.inl rfl⟩
 simp at e;subst e;subst k;simp at s;have q:=i ((lits .i64 (c.take a):List (DataW g)).length*8+(lits .i64 (c.drop a):List (DataW g)).length*8) (by simp[DataW.weights,underlying26,abw,Nat.add_mul]);simp only[lits,GK,BJ,DN,reachBytes]at q;have d:(c.take a).length=a:=by simp;omega
 refine⟨c.take a,⟨some h,j,by rw[d],by rw[d];exact p,λ_=>⟨h,rfl,λb f=>?_⟩⟩,by rw[d];omega,λb=>?_,.inr ⟨h,j,by rw[d]⟩⟩
 .rw[d]at f;rw[l b gO];simp[aB,List.getD,KC,f]
 by_cases f:b<(c.take a).length
 .have i:=r ((c.take a)[b]) (List.mem_of_mem_take (List.getElem_mem f));have:=bounds_i64 i;rw[show aB (c.take a) b=(c.take a)[b] by unfold aB;rw[List.getD,KM f];rfl];exact this
 rw[dI _ b gO];omega
def Uv {g:Type}{m:TypeId×Value->g}{W:World}{v:Value}{b:DataW g×List MemPlace}(o:DataW.trod m prog W 0 (λ_=>true) true n 32 [v]=some b)(i:∀a∈b.1.weights prog 32,a<=reachBytes):∃a:L,jI W v a/\a.length<=140737488351232/\yP a/\rD v a:=by
 rcases open_ints underlying32 underlying5 abB o with⟨e,k⟩|⟨h,a,j,c,e,_,p,t,s,k,l,r⟩
 .simp at e;subst e;exact⟨[],⟨none,0,rfl,Q6 _,λb=>by simp at b⟩,by simp,λb=>by simp[aB],.inl rfl⟩
 simp at e;subst e;subst k;simp at s;have q:=i ((lits .u8 (c.take a):List (DataW g)).length*1+(lits .u8 (c.drop a):List (DataW g)).length*1) (by simp[DataW.weights,underlying32,abC,Nat.add_mul]);simp only[lits,GK,BJ,DN,reachBytes]at q;have d:(c.take a).length=a:=by simp;omega
 refine⟨c.take a,⟨some h,j,by rw[d],by rw[d];exact p,λ_=>⟨h,rfl,λb f=>?_⟩⟩,by rw[d];omega,λb=>?_,.inr ⟨h,j,by rw[d]⟩⟩
 .rw[d]at f;rw[l b gO];simp[aB,List.getD,KC,f]
 by_cases f:b<(c.take a).length
 .have i:=r ((c.take a)[b]) (List.mem_of_mem_take (List.getElem_mem f));have:=al7 i;rw[show aB (c.take a) b=(c.take a)[b] by unfold aB;rw[List.getD,KM f];rfl];exact this
 rw[dI _ b gO];omega
def clF:∃a b c d e:Field,prog.underlying 37=some (.struct #[a,b,c,d,e])/\(a.type=3/\a.offset=0)/\(b.type=3/\b.offset=1)/\(c.type=4/\c.offset=2)/\(d.type=26/\d.offset=3)/\(e.type=32/\e.offset=4):=
 ⟨_,_,_,_,_,underlying37,⟨rfl,rfl⟩,⟨rfl,rfl⟩,⟨rfl,rfl⟩,⟨rfl,rfl⟩,⟨rfl,rfl⟩⟩
def ahN:prog.cellsOf 37=5:=by kernel_rfl
def Ye:prog.cellsOf 4=1:=by kernel_rfl
def Yf:prog.cellsOf 26=1:=by kernel_rfl
def Uw:prog.cellsOf 32=1:=by kernel_rfl
structure Qj where
 c:Cl
 a1:Option Addr
 n1:Nat
 c1:Nat
 a2:Option Addr
 n2:Nat
 c2:Nat
def Qj.ok (W:World)(a:Qj):Prop:=yS W a.c (.slice a.a1 a.n1 a.c1) (.slice a.a2 a.n2 a.c2)
def Qj.cs (a:Qj):List V:=jL a.c (.slice a.a1 a.n1 a.c1) (.slice a.a2 a.n2 a.c2)
def abD {e:Type}{M:TypeId×Value->e}{W:World}{C:DataW e×List MemPlace}(X:y.length=5)(U:DataW.trod M prog W 0 (λ_=>true) true n 37 y=some C)(Y:∀x∈C.1.weights prog 37,x<=reachBytes):∃a:Qj,y=a.cs/\a.ok W:=by
 obtain⟨f,g,h,i,j,v,⟨t0,p0⟩,⟨t1,p1⟩,⟨t2,p2⟩,⟨z,p3⟩,⟨B,p4⟩⟩:=clF;obtain⟨D,x,_,Z,_,aa,a⟩:=DataW.trod_struct v U;subst Z
 match y,X with
 | [v0,v1,v2,v3,v4],_=>
  have ad:D.length=5:=by simpa using aa
  have k:=a 0 f rfl;have l:=a 1 g rfl;have m:=a 2 h rfl;have o:=a 3 i rfl;have p:=a 4 j rfl;rw[t0,p0,Cj,KM gO]at k;rw[t1,p1,Cj,KM gO]at l;rw[t2,p2,Ye,KM gO]at m;rw[z,p3,Yf,KM gO]at o;rw[B,p4,Uw,KM gO]at p;have w:∀(b:Nat) (c:TypeId) (d:DataW e×List MemPlace),([f.type,g.type,h.type,i.type,j.type]:List TypeId)[b]?=some c->D[b]?=some d->∀a∈d.1.weights prog c,a<=reachBytes:=λb c d f g a e=>by
   refine Y a ?_;simp only[DataW.weights,v];exact DataW.weights_mem_each (j:=b) (t:=c) (d:=d.1) (by simpa using f) (by rw[List.getElem?_map,g];rfl) a e
  have w3:=w 3 26 _ (by rw[<-z];rfl) (KM gO);have w4:=w 4 32 _ (by rw[<-B];rfl) (KM gO);obtain⟨ab,R,T,G,t⟩:=Uu (v:=v3) o w3;obtain⟨H,O,P,Q,s⟩:=Uv (v:=v4) p w4;obtain⟨ac,u,_⟩:=DataW.trod_bool underlying4 m;obtain⟨z0,q,_,q0⟩:=DataW.trod_int underlying3 k;obtain⟨z1,r,_,q1⟩:=DataW.trod_int underlying3 l;simp at u q r;subst u q r;obtain⟨E,n1,J,rfl⟩:=qC t;obtain⟨F,n2,K,rfl⟩:=qC s;exact⟨⟨⟨z0,z1,ac,ab,H⟩,E,n1,J,F,n2,K⟩,rfl,⟨bounds_i64 q0,bounds_i64 q1,R,t,G,T,O,s,Q,P⟩⟩
def al9 (W:World)(d:Value)(b:Nat)(L:Nat->Qj):Prop:=∃c a,d=.slice c b a/\b<=a/\a<=9223372036854775807/\(0<b->∃d e,c=some (A d e)/\∀a,a<b->(∀b,b<5->W.cell? (A d (e+a*5+b))=(L a).cs[b]?)/\(L a).ok W)
def open_cals {a:Type}{G:TypeId×Value->a}{W:World}{s:DataW a}{Y:List MemPlace}{B:List TypeId}{t:List (DataW a)}
 (T:Value.okWide prog W .any n 22 x) (k:DataW.Trod G prog W 0 (λ_=>true) true 22 x s Y) (Q:(DataW.weightsEach prog B t).all (·<=reachBytes)=true) (R:B[b]?=some 22) (J:t[b]?=some s):∃(y:Nat) (L:Nat->Qj),al9 W x y L:=by
 have U:=al8 Q R J;obtain⟨a0,p,aa,rfl⟩:=okWide_slice underlying22 T;obtain⟨ac,K⟩:=k;rcases open_slice underlying22 K with⟨e,o⟩|⟨r,ad,ab,ae,y,C,Pl,e,_,M,O,w,o,m⟩
 .simp[Value.cells]at e;obtain⟨rfl,rfl,rfl⟩:=e;exact⟨0,λ_=>⟨⟨0,0,false,[],[]⟩,none,0,0,none,0,0⟩,none,0,rfl,Q6 _,gO,λk=>gO⟩
 simp[Value.cells]at e;obtain⟨rfl,rfl,rfl⟩:=e;simp at w;subst w;unfold maxLen at O;rw[ahN]at m;simp only[Prod.mk.injEq]at o;obtain⟨rfl,_⟩:=o;rcases Nat.eq_zero_or_pos p with u|u
 .subst u;exact⟨0,λ_=>⟨⟨0,0,false,[],[]⟩,none,0,0,none,0,0⟩,_,_,rfl,QN _,gO,λk=>gO⟩
 obtain⟨j,q,z⟩:=r;have P:z=none:=by
  obtain⟨D,g,_⟩:=m 0 gO;obtain⟨_,v,l⟩:=World.cells?_some g;have:=l 0 gO;rw[KM gO,show(0*5:Nat)=0 from rfl]at this;simp only[Addr.add,Q9]at this;unfold World.cell? at this;simp only at this;split at this
  .cases z with
   | none=>rfl
   | some c=>simp at this
  simp at this
 subst P;have Z:∀(i:List (DataW a)) (f:DataW a),f∈i->∀c∈f.weights prog 37,c∈DataW.weightsAll prog 37 i:=by
  intro i
  induction i with
  | nil=>intro f d;cases d
  | cons r F E=>
   intro f d c h;simp only[DataW.weightsAll,List.mem_append];rcases List.mem_cons.1 d with rfl|d
   .exact .inl h
   exact .inr (E f d c h)
 have F:∀a,a<p->∃d:Qj,(∀b,b<5->W.cell? (A j (q+a*5+b))=d.cs[b]?)/\d.ok W:=λa e=>by
  obtain⟨D,g,H⟩:=m a gO;rw[Addr.add_mid]at g;obtain⟨_,v,l⟩:=World.cells?_some g;obtain⟨d,E,X⟩:=abD v H (λc h=>U c (by
   simp only[DataW.weights,underlying22];refine List.mem_cons_of_mem _ (BS _ (Z _ (C a) (List.mem_map.2 ⟨a,List.mem_range.2 e,rfl⟩) c h))))
  refine⟨d,λb c=>?_,X⟩;have:=l b gO;rw[Addr.add_mid]at this;rw[this,E]
 have:Inhabited Qj:=⟨⟨⟨0,0,false,[],[]⟩,none,0,0,none,0,0⟩⟩;obtain⟨L,E⟩:=choose_lt (α:=Qj) (p:=λa d=>(∀b,b<5->W.cell? ⟨j,q+a*5+b,none⟩=d.cs[b]?)/\d.ok W) F;exact⟨p,L,_,_,rfl,M,gO,λ_=>⟨j,q,rfl,E⟩⟩
def Ux (g l:Int)(d:Option Addr)(k f:Nat)(m:Option Addr)(r o:Nat)(e:Option Addr)(j i:Nat)(n:Option Addr)(q p:Nat)(b L:List Int)(a:W)(w:jI a (.slice d k f) b)(B:rD (.slice d k f) b)(x:aY a (.slice m r o) L)(y:jI a (.slice e j i) b)(C:rD (.slice e j i) b)(z:aY a (.slice n q p) L)(t:L.length<=1000000000000000000):Calls prog 5 #[mM g l (.slice d k f) (.slice m r o),mM g l (.slice e j i) (.slice n q p)] a λu c=>u=.returned (.bool true)/\a.grownBy c none:=by
 have c:=ay (aj a (.cells #[I g,I l,.slice d k f,.slice m r o] 34) none) (aj _ (.cells #[I g,I l,.slice e j i,.slice n q p] 34) none);have F:=Rb (jy w c) (alh B);have G:=Rb (jy y c) (alh C);have s:=Zd<|XD _ _ L L _ (aR x c) (aR z c) t t;rw[KN (rfl:L=L)]at s;have v:=Zd c;generalize strOfNums b=H at *
 unfold mM;go_enter func5,ntmps5;go_wp2_with fail;refine s.mono ?_;rintro u D ⟨rfl,E,rfl⟩;go_wp2_with fail;go_ret;exact⟨rfl,ay v (dY _ _ _)⟩
structure Dsk (w:World) (d r:Nat) (F:Int->Option fQ) (n:Nat) (Z:Nat->Prop) (P:List (Int×fQ)) (vv vl:Value) (wr:World):Prop where
 d1:DkW wr d F n Z
 d2:VQ wr r w.heap.size P vv vl
 ap:∀b,Z b->¬Oh r vv vl b
 b1:∀b,Z b->w.heap.size<=b
 gr:w.grownBy wr none
def Dsk.aC {d:Int->Option fQ}{P:List (Int×fQ)}(a:Dsk w n b d k Z P x v' w')(c:w'.grownBy u none):Dsk w n b d k Z P x v' u:=
 ⟨a.d1.aC c,a.d2.aC c,a.ap,a.b1,ay a.gr c⟩
def al_ (f:W)(b c:Nat)(g:W):Prop:=∃a P e d,Dsk f b c (oZ P) P.length a P e d g
def ahO {P:List (Int×fQ)}{m:V}(d:Dsk w n b (oZ P) P.length Z P v' m w'){c:Cl}{x:Ending}{W2:W}(e:xA w' n (oZ P) P.length Z c c.v x W2):∃a j h g k i,x=.returned (mM (F8 (oZ P c.v) P.length c) c.v (.slice a j h) (.slice g k i))/\iT w'.heap.size W2 (.slice a j h) (Ld (oZ P c.v) c)/\fO w'.heap.size W2 (.slice g k i) (Iw (oZ P c.v) c)/\∃l,Dsk w n b (Le (oZ P) P.length c) (Ht (oZ P c.v) P.length c) l P v' m W2:=by
 obtain⟨u,m,rfl,o,p,l,t,s,q,gr,r⟩:=e;obtain⟨a,j,h,rfl⟩:=qC o.xJ;obtain⟨g,k,i,rfl⟩:=qC p.xJ;refine⟨a,j,h,g,k,i,rfl,o,p,l,s,d.d2.keepR gr (λa f e=>d.ap a (r a f) e),λa g e=>?_,λa g=>?_,gV d.gr gr (λa f=>d.b1 a (r a f))⟩
 .rcases q a g with f|f
  .exact d.ap a f e
  have:=(d.d2.lt a e).2;omega
 rcases q a g with f|f
 .exact d.b1 a f
 exact YM d.gr.size f
def aj5 {G:Int->Option fQ}{v:Nat->Prop}{P:List (Int×fQ)}{c:Cl}(M:Dsk w n b G k Z P x v' w')(g:Dsk w n b (Le (oZ P) P.length c) (Ht (oZ P c.v) P.length c) v P x v' u){o C:V}{L:List Int}(O:iT w'.heap.size u o l)(Q:fO w'.heap.size u C L){F:Ending}{a:W}(e:RkE u b w.heap.size P x v' c F a):∃p s f q t r i B z,F=.returned (mM (F8 (oZ P c.v) P.length c) c.v (.slice p s f) (.slice q t r))/\iT w'.heap.size a o l/\fO w'.heap.size a C L/\iT u.heap.size a (.slice p s f) (Ld (oZ P c.v) c)/\fO u.heap.size a (.slice q t r) (Iw (oZ P c.v) c)/\Dsk w n b (oZ i) i.length v i B z a:=by
 obtain⟨H,J,rfl,D,E,i,B,z,T,K,eN,R,y⟩:=e;obtain⟨p,s,f,rfl⟩:=qC D.xJ;obtain⟨q,t,r,rfl⟩:=qC E.xJ;have far:∀{h:TypeId} {d k:Nat} {m:V} {j:List V},u.ownsRow w'.heap.size h d m k j->a.ownsRow w'.heap.size h d m k j:=fun{h d k m j} C=>
  y (λo=>o.ownsRow w'.heap.size h d m k j) (λG H F f j m=>gK f j (λa J e=>by
   have U:=World.ownsRow.lt C a e;rcases m a J with d|d
   .have:=(M.d2.lt a d).2;omega
   omega)) C
 refine⟨p,s,f,q,t,r,i,B,z,rfl,far O,far Q,D,E,⟨?_,T,λa i e=>?_,g.b1,?_⟩⟩
 .rw[K,eN];exact y (λo=>DkW o n (Le (oZ P) P.length c) (Ht (oZ P c.v) P.length c) v) (λG H F f j m=>f.keepR j (λa h d=>by
   rcases m a h with e|e
   .exact g.ap a d e
   have:=g.d1.zl a d;omega)) g.d1
 .rcases R a e with d|d
  .exact g.ap a i d
  have:=g.d1.zl a i;omega
 exact y (λo=>w.grownBy o none) (λG H F f j m=>gV f j (λa h=>by
  rcases m a h with e|e
  .exact(g.d2.lt a e).1
  exact YM g.gr.size e)) g.gr
def Yg (a:W):Sem.run prog (Instr.build 37 #[]) a=.ok (xu ⟨0,0,false,[],[]⟩ N N) a:=by kernel_rfl
def ama (a:W):yS a ⟨0,0,false,[],[]⟩ N N:=
 ⟨(show Qp 0 from⟨gO,gO⟩),(show Qp 0 from⟨gO,gO⟩),Ints_nil a,.inl rfl,λb=>by simp[aB],by simp,⟨none,0,rfl,Q6 _,λa=>by simp at a⟩,.inl rfl,λb=>by simp[aB],by simp⟩
def Hz (a i:Int)(c:Option Addr)(e g:Nat)(d:Option Addr)(f h:Nat)(b:W):Sem.run prog (Instr.field 34 (.agg #[I a,I i,.slice c e g,.slice d f h]) 0) b=.ok (I a) b:=by kernel_rfl
def aj6 (d:DkW w' n (λ_=>none) 0 Z)(f:∀a,Z a->w.heap.size<=a)(c:w.grownBy w' none):al_ w n w'.heap.size (w'.alloc (.cells #[N,N] 29)):=by
 have b:=aj w' (.cells #[N,N] 29) none;refine⟨Z,[],N,N,d.aC b,⟨aW.new w' 29 [N,N],bN _ _,World.ownsRow_nil _ _ _ _,List.Pairwise.nil,λe e=>(by cases e),by simp,c.size⟩,λa e a=>?_,f,ay c b⟩;rcases a with rfl|a|a
 .have:=d.zl _ e;omega
 .cases a
 cases a
def Oo (b:W)(pc:uX 91 b)(pd:uZ 92 b)(pe:zq 94 b)(Y:Yw 37 b)(pf:Y9 38 b)(rc:uX 15 b)(rd:uZ 16 b)(re:zq 17 b)(rb:Yw 13 b)(rf:Y9 14 b)(ac:V)(q:Nat)(L:Nat->Qj)(F:al9 b ac q L):Calls prog 3 #[ac] b λD i=>D=.returned (.bool true)/\Below b.heap.size b i:=by
 obtain⟨ad,cc,rfl,hc,az,hT⟩:=F;have HT:=Zd hT;have DO:=Zd λp s q y c k e a l f d wr (F:DkW wr p s q y) E g=>ahL b pc pd pe Y pf p s q y c k e a l f d wr F E g;have af:=Zd λO P vv vl c k e a l f d wr F E g=>ae9 b rc rd re rb rf O b.heap.size P vv vl c k e a l f d wr F E (Q6 _) g;have NW:=Zd ae8;have b0:=Yg;have s:=Zs (∀i,b.grownBy i none->(λ(D:Ending) (i:W)=>D=.returned (.bool true)/\Below b.heap.size b i) (.returned (.bool true)) i) (λi n=>⟨rfl,JH n⟩);obtain⟨ab,al⟩:∃ab:Ending->W->Prop,(λ(D:Ending) (i:W)=>D=.returned (.bool true)/\Below b.heap.size b i)=ab:=⟨_,rfl⟩;rw[al]at s ⊢;go_enter func3,ntmps3;go_wp2_with fail;refine(NW b).mono ?_;rintro f T ⟨p,Z1,rfl,k1,ap,X⟩;have R0:=Zd<|aj6 k1 ap X;go_upto_region 2 with fail;(try simp only[Act.put]);generalize T.alloc (.cells #[N,N] 29)=o at *
 generalize T.heap.size=O at *
 have RD:=Zd<|af O;go_wp2_with fail;go_loopw [5] (λa wr=>∃d:Nat,a=I d/\d<=q/\d<=40/\Hid (al_ b p O wr)) (λa _=>40-(intOf a).toNat)
 case atStart=>exact⟨0,rfl,QN _,gO,R0⟩
 case round=>
  obtain⟨d,rfl,aC,av,hI⟩:=hrel;by_cases an:d<q/\d<40
  .obtain⟨am,aA⟩:=an;obtain⟨C,J,rfl,hL⟩:=HT gO;obtain⟨a,ao⟩:=hL d am;obtain⟨y,P,vv,vl,r⟩:=hI;have aw:(d:Int)<40:=gO;have aE:(d:Int)<q:=gO;generalize ax:L d=ar at *
   obtain⟨c,k,t,w,l,u,m⟩:=ar;have OK:=Zs (yS b c (.slice k t w) (.slice l u m)) (ao);have j:=Zs (b.cell? ⟨C,J+d*5,none⟩=some (I c.k)/\b.cell? ⟨C,J+d*5+1,none⟩=some (I c.v)/\b.cell? ⟨C,J+d*5+2,none⟩=some (.bool c.r)/\b.cell? ⟨C,J+d*5+3,none⟩=some (.slice k t w)/\b.cell? ⟨C,J+d*5+4,none⟩=some (.slice l u m)) (⟨a 0 gO,a 1 gO,a 2 gO,a 3 gO,a 4 gO⟩);have Z:=Zd λa (E:b.grownBy a none)=>Ll c k t w l u m a (AJ OK E);have D0:=Zd<|r.aC (aS wr);have ae:=Zd<|YM (alZ (oZ P c.v) c (r.d1.ok c.v)) (show 80<=1000000000000000000 by omega);have GR:=Zd<|ay r.gr (aS wr);unfold ClE at Z;unfold xu at Z;go_upto_region 5 with fail;refine wp_region_held_drew (S:=λa=>b.grownBy a none) (by kernel_rfl) GR λa=>?_;refine aV 0 a ?_;refine aV 1 a ?_;refine aV 2 a ?_;refine aV 3 a ?_;refine aV (hy:=by intro i e;have k0:=aU e j.1;have k1:=aU e j.2.1;have k2:=aU e j.2.2.1;have k3:=aU e j.2.2.2.1;have k4:=aU e j.2.2.2.2;go_simp;(try with_reducible rfl)) (v:=.agg #[I c.k,I c.v,.bool c.r,.slice k t w,.slice l u m]) 4 a ?_;refine aV 7 a ?_;refine aV 8 a ?_;refine aV 9 a ?_;refine aV 10 a ?_;refine aV (hy:=by intro i e;have k0:=aU e j.1;have k1:=aU e j.2.1;have k2:=aU e j.2.2.1;have k3:=aU e j.2.2.2.1;have k4:=aU e j.2.2.2.2;go_simp;(try with_reducible rfl)) (v:=.agg #[I c.k,I c.v,.bool c.r,.slice k t w,.slice l u m]) 11 a ?_;refine eU 5 λi e=>?_;(try simp only[sZ]);go_simp;refine(Z _ a).mono ?_;rintro f T ⟨x1,y1,z1,x2,y2,z2,rfl,aq,_,_,X⟩;have Q:=Zd<|D0.aC X;have O1:=Zd<|DO p _ _ _ c x1 y1 z1 x2 y2 z2 T Q.d1 Q.gr aq;unfold xu at O1;go_wp2_with fail;refine e.out _ _ (ay a X) λa=>?_;(try simp only[sZ]);refine eU 6 λi e=>?_;(try simp only[sZ]);go_simp;refine O1.mono ?_;rintro f o qa;obtain⟨z,G,n,B,H,M,rfl,v,K,Z',g⟩:=ahO Q qa;have g:=Zd g;have OB:=Zd v;have OL:=Zd K;have R2:=Zd<|RD _ _ _ c k t w l u m o g.d2 g.gr (AJ OK g.gr);unfold xu at R2;unfold mM;go_wp2_with fail;refine e.out _ _ g.gr λa=>?_;(try simp only[sZ]);refine eU 12 λi e=>?_;(try simp only[sZ]);go_simp;refine R2.mono ?_;rintro f W3 q3;obtain⟨ag,fm,fq,f',ah,ai,P',a0,aH,rfl,v,K,Y,pl,R⟩:=aj5 Q g OB OL q3;have R:=Zd R;have SA:=Zd<|Ux (F8 (oZ P c.v) P.length c) c.v z G n B H M ag fm fq f' ah ai _ _ W3 v.aay v.xJ K.ints Y.aay Y.xJ pl.ints ae;unfold mM at SA ⊢;go_wp2_with fail;refine e.out _ _ R.gr λa=>?_;(try simp only[sZ]);refine eU 13 λi e=>?_;(try simp only[sZ]);go_simp;refine SA.mono ?_;rintro f U ⟨rfl,g4⟩;have x:=Zd<|R.aC g4;have M4:=Zd<|abz p _ _ _ U x.d1;obtain⟨yv,cv,e4,_,_⟩:=zI x.d2.ov;have ck:=x.d2.dk.cell 0;simp at ck;rw[e4,vF]at ck;go_wp2_with fail;refine e.out _ _ x.gr λa=>?_;(try simp only[sZ]);refine aV 14 a ?_;refine aV 15 a ?_;refine aV 16 a ?_;refine aV 18 a ?_;refine aV 19 a ?_;refine aV 20 a ?_;have RL:=Zs (al_ b p O U) (⟨_,_,_,_,x⟩);refine qN 17 21 (λi e=>?gA) λi e=>?gB
   case gA=>
    (try simp only[sZ]);go_simp;refine M4.mono ?_;rintro f W5 ⟨rfl,aa⟩;obtain rfl:U=W5:=aa.symm;go_wp2_with fail;refine e.out _ _ a λa=>?_;(try simp only[sZ]);refine eU 21 λi e=>?_;(try simp only[sZ]);go_simp;go_wp2_with fail;refine e.out _ _ a λa=>?_;(try simp only[sZ]);refine aV 22 a ?_;refine aV 23 a ?_;refine aV 24 a ?_;refine jX ?_;go_wp2_with fail;go_roundw
    case rel=>exact⟨d+1,by go_num,gO,gO,RL⟩
    case measure=>simp[intOf];omega
   case gB=>
    (try simp only[sZ]);go_simp;go_wp2_with fail;refine e.out _ _ a λa=>?_;(try simp only[sZ]);refine aV 22 a ?_;refine eU 17 λi e=>?_;(try simp only[sZ]);go_simp;refine M4.mono ?_;rintro f W5 ⟨rfl,aa⟩;obtain rfl:U=W5:=aa.symm;go_wp2_with fail;refine e.out _ _ a λa=>?_;(try simp only[sZ]);refine aV 23 a ?_;refine aV 24 a ?_;refine jX ?_;go_wp2_with fail;go_roundw
    case rel=>exact⟨d+1,by go_num,gO,gO,RL⟩
    case measure=>simp[intOf];omega
  obtain⟨y,P,vv,vl,r⟩:=hI;have a:=Zd<|DO p _ _ y ⟨0,0,false,[],[]⟩ none 0 0 none 0 0 wr r.d1 r.gr (ama wr);have j:=Zd λf b n=>ahO r (x:=f) (W2:=b) (c:=⟨0,0,false,[],[]⟩) n;have u:F8 (oZ P 0) P.length ⟨0,0,false,[],[]⟩=4:=by unfold F8;rw[X9 (by decide),X9 (by decide)]
  have t:=Zd u;by_cases x:(d:Int)<q
  .have C:¬(d:Int)<40:=gO;unfold xu at a b0;go_wp2_with fail;refine a.mono ?_;rintro f o m;obtain⟨z,G,n,B,H,M,rfl,v,K,Z',g⟩:=j f o m;have e:=Zd<|s o g.gr;have w:=Hz 4 0 z G n B H M;rw[t.out];unfold mM;go_wp2_with fail;exact e
  unfold xu at a b0;go_wp2_with fail;refine a.mono ?_;rintro f o m;obtain⟨z,G,n,B,H,M,rfl,v,K,Z',g⟩:=j f o m;have e:=Zd<|s o g.gr;have w:=Hz 4 0 z G n B H M;rw[t.out];unfold mM;go_wp2_with fail;exact e
def Lp (d:l.length=p.length)(e:∀a,a<l.length->aB l a=aB p a):l=p:=by have b:l=f_ p.length (aB p):=dL d (λa c=>e a gO);have c:p=f_ p.length (aB p):=dL rfl (λa _=>rfl);rw[b];exact c.symm
def Jy (c e:L)(d a b:Nat)(g:a+b<=c.length)(f:a+b<=d\/d+e.length<=a):bM (jd c d e) a b=bM c a b:=by refine dL (aT _ _ _) λa a=>?_;rw[fV _ _ _ _ a,gT _ _ _ _ gO,nO]
def Lr (c a:L)(b:Nat)(d:b+a.length<=c.length):bM (jd c b a) b a.length=a:=by refine(dL rfl (λa a=>?_)).symm;rw[gT _ _ _ _ gO,pO,Nat.add_sub_cancel_left]
def Uy (e d:L)(c a:Nat)(g:Int)(f:a<e.length)(h:a<c\/c+d.length<=a):jd (e.set a g) c d=(jd e c d).set a g:=by
 refine Lp (by rw[dV,XB,XB,dV]) λc b=>?_;rw[dV,XB]at b;rw[gT _ _ _ _ (by rw[XB];exact b),iM _ _ _ f,iM _ _ _ (by rw[dV];exact f),gT _ _ _ _ b];by_cases b:c=a
 .rw[Q9 b,nO,Q9 b]
 rw[X9 b,X9 b]
def Rm (A a b:L)(c:a.length=101):bM (qR A a b) 0 8=bM a 0 8:=by unfold qR;exact Jy _ _ _ _ _ gO (.inl gO)
def Yh (a b:L)(c:a.length=101):bM (Cb a b) 0 8=bM a 0 8:=by unfold Cb;rw[iZ _ _ _ _ _ (by rw[XB,XB,dV];omega) (.inr gO),iZ _ _ _ _ _ (by rw[XB,dV];omega) (.inr gO),iZ _ _ _ _ _ (by rw[dV];omega) (.inr gO)];exact Jy _ _ _ _ _ gO (.inl gO)
def ahP (a:L)(d:a.length=101)(c:bJ a=true):bM (Cy a) 0 8=bM a 0 8:=by have b:Cy a=memT a (aB a 99) (rC (aB a 100) 40) (yM (bM a 16 80) (siX a)):=Q9 c;rw[b];unfold memT;rw[Jy _ _ _ _ _ (by rw[XB,XB];omega) (.inl gO),iZ _ _ _ _ _ (by rw[XB];omega) (.inr gO),iZ _ _ _ _ _ gO (.inr gO)]
def Ls (e:Bool)(a c:L)(b:a.length=101)(d:bJ a=true):bM (nK e a c) 0 8=bM a 0 8:=by
 unfold nK;split
 .exact ahP a b d
 exact Yh a c b
def Lu (b:Bool)(c:r.length=101)(d:bJ r=true)(e:l.length=8)(g:cZ l=true)(hp:jC p=true):∀a,a<=2->bM (kY b l r p a) 0 8=bM r 0 8
 | 0,_=>rfl
 | a+1,i=>by
  have h:=nS b c d e g hp a gO;have f:=qo b l p c a;show bM (qR _ (nK b (kY b l r p a) (d9 p a)) _) 0 8=_;rw[Rm _ _ _ (Ai b f _),Ls b _ _ f h];exact Lu b c d e g hp a gO
def Ti (A:L)(b:Bool)(a c:L):L:=qR A (nK b a c) (yV b a c)
def Pt (A:L)(b:Bool)(a c:L):L:=qU A (nK b a c) (yV b a c)
def amc (A:L)(a:Bool)(c:bJ l=true)(b:vO p):(Pt A a l p).length<=40:=by have:=J8 A (bM (nK a l p) 8 8) (yV a l p);rw[(wR a c b).1]at this;exact this
def ahQ (b:Bool)(c:r.length=101)(d:bJ r=true)(e:l.length=8)(f:cZ l=true)(hp:jC p=true)(a:Nat)(g:a<2):Ti (iF (bM r 0 8) l a) b (kY b l r p a) (d9 p a)=kY b l r p (a+1):=by show _=qR (iF (bM (nK b (kY b l r p a) (d9 p a)) 0 8) l a) _ _;rw[Ls b _ _ (qo b l p c a) (nS b c d e f hp a gO),Lu b c d e f hp a gO];rfl
def ahR (b:Bool)(c:r.length=101)(d:bJ r=true)(e:l.length=8)(f:cZ l=true)(hp:jC p=true)(a:Nat)(g:a<2):Ny b l r p a++Pt (iF (bM r 0 8) l a) b (kY b l r p a) (d9 p a)=Ny b l r p (a+1):=by show _=Ny b l r p a++qU (iF (bM (nK b (kY b l r p a) (d9 p a)) 0 8) l a) _ _;rw[Ls b _ _ (qo b l p c a) (nS b c d e f hp a gO),Lu b c d e f hp a gO];rfl
def Yi (b c:L)(d:l.length=101):∀a,bM (wB b l c a) 0 8=bM l 0 8
 | 0=>rfl
 | a+1=>by
  rw[Dz,Rm _ _ _ (by rw[Ah];exact rE b c d a),Yh _ _ (rE b c d a)];exact Yi b c d a
def abE (b c:L)(d:l.length=101)(a:Nat):D8 b l c a=iF (bM l 0 8) b a:=by unfold D8;rw[Yi b c d a]
def ahS (c b d:L)(e:b.length=101)(a:Nat):Ti (iF (bM b 0 8) c a) false (wB c b d a) (sJ c b d a)=wB c b d (a+1):=by rw[Dz,abE c d e a];unfold Ti;rw[adv,adw]
def aj7 (a b:L)(c:a.length=101):jd (((a.set 98 (20+aB b 0)).set 97 (Nw b)).set 96 (Nv b)) 16 (Jk (bM a 16 80) (tQ a b))=Cb a b:=by have d:=Tg (bM a 16 80) (tQ a b);rw[Uy _ _ _ _ _ (by rw[XB,XB];omega) (.inr gO),Uy _ _ _ _ _ (by rw[XB];omega) (.inr gO),Uy _ _ _ _ _ gO (.inr gO)];rfl
def VT (c b:L):Nat->L
 | 0=>au 18
 | a+1=>jd (VT c b a) (9*a) (iF c b a)
def Jz (c b:L):∀a,(VT c b a).length=18
 | 0=>ak 18
 | a+1=>by
  show(jd _ _ _).length=18;rw[dV];exact Jz c b a
def zJ (c b:L)(a:Nat):(iF c b a).length=9:=by unfold iF;split<;>exact pV _
def Yj (b a:L)(c:Nat)(f:c<2):bM (VT b a 2) (9*c) 9=iF b a c:=by
 have d:=zJ b a 0;have e:=zJ b a 1;obtain rfl|rfl:c=0\/c=1:=gO
 .show bM (jd (jd (au 18) 0 (iF b a 0)) 9 (iF b a 1)) 0 9=_;rw[Jy _ _ _ _ _ (by rw[dV,ak];omega) (.inl gO)];have:=Lr (au 18) (iF b a 0) 0 (by rw[d,ak];omega);rw[d]at this;exact this
 show bM (jd (jd (au 18) 0 (iF b a 0)) 9 (iF b a 1)) 9 9=_;have:=Lr (jd (au 18) 0 (iF b a 0)) (iF b a 1) 9 (by rw[e,dV,ak];omega);rw[e]at this;exact this
def Ot (a c:L):L:=f_ a.length (λb=>fA (fA (aB a b)-fA (aB c b)))
def Gf (a:L)(b:Int):L:=f_ a.length (λc=>fA ((aB a c*b+8192) / 16384))
def tY (b:aL l=true)(a:Nat):-32768<=aB l a/\aB l a<=32767:=by
 by_cases c:a<l.length
 .exact(bD l).1 b a c
 rw[dI _ _ gO];omega
def Lv (b:aL l=true)(c:aL p=true):Ot l p=f_ l.length (λa=>fA (aB l a-aB p a)):=by unfold Ot;exact qY _ _ _ (λa _=>by rw[JJ _ (tY b a).1 (tY b a).2,JJ _ (tY c a).1 (tY c a).2])
def ahT (a:L)(b:Int):(Gf a b).length=a.length:=cK _ _
def abF (a:L)(b:Int):aL (Gf a b)=true:=FU _ _
def aj8 (b:bJ l=true)(a:j6 p)(c:r.length=40)(d:aL r=true):Ot r (Pq l p)=Kz l p r:=by rw[Lv d (TQ b a).2,c];rfl
def aj9 (a:L)(c:bJ l=true)(b:j6 p):Ot (Kz l p a) (Gf (VP l p a) (Es (KA l p a)))=Cc l p a:=by rw[Lv (vQ l p a).2 (abF _ _),(vQ l p a).1];unfold Cc;refine qY _ _ _ λd d=>?_;unfold aaO Gf;rw[dP _ _ _ (by rw[(FZ a c b).1];exact d)]
def abP (b:W)(L:List Int)(d:Ending)(c:W):Prop:=∃a,d=.returned a/\fO b.heap.size c a L/\b.grownBy c none
def Yq {base:Nat}(a:bY w n 3 l)(b:base<=n)(c:l.length<=35184372088832):fO base w (.slice (S n) l.length l.length) l:=
 ⟨by simp,.inr ⟨n,l.length,aF l,rfl,b,a,Q6 _,by unfold maxLen;omega,by simp[aF],by simp[aF,K3]⟩⟩
def anz:(prog.info? 193).bind (·.zero)=some (.agg (aF (au 18))):=by kernel_rfl
def abQ:(prog.info? 193).map (·.size)=some 18:=by kernel_rfl
def ame (c:W)(d e f a:TypeId)(g h i b:L):bY ((((c.alloc (.cells (aF g) d)).alloc (.cells (aF h) e)).alloc (.cells (aF i) f)).alloc (.cells (aF b) a)) (c.heap.size+1+1+1) a b:=by have:=bY.new (((c.alloc (.cells (aF g) d)).alloc (.cells (aF h) e)).alloc (.cells (aF i) f)) a b;simpa using this
def Ou (a:W)(d c L:List Int)(b:W):Prop:=bY b a.heap.size 50 d/\bY b (a.heap.size+1) 50 c/\aW b (a.heap.size+1+1) 193 (aQ (au 18))/\aW b (a.heap.size+1+1+1) 193 (aQ L)/\a.grownBy b none
def Ou.new (b:W)(c a:L):Ou b c a (au 18) ((((b.alloc (.cells (aF c) 50)).alloc (.cells (aF a) 50)).alloc (.cells (aF (au 18)) 193)).alloc (.cells (aF (au 18)) 193)):=by have e:=oQ b 50 50 193 c a (au 18);have d:=aj (((b.alloc (.cells (aF c) 50)).alloc (.cells (aF a) 50)).alloc (.cells (aF (au 18)) 193)) (.cells (aF (au 18)) 193) none;exact⟨e.1.aC d,e.2.1.aC d,e.2.2.1.aC d,ame b _ _ _ _ c a _ _,ay e.2.2.2 d⟩
def Ou.aC {L:List Int}(b:Ou w l p L w')(a:w'.grownBy u none):Ou w l p L u:=⟨b.1.aC a,b.2.1.aC a,b.2.2.1.aC a,b.2.2.2.1.aC a,ay b.2.2.2.2 a⟩
def Ou.put {L:List Int}(b:Ou w l p L w')(c:Nat)(a:List Int)(d:c+a.length<=L.length):Ou w l p (jd L c a) (dz w' (w.heap.size+1+1+1) c (aQ a))/\w'.grownBy (dz w' (w.heap.size+1+1+1) c (aQ a)) (some (w.heap.size+1+1+1)):=by have:=amb b.2.2.2.1 c a d;exact⟨⟨b.1.aH this.2 gO,b.2.1.aH this.2 gO,b.2.2.1.aH this.2 gO,this.1,aG b.2.2.2.2 this.2 gO⟩,this.2⟩
def vH (c b:List Int)(B:c.length=8)(l:b.length=8)(D:cZ c=true)(E:cZ b=true)(d:W):Calls prog 144 #[.agg (aF c),.agg (aF b)] d (jB d (.agg (aF (VT c b 2)))):=by
 have K:=Zd<|Ou.new d c b;have w:=Zd λ(a:Nat) (m:a<2) wr=>akd c b B l (2+2*(a:Int)) gO gO D E wr;have q:=Zd λ(a:Nat) (m:a<2) wr=>LC (pR c b (2+2*(a:Int))) (wG _ _ _) wr;have p:=Zd λ(a:Nat) (m:a<2)=>agN c b a m l D E;have y:=Zd λ(a:Nat)=>zJ c b a;have u:=Zd λ(a:Nat)=>wG c b (2+2*(a:Int));have k:=Zd λ(a:Nat)=>Jz c b a;have z:=Zd λ(a:Nat)=>show jd (VT c b a) (9*a) (iF c b a)=VT c b (a+1)from rfl;have H:=Zs (au 18=VT c b 0) (rfl);have s:=Zs (∀e,d.grownBy e none->jB d (.agg (aF (VT c b 2))) (.returned (.agg (aF (VT c b 2)))) e) (λe e=>⟨rfl,e⟩);have Z:=Zs ((prog.info? 50).map (·.size)=some c.length) (by rw[B];exact dX);have H2:=Zs ((prog.info? 50).map (·.size)=some b.length) (by rw[l];exact dX);have hz:=fT anz;clear D E B l;generalize jB d (.agg (aF (VT c b 2)))=ab at *
 go_enter func144,ntmps144;go_upto_region 2 with fail;generalize (((d.alloc (.cells (aF c) 50)).alloc (.cells (aF b) 50)).alloc (.cells (aF (au 18)) 193)).alloc (.cells (aF (au 18)) 193)=W0 at *
 clear hz;go_wp2_with fail;go_loopw [9] (λe wr=>∃a:Nat,e=I (a:Int)/\a<=2/\Hid (Ou d c b (VT c b a) wr)) (λe _=>2-(intOf e).toNat)
 case atStart=>exact⟨0,rfl,QN _,by rw[<-H.out];exact K⟩
 case round=>
  obtain⟨a,rfl,m,f⟩:=hrel;clear K H;by_cases C:a<2
  .have ac:(a:Int)<2:=gO;have M:=Zd<|w a C wr;have r:=Zd<|q a C;have G:=Zd<|p a C;have q1:((a:Int)+1)*4=4*a+4:=gO;have q2:(4*(a:Int)+4).tdiv 2=2+2*a:=by rw[YS gO];omega
   have q3:(4*(a:Int)+4) / 2=2+2*a:=gO;clear w q p s;rw[G.out]at r;have P:=Zd<|y a;have v:=Zd<|u a;have g:=Zd<|k a;have Q:=Zd<|z a;clear y u k z G;generalize CP c b (2+2*(a:Int))=x1 at *
   generalize zh (pR c b (2+2*(a:Int)))=x2 at *
   generalize pR c b (2+2*(a:Int))=t at *
   generalize iF c b a=A at *
   go_upto_region 5 with fail;go_wp2_with (first|refine lA f.1 Z ?_|refine lA f.2.1 H2 ?_);(try simp only[q1,q2,q3]);refine M.mono ?_;rintro aa F ⟨rfl,X⟩;have⟨R,T,U⟩:=dG F 50 8 t v;have n:=Zd R;have o:=Zd T;have P2:=Zd<|(f.aC X).aC U;rw[uR]at n o P2;clear X R T U f M;go_upto_region 6 with(first|refine sA t n (by rw[v.out,ak]) (by rw[ak];exact dX) ?_);(try simp only[Act.put]);clear n;generalize b_ _ F.heap.size t=w2 at *
   generalize F.heap.size=bk at *
   go_wp2_with (first|refine lA o (by rw[v.out];exact dX) ?_);refine(r w2).mono ?_;rintro aa w3 ⟨rfl,Y⟩;have x:=Zd<|P2.aC Y;have i:=x.put (9*a) A (by rw[P.out,g.out];omega);have O:=Zd i.1;rw[Q.out]at O;have j:=Zd<|dO A;have e:=Zs ((aQ A).length=9) (by rw[aN];exact P);have J:=Zs ((aQ (VT c b a)).length=18) (by rw[aN];exact g);clear Y P2 o i r Q;go_upto_region 7 with(first|refine zi rfl 69 _ _ rfl (d.heap.size+1+1+1) (9*a) 193 (aQ (VT c b a)) (aQ A) (by go_simp;(try simp only[Nat.mul_comm]);(try with_reducible rfl)) rfl x.2.2.2.1 (by rw[e.out,J.out];omega) (by rw[e.out];exact bZ) j ?_);(try simp only[Act.put]);clear x j e J;generalize dz w3 (d.heap.size+1+1+1) (9*a) (aQ A)=w4 at *
   go_wp2_with fail;go_roundw
   case rel=>exact⟨a+1,by go_num,gO,O⟩
   case measure=>simp[intOf];omega
  obtain rfl:a=2:=gO;have g:=Zd<|k 2;clear w q p y u k z;generalize VT c b 2=L at *
  have r:=Zs (((aQ L).drop 0).take 18=aQ L) (by rw[List.drop_zero,K3 (by rw[aN,g.out];omega)]);have i:=qM f.2.2.1 0 (aQ L) (by rw[aN,aN,g.out,ak];omega);rw[pW _ _ (by rw[aN,aN,g.out,ak])]at i;have t:=Zd i;have n:=Zd<|s _ (aG f.2.2.2.2 i.2 gO);have j:=Zd<|dO L;have e:=Zs ((aQ L).length=18) (by rw[aN];exact g);have o:=Zs ((aQ (au 18)).length=18) (by rw[aN];exact ak 18);clear i s;rw[show aF L=(aQ L).toArray from rfl]at n;go_wp2_with (first|refine lV 0 f.2.2.2.1 abQ (by rw[e.out];omega) r ?_|refine sV 0 (aQ L) f.2.2.1 (by rw[e.out,o.out];omega) (by rw[e.out];exact abQ) j ?_);have v:=qG t.1 (by rw[e.out];exact abQ);refine QB (v:=.agg (aQ L).toArray) ?_ rfl n;simp[results,results144,asAddr,Act.put,v]
def uK (t s:V)(a c:L)(d:W)(y:aY d t a)(z:aY d s c)(Y:a.length<=c.length)(hn:a.length<=100)(j:aL a=true)(k:aL c=true):Calls prog 141 #[t,s] d (nQ d (I (fU a c a.length))):=by
 have m:=Zs (nQ d (I (fU a c a.length)) (.returned (I (fU a c a.length))) d) (⟨rfl,rfl⟩);have e:=Zd<|n_ a c j k;have f:=Zd<|kJ a (-32768) 32767 gO gO ((bD a).1 j);have RB:=Zd<|kJ c (-32768) 32767 gO gO ((bD c).1 k);obtain⟨J,M,rfl,U,q⟩:=y;obtain⟨K,Q,rfl,X,r⟩:=z;have g:=Zd q;have i:=Zd r;clear q r j k;generalize nQ d (I (fU a c a.length))=H at *
 go_enter func141,ntmps141;go_wp2_with fail;go_loop [5,10] (λl d=>∃b:Nat,d=I b/\l=I (fU a c b)/\b<=a.length) (λ_ d=>a.length-(intOf d).toNat)
 case atStart=>exact⟨0,rfl,rfl,QN _⟩
 case round=>
  obtain⟨b,rfl,rfl,Z⟩:=hrel;by_cases B:b<a.length
  .obtain⟨pa,rfl,o⟩:=g gO;obtain⟨pb,rfl,p⟩:=i gO;have O:=o b B;have P:=p b gO;have⟨D,E⟩:=f b;have⟨F,G⟩:=RB b;have C:=sF _ _ D E F G;have x:=e b;have n:=Rp a c b;have i1:(b:Int)<a.length:=gO;have i2:(b:Int)<c.length:=gO;have u:=Zd n;clear o p e f RB g i n m;have⟨p1,p2⟩:=C;have⟨v,w⟩:=x;have R:-107374182400<=fU a c b:=gO;have T:fU a c b<=107374182400:=gO;clear v w;generalize fU a c b=l at *
   generalize aB a b=aa at *
   generalize aB c b=ab at *
   go_wp2_with fail;go_round
   case rel=>exact⟨b+1,by go_num,by rw[u.out],gO⟩
   case measure=>simp[intOf];omega
  obtain rfl:b=a.length:=gO;clear g i f RB e;generalize fU a c a.length=l at *
  go_wp2_with fail;exact m
def H_ (u t:V)(c d:L)(b:W)(p:aY b u c)(q:aY b t d)(l:c.length=40)(r:d.length=40):Calls prog 181 #[u,t] b (abP b (Ot c d)):=by
 have n:=Zd λwr (k:b.grownBy wr none)=>aR p k;have m:=Zd λwr (k:b.grownBy wr none)=>aR q k;have x:=Zs (∀a e,fO b.heap.size e a (Ot c d)->b.grownBy e none->abP b (Ot c d) (.returned a) e) (λa e e s=>⟨a,rfl,e,s⟩);have w:=Zd λa=>show fA (fA (aB c a)-fA (aB d a))=(λe=>fA (fA (aB c e)-fA (aB d e))) a from rfl;have v:=Zs (f_ 40 (λe=>fA (fA (aB c e)-fA (aB d e)))=Ot c d) (by unfold Ot;rw[l]);obtain⟨P,R,rfl,E,_⟩:=p;obtain⟨Q,Y,rfl,F,_⟩:=q;rw[l]at E n ⊢;rw[r]at F m ⊢;have z:=Zd l;have B:=Zd r;have C:=Zs (bY (b.alloc (.cells (aF (au 40)) 3)) b.heap.size 3 (au 40)/\b.grownBy (b.alloc (.cells (aF (au 40)) 3)) none) (⟨bY.new b 3 (au 40),aj _ _ none⟩);have G:=gU 40 gO;rw[show((40:Nat):Int)=40 from rfl]at G;generalize abP b (Ot c d)=M at *
 generalize (λe=>fA (fA (aB c e)-fA (aB d e)))=f at *
 go_enter func181,ntmps181;go_upto_region 2 with fail;generalize b.alloc (.cells (aF (au 40)) 3)=O at *
 go_wp2_with fail;go_loopw [13] (λe wr=>∃(a:Nat) (i:L),e=I (a:Int)/\a<=40/\Hid (jF 40 f a i)/\Hid (bY wr b.heap.size 3 i/\b.grownBy wr none)) (λe _=>40-(intOf e).toNat)
 case atStart=>exact⟨0,au 40,rfl,QN _,iP 40 _,C⟩
 case round=>
  obtain⟨a,i,rfl,hm,g,e⟩:=hrel;by_cases j:a<40
  .have i1:(a:Int)<40:=gO;obtain⟨aa,rfl,T⟩:=kX (n _ e.2) a (by rw[z.out];exact j);obtain⟨s,rfl,U⟩:=kX (m _ e.2) a (by rw[B.out];exact j);have X:=e.1.cell a (by rw[g.out.1];exact j);have fd:=e.1.free a;have y:=Zd<|eD g j;have D:=Zs (bY (wr.setCell (A b.heap.size a) (I (f a))) b.heap.size 3 (i.set a (f a))/\b.grownBy (wr.setCell (A b.heap.size a) (I (f a))) none) (⟨e.1.set a (f a),aG e.2 (aD wr (A b.heap.size a) _) (Q6 _)⟩);have o:=Zd<|w a;generalize f a=K at *
   generalize aB c a=H at *
   generalize aB d a=J at *
   generalize aB i a=ab at *
   go_wp2_with fail;refine(ajo H J _).mono ?_;rintro Z w1 ⟨rfl,rfl⟩;rw[o.out];go_wp2;go_roundw
   case rel=>exact⟨a+1,_,by go_num,gO,y,D⟩
   case measure=>simp[intOf];omega
  obtain rfl:a=40:=gO;have D:=fB g;have o:=Yq (base:=b.heap.size) e.1 (Q6 _) (by rw[g.out.1];omega);rw[g.out.1,D,show List.map f (List.range 40)=_ from v.out]at o;have y:=Zd<|x _ _ o e.2;go_wp2_with fail;exact y
def Ov (q:V)(c:L)(d:Int)(b:W)(p:aY b q c)(m:c.length=40)(G:aL c=true)(F:TabA b 3 gains 8):Calls prog 185 #[q,I d] b (abP b (Gf c (Es d))):=by
 have n:=Zd λwr (l:b.grownBy wr none)=>aR p l;have u:=Zs (∀a e,fO b.heap.size e a (Gf c (Es d))->b.grownBy e none->abP b (Gf c (Es d)) (.returned a) e) (λa e e f=>⟨a,rfl,e,f⟩);have v:=Zd<|H9 d b F;have X:=alU d;have s:=Zd λa=>show fA ((aB c a*Es d+8192) / 16384)=(λe=>fA ((aB c e*Es d+8192) / 16384)) a from rfl;have r:=Zs (f_ 40 (λe=>fA ((aB c e*Es d+8192) / 16384))=Gf c (Es d)) (by unfold Gf;rw[m]);have B:=Zd λa=>tY G a;obtain⟨O,Q,rfl,D,_⟩:=p;rw[m]at D n ⊢;have w:=Zd m;have x:=Zs (bY (b.alloc (.cells (aF (au 40)) 3)) b.heap.size 3 (au 40)/\b.grownBy (b.alloc (.cells (aF (au 40)) 3)) none) (⟨bY.new b 3 (au 40),aj _ _ none⟩);have E:=gU 40 gO;rw[show((40:Nat):Int)=40 from rfl]at E;generalize abP b (Gf c (Es d))=K at *
 generalize (λe=>fA ((aB c e*Es d+8192) / 16384))=g at *
 generalize Es d=l at *
 go_enter func185,ntmps185;go_wp2_with fail;refine v.mono ?_;rintro C f ⟨rfl,rfl⟩;go_upto_region 3 with fail;generalize f.alloc (.cells (aF (au 40)) 3)=M at *
 go_wp2_with fail;go_loopw [20] (λe wr=>∃(a:Nat) (j:L),e=I (a:Int)/\a<=40/\Hid (jF 40 g a j)/\Hid (bY wr f.heap.size 3 j/\f.grownBy wr none)) (λe _=>40-(intOf e).toNat)
 case atStart=>exact⟨0,au 40,rfl,QN _,iP 40 _,x⟩
 case round=>
  obtain⟨a,j,rfl,Y,i,e⟩:=hrel;by_cases k:a<40
  .have Z:(a:Int)<40:=gO;obtain⟨aa,rfl,R⟩:=kX (n _ e.2) a (by rw[w.out];exact k);have T:=e.1.cell a (by rw[i.out.1];exact k);have U:=e.1.free a;have y:=Zd<|eD i k;have z:=Zs (bY (wr.setCell (A f.heap.size a) (I (g a))) f.heap.size 3 (j.set a (g a))/\f.grownBy (wr.setCell (A f.heap.size a) (I (g a))) none) (⟨e.1.set a (g a),aG e.2 (aD wr (A f.heap.size a) _) (Q6 _)⟩);have t:=Zd<|s a;have o:=B a;generalize g a=J at *
   generalize aB c a=H at *
   generalize aB j a=ab at *
   have P:=uf H l o.1 o.2 gO gO;go_wp2_with fail;refine(tT _ _).mono ?_;rintro C w2 ⟨rfl,rfl⟩;rw[t.out];go_wp2;go_roundw
   case rel=>exact⟨a+1,_,by go_num,gO,y,z⟩
   case measure=>simp[intOf];omega
  obtain rfl:a=40:=gO;have y:=fB i;have o:=Yq (base:=f.heap.size) e.1 (Q6 _) (by rw[i.out.1];omega);rw[i.out.1,y,show List.map g (List.range 40)=_ from r.out]at o;have t:=Zd<|u _ _ o e.2;go_wp2_with fail;exact t
def gL (a b c:Int)(d:W):Calls prog 153 #[I a,I b,I c] d (nQ d (.bool (decide (b<=a/\a<=c)))):=by
 by_cases e:b<=a
 .by_cases f:a<=c
  .rw[KN (show b<=a/\a<=c from⟨e,f⟩)];go_enter func153,ntmps153;go_wp2_with fail;go_ret;exact⟨rfl,rfl⟩
  rw[KF (show ¬(b<=a/\a<=c)from λd=>f d.2)];go_enter func153,ntmps153;go_wp2_with fail;go_ret;exact⟨rfl,rfl⟩
 rw[KF (show ¬(b<=a/\a<=c)from λd=>e d.1)];go_enter func153,ntmps153;go_wp2_with fail;go_ret;exact⟨rfl,rfl⟩
def qE (b:Int)(a:W):Calls prog 239 #[I b] a (nQ a (I (fA b))):=by
 have d:=Zs (∀c,c=fA b->nQ a (I (fA b)) (.returned (I c)) a) (λc c=>⟨by rw[c],rfl⟩);generalize nQ a (I (fA b))=c at *
 go_enter func239,ntmps239;go_wp2_with fail
 all_goals(refine d _ ?_;unfold fA;(repeat' split)<;>omega)
def Oq (b a:Int)(f:-4611686018427387904<=b*a)(g:b*a<=4611686018427387904)(c:W):Calls prog 240 #[I b,I a] c (nQ c (I ((b*a+8192) / 16384))):=by
 have d:=Zs (nQ c (I ((b*a+8192) / 16384)) (.returned (I ((b*a+8192) / 16384))) c) (⟨rfl,rfl⟩);generalize nQ c (I ((b*a+8192) / 16384))=e at *
 go_enter func240,ntmps240;go_wp2_with fail;exact d
def D5 (c b:Int)(a:L):Bool:=a.all λa=>decide (c<=a)&&decide (a<=b)
def Lm (f e:Int)(c:L):D5 f e c=true↔∀a,a<c.length->f<=aB c a/\aB c a<=e:=by
 unfold D5;rw[List.all_eq_true];constructor
 .intro d a b;have:=d c[a] (List.getElem_mem b);simpa [aB,List.getD,b] using this
 intro d h g;obtain⟨a,b,rfl⟩:=List.getElem_of_mem g;have:=d a b;simpa [aB,List.getD,b] using this
def Rl (d:L):D5 (-31000) 31000 (bM d 0 8)=true↔reflB d=true:=by
 rw[Lm,Aa,aT];constructor
 .intro b c a;have:=b c a;rwa [fV _ _ _ _ a,WT]at this
 intro b c a;rw[fV _ _ _ _ a,WT];exact b c a
def Ck (s:V)(a:L)(e c:Int)(f:W)(u:aY f s a)(F:a.length<=1000000000000000000):Calls prog 152 #[s,I e,I c] f (nQ f (.bool (D5 e c a))):=by
 obtain⟨z,B,rfl,C,o⟩:=u;have n:=Zd λ(j:∀b,b<a.length->e<=aB a b/\aB a b<=c)=>(show nQ f (.bool (D5 e c a)) (.returned (.bool true)) f from⟨by rw[(Lm e c a).2 j],rfl⟩);have N:=Zd (λb (v:b<a.length) (j:¬(e<=aB a b/\aB a b<=c))=>(show nQ f (.bool (D5 e c a)) (.returned (.bool false)) f from⟨by
  rcases hb:D5 e c a with _|_
  .rfl
  exact absurd ((Lm e c a).1 hb b v) j,rfl⟩))
 generalize nQ f (.bool (D5 e c a))=x at *
 go_enter func152,ntmps152;go_wp2_with fail;go_loop [11] (λb=>∃d:Nat,b=I d/\d<=a.length/\Hid (∀b,b<d->e<=aB a b/\aB a b<=c)) (λb=>a.length-(intOf b).toNat)
 case atStart=>exact⟨0,rfl,QN _,λb c=>gO⟩
 case round=>
  obtain⟨d,rfl,E,k⟩:=hrel;by_cases q:d<a.length
  .obtain⟨y,rfl,r⟩:=o gO;have D:=r d q;have m:=Zd<|N d q;have l:=Zd (λ(j:e<=aB a d/\aB a d<=c)=>(show ∀b,b<d+1->e<=aB a b/\aB a b<=c from λb c=>by
    rcases WZ b d with g|g
    .exact k b g
    obtain rfl:b=d:=gO;exact j))
   clear o r n N k;generalize aB a d=p at *
   have G:(d:Int)<a.length:=gO;have b:=Zd<|gL p e c f;by_cases g:e<=p/\p<=c
   .have i:=Zd<|l g;rw[KN g]at b;clear m l g;go_wp2_with fail;refine b.mono ?_;rintro t w ⟨rfl,rfl⟩;clear b;go_wp2_with fail;go_round
    case rel=>exact⟨d+1,by go_num,gO,i⟩
    case measure=>simp[intOf];omega
   have i:=Zd<|m g;rw[KF g]at b;clear m l g;go_wp2_with fail;refine b.mono ?_;rintro t w ⟨rfl,rfl⟩;clear b;go_wp2_with fail;exact i
  obtain rfl:d=a.length:=gO;have i:=Zd<|n k;clear o n N k;go_wp2_with fail;exact i
def gM (a:L)(v:Bool)(M:a.length=101)(j:W):Calls prog 126 #[bL a v] j (jB j (.bool (bJ a))):=by
 have c:=Zd<|bU.new j a v;have e:=Zd<|aj j (.cells (aP a v).toArray 53) none;have g:=Zd M;have f:=Zd<|oU a;obtain⟨k,y⟩:∃k:Ending->W->Prop,jB j (.bool (bJ a))=k:=⟨_,rfl⟩;rw[y];have i:=Zd λ(x:¬bJ a=true) b (w:j.grownBy b none)=>(show k (.returned (.bool false)) b from by rw[<-y];exact⟨by rw[show bJ a=false by simpa using x],w⟩);have z:=Zd λ(x:bJ a=true) b (w:j.grownBy b none)=>(show k (.returned (.bool true)) b from by rw[<-y];exact⟨by rw[x],w⟩);unfold bL;generalize aP a v=K at *
 go_enter func126,ntmps126;go_upto_region 1 with fail;generalize j.alloc (.cells K.toArray 53)=U at *
 have Y:=c.cell 96 (by rw[g.out];omega);have Z:=c.cell 97 (by rw[g.out];omega);have aa:=c.cell 98 (by rw[g.out];omega);have ab:=c.cell 99 (by rw[g.out];omega);have X:=c.cell 100 (by rw[g.out];omega);have J:=Zd<|c.ints 0 8 8 (by rw[g.out];omega) gO;have H:=Zd<|c.ints 8 8 8 (by rw[g.out];omega) gO;have G:=Zd<|c.ints 16 80 80 (by rw[g.out];omega) gO;go_wp2_with fail;refine(Ck _ (bM a 0 8) (-31000) 31000 _ J (by rw[aT];omega)).mono ?_;rintro d w0 ⟨rfl,rfl⟩;rcases hb0:D5 (-31000) 31000 (bM a 0 8)with _|_
 .have b:=Zd<|i (λc=>by have:D5 (-31000) 31000 (bM a 0 8)=true:=(Rl a).2 ((f.1 c).1);rw[hb0]at this;cases this) _ e;go_wp2_with fail;exact b
 go_wp2_with fail;refine(Ck _ (bM a 8 8) (-32768) 32767 _ H (by rw[aT];omega)).mono ?_;rintro d w1 ⟨rfl,rfl⟩;rcases hb1:D5 (-32768) 32767 (bM a 8 8)with _|_
 .have b:=Zd<|i (λc=>by have:D5 (-32768) 32767 (bM a 8 8)=true:=(f.1 c).2.1;rw[hb1]at this;cases this) _ e;go_wp2_with fail;exact b
 go_wp2_with fail;refine(Ck _ (bM a 16 80) (-32768) 32767 _ G (by rw[aT];omega)).mono ?_;rintro d w2 ⟨rfl,rfl⟩;rcases hb2:D5 (-32768) 32767 (bM a 16 80)with _|_
 .have b:=Zd<|i (λc=>by have:D5 (-32768) 32767 (bM a 16 80)=true:=(f.1 c).2.2.1;rw[hb2]at this;cases this) _ e;go_wp2_with fail;exact b
 go_wp2_with fail;have l:=Zd λg=>gL (aB a 96) 0 32767 g;by_cases q:0<=aB a 96/\aB a 96<=32767
 rotate_left
 .rw[KF q]at l;refine(l _).mono ?_;rintro d O ⟨rfl,rfl⟩;have b:=Zd<|i (λc=>q (f.1 c).2.2.2.1) _ e;go_wp2_with fail;exact b
 rw[KN q]at l;refine(l _).mono ?_;rintro d O ⟨rfl,rfl⟩;have B:=Zd q;go_wp2_with fail;have m:=Zd λg=>gL (aB a 97) 0 18022 g;by_cases r:0<=aB a 97/\aB a 97<=18022
 rotate_left
 .rw[KF r]at m;refine(m _).mono ?_;rintro d P ⟨rfl,rfl⟩;have b:=Zd<|i (λc=>r (f.1 c).2.2.2.2.1) _ e;go_wp2_with fail;exact b
 rw[KN r]at m;refine(m _).mono ?_;rintro d P ⟨rfl,rfl⟩;have C:=Zd r;go_wp2_with fail;have n:=Zd λg=>gL (aB a 98) 20 79 g;by_cases s:20<=aB a 98/\aB a 98<=79
 rotate_left
 .rw[KF s]at n;refine(n _).mono ?_;rintro d Q ⟨rfl,rfl⟩;have b:=Zd<|i (λc=>s (f.1 c).2.2.2.2.2.1) _ e;go_wp2_with fail;exact b
 rw[KN s]at n;refine(n _).mono ?_;rintro d Q ⟨rfl,rfl⟩;have D:=Zd s;go_wp2_with fail;have o:=Zd λg=>gL (aB a 99) 0 6 g;by_cases t:0<=aB a 99/\aB a 99<=6
 rotate_left
 .rw[KF t]at o;refine(o _).mono ?_;rintro d R ⟨rfl,rfl⟩;have b:=Zd<|i (λc=>t (f.1 c).2.2.2.2.2.2.1) _ e;go_wp2_with fail;exact b
 rw[KN t]at o;refine(o _).mono ?_;rintro d R ⟨rfl,rfl⟩;have E:=Zd t;go_wp2_with fail;have p:=Zd λg=>gL (aB a 100) 0 65535 g;by_cases u:0<=aB a 100/\aB a 100<=65535
 rotate_left
 .rw[KF u]at p;refine(p _).mono ?_;rintro d T ⟨rfl,rfl⟩;have b:=Zd<|i (λc=>u (f.1 c).2.2.2.2.2.2.2) _ e;go_wp2_with fail;exact b
 rw[KN u]at p;refine(p _).mono ?_;rintro d T ⟨rfl,rfl⟩;have F:=Zd u;have b:=Zd<|z (f.2 ⟨(Rl a).1 hb0,hb1,hb2,B,C,D,E,F⟩) _ e;go_wp2_with fail;exact b
def Gd (a:W):Sem.run prog (Instr.build 53 #[(5,I 20),(7,I 21845)]) a=.ok (bL iY false) a:=by kernel_rfl
def A_ {f:Array Oper}{rest:List Oper}{c:Oper}{a:Act}{g:W}{e:Exit->Act->W->Prop}(i:c.guard=none)(b d:Operand)(j:c.op=.build 53 #[(5,b),(7,d)])(k:a.eval b=I 20)(l:a.eval d=I 21845)
 (m:wpList prog f e rest (a.put c.dst (bL iY false)) g):wpList prog f e (c::rest) a g:=by
 refine wpList_plain i λ_ c=>?_;unfold Oper.wp execOp;have h:(#[(5,b),(7,d)]:Array (Nat×Operand)).map (λ(d,b)=>(d,a.eval b))=#[(5,I 20),(7,I 21845)]:=by simp[k,l]
 simp only[j,h,Sem.run_bind,Gd,Result.andThen_ok,Sem.run_pure];exact c _ _ m
def yj (a:W):Calls prog 38 #[] a (jB a (bL iY false)):=by
 have b:=Zd<|bU.new a (au 101) false;have i:=b.dQ (m:=iY) (t:=false) (ak 101) j5;have g:=Zd i.1;have k:=Zd<|aG (aj a (.cells (aP (au 101) false).toArray 53) none) i.2 (Q6 _);have c:=Zs ((aP iY false).length=102) (aJ j5 false);have l:=Zs ((aP (au 101) false).length=102) (aJ (ak 101) false);have j:=Zd<|bO iY false;have n:=dM;have e:=Zs (jB a (bL iY false) (.returned (bL iY false)) (dz (a.alloc (.cells (aP (au 101) false).toArray 53)) a.heap.size 0 (aP iY false))) (⟨rfl,k⟩);generalize jB a (bL iY false)=o at *
 have d:=Zd λm rest k i a f=>@A_ m rest k i a f;unfold bL at n e d;unfold bU at b g;generalize aP (au 101) false=p at *
 generalize aP iY false=f at *
 go_enter func38,ntmps38;go_wp2_with (first|refine d _ _ _ _ _ _ rfl _ _ rfl rfl rfl ?_|refine sV 0 f b (by rw[l.out,c.out];omega) (by rw[c.out];exact aK) j ?_);have m:=qG g (by rw[c.out];exact aK);refine QB (v:=.agg f.toArray) ?_ rfl e;simp[results,results38,asAddr,Act.put,m]
def YO (e:V)(a:L)(c:Bool)(b:W)(j:aY b e a)(o:a.length=80)(k:aL a=true):Calls prog 122 #[e,.bool c] b (nQ b (I (if c=true then 1 else if fU a a 80<1280 then 2 else 0))):=by
 have f:=Zd<|uK e e a a b j j (Q6 _) gO k k;rw[o]at f;have g:=Zs (∀d,d=(if c=true then 1 else if fU a a 80<1280 then 2 else 0)->nQ b (I (if c=true then 1 else if fU a a 80<1280 then 2 else 0)) (.returned (I d)) b) (λd d=>⟨by rw[d],rfl⟩);generalize nQ b (I (if c=true then 1 else if fU a a 80<1280 then 2 else 0))=p at *
 cases c with
 | true=>
  have d:=Zd<|g 1 rfl;go_enter func122,ntmps122;go_wp2_with fail;exact d
 | false=>
  by_cases i:fU a a 80<1280
  .have d:=Zd<|g 2 (by rw[X9 (by decide),Q9 i]);generalize fU a a 80=l at *
   go_enter func122,ntmps122;go_wp2_with fail;refine f.mono ?_;rintro m n ⟨rfl,rfl⟩;go_wp2_with fail;exact d
  have d:=Zd<|g 0 (by rw[X9 (by decide),X9 i]);generalize fU a a 80=l at *
  go_enter func122,ntmps122;go_wp2_with fail;refine f.mono ?_;rintro m n ⟨rfl,rfl⟩;go_wp2_with fail;exact d
def Mg {s:Nat->Option Bool}{l:Act->W->Prop}{t:Prop}(y:o.guard=none)(c q:Operand)
 (z:o.op=Op.call { callee:=Callee.builtin Builtin.copy,args:=#[c,q],argTypes:=#[26,26] }) (f e i d m r:Nat) (g:TypeId) (b:List V) (L:List Int) (h:Addr) (n:aW w f g b)
 (v:a.eval c=.slice (some (A f e)) i m) (B:a.eval q=.slice (some h) d r) (j:L.length=d) (x:d<=i) (C:∀c,c<d->w.cell? (h.add c)=some (I (aB L c))) (F:e+d<=b.length)
 (u:∀k,aW k f g (lu b e (aQ L))->w.grownBy k (some f)->l (a.put o.dst (goInt d)) k):if Region.wanted o s=true then Oper.wp prog o a w l Q else t:=by
 have E:Region.wanted o s=true:=by simp[Region.wanted,y]
 rw[Q9 E];have D:(prog.info? 3).map (·.size)=some 1:=by kernel_rfl
 have p:=run_copy_row (P:=prog) w 26 26 o.type 3 f e i m h d r b.toArray g (L.map (Value.int .i64)) underlying26 D n (by rw[GK,j];exact(Nat.min_eq_left x).symm)
  (λc f d=>by
   have k:c<L.length:=by
    by_cases k:c<L.length
    .exact k
    rw[U8 (by simp;omega)]at d;cases d
   rw[C c gO];simpa [aB,List.getD,k] using d)
  (by simp[j];omega) (λf d=>by
   obtain⟨k,_,rfl⟩:=List.mem_map.1 d;rfl)
 have k:(b.toArray.toList.take e++L.map (Value.int .i64)++b.toArray.toList.drop (e+(L.map (Value.int .i64)).length)).toArray=(lu b e (aQ L)).toArray:=by simp[lu,aQ]
 rw[k,GK,j]at p;unfold Oper.wp;simp[execOp,z,resolve,invoke,builtin,v,B,p,Result.andThen];exact u _ (setRow_heap _ _ _ _ _ _ n) (Bh _ _ _)
def h_.put (c:h_ w n l s)(b:Nat)(a:L)(d:b+a.length<=l.length):h_ (dz w n b (aQ a)) n (jd l b a) s/\w.grownBy (dz w n b (aQ a)) (some n):=by have:=qM c b (aQ a) (by rw[aN];unfold bV;rw[wH];omega);unfold bV at this;rw[rJ _ _ _ _ d]at this;exact this
def Bb (a:W)(c:L)(d:Bool)(b:W):Prop:=h_ b a.heap.size c d/\h_ b (a.heap.size+1) (au 225) false/\bY b (a.heap.size+1+1) 50 (au 8)/\bY b (a.heap.size+1+1+1) 50 (au 8)/\a.grownBy b none
def Bb.new (c:W)(a:L)(b:Bool):Bb c a b ((((c.alloc (.cells (bV a b).toArray 55)).alloc (.cells (bV (au 225) false).toArray 55)).alloc (.cells #[I 0,I 0,I 0,I 0,I 0,I 0,I 0,I 0] 50)).alloc (.cells #[I 0,I 0,I 0,I 0,I 0,I 0,I 0,I 0] 50)):=by
 rw[<-uR];have f:=aj (c.alloc (.cells (bV a b).toArray 55)) (.cells (bV (au 225) false).toArray 55) none;have e:=aj ((c.alloc (.cells (bV a b).toArray 55)).alloc (.cells (bV (au 225) false).toArray 55)) (.cells (aF (au 8)) 50) none;have d:=aj (((c.alloc (.cells (bV a b).toArray 55)).alloc (.cells (bV (au 225) false).toArray 55)).alloc (.cells (aF (au 8)) 50)) (.cells (aF (au 8)) 50) none;refine⟨(((h_.new c a b).aC f).aC e).aC d,?_,?_,?_,ay (ay (ay (aj _ _ none) f) e) d⟩
 .have:=((h_.new (c.alloc (.cells (bV a b).toArray 55)) (au 225) false).aC e).aC d;simpa using this
 .have:=(bY.new ((c.alloc (.cells (bV a b).toArray 55)).alloc (.cells (bV (au 225) false).toArray 55)) 50 (au 8)).aC d;simpa using this
 have:=bY.new (((c.alloc (.cells (bV a b).toArray 55)).alloc (.cells (bV (au 225) false).toArray 55)).alloc (.cells (aF (au 8)) 50)) 50 (au 8);simpa using this
def Bb.aC (b:Bb w l s w')(a:w'.grownBy u none):Bb w l s u:=⟨b.1.aC a,b.2.1.aC a,b.2.2.1.aC a,b.2.2.2.1.aC a,ay b.2.2.2.2 a⟩
def Bb.aio {c:Bool}(b:Bb w l s w')(d:h_ u w.heap.size p c)(a:w'.grownBy u (some w.heap.size)):Bb w p c u:=⟨d,b.2.1.aH a gO,b.2.2.1.aH a gO,b.2.2.2.1.aH a gO,aG b.2.2.2.2 a (Q6 _)⟩
def Bb.am9 (c:Bb w l s w')(b:Nat)(a:L)(d:b+a.length<=l.length):Bb w (jd l b a) s (dz w' w.heap.size b (aQ a))/\w'.grownBy (dz w' w.heap.size b (aQ a)) (some w.heap.size):=by have:=c.1.put b a d;exact⟨c.aio this.1 this.2,this.2⟩
def Ed (d:W)(b:Int)(f:Ending)(e:W):Prop:=∃a c,a.length=225/\f=.returned (.tuple #[gu a c,.agg (aF (au 8)),I b])/\d.grownBy e none
def amo (d:W)(a:L)(c:Bool)(b:L)(f:Ending)(e:W):Prop:=f=.returned (.tuple #[gu (vU a b++(nH a b++fF a)) c,.agg (aF (lZ a b)),I 0])/\d.grownBy e none
def afo (c:V)(a:L)(b:W)(i:aY b c a)(d:a.length=120)(e:aL a=true):Calls prog 138 #[c] b λg f=>g=.returned (.tuple #[.agg (aF (qZ a)),I ((aa7 a:Int)-31),I 0])/\b.grownBy f none:=by refine(aeE c a b i d e).mono ?_;rintro g f ⟨m,k,l,j⟩;have hp:=Ak (f:=wN a);have n:=wV (T9 a d e) 0 gO;have h:m=aa7 a:=He gO k (KR _ gO gO);subst h;exact⟨by rw[l,QM];rfl,j⟩
def Gm (c:W)(a:L)(b:Bool)(o:a.length=225)(r:V)(e:L)(E:aY c r e)(Y:e.length*8<=140737488351232)(F:e.length≠80):Calls prog 121 #[gu a b,r] c (Ed c (iw a e)):=by
 have z:=Zd<|Bb.new c a b;have w:=Zd o;have O:=Zd<|bK o b;have M:=Zd<|h_.all b o;have D:=Zd<|bK (ak 225) false;have J:=jJ;have i:=Zs (∀d f,d.length=225->c.grownBy f none->Ed c (iw a e) (.returned (.tuple #[gu d b,.agg (aF (au 8)),I 1])) f) (λd f g j=>⟨d,b,g,by rw[(show iw a e=1 from X9 F)],j⟩);obtain⟨R,T,rfl,U,_⟩:=E;have X:((e.length:Int)==80)=false:=beq_eq_false_iff_ne.2 gO;generalize Ed c (iw a e)=P at *
 unfold gu at J ⊢;go_enter func121,ntmps121;go_upto_region 2 with fail;generalize (((c.alloc (.cells (bV a b).toArray 55)).alloc (.cells (bV (au 225) false).toArray 55)).alloc (.cells #[I 0,I 0,I 0,I 0,I 0,I 0,I 0,I 0] 50)).alloc (.cells #[I 0,I 0,I 0,I 0,I 0,I 0,I 0,I 0] 50)=Q at *
 have k:=Zs ((a).length=225) (w);have g:=Zd<|bK k b;have s:=Zd<|h_.all b k;have l:=Zd<|ak 8;have p:=Zd<|Q6 (c.heap.size+1+1+1);have m:=z;replace i:=Zd λf j=>i _ f k j;unfold gu at i;go_upto_region 3 with fail;refine wp_region_held_drew (S:=λd=>h_ d c.heap.size (a) b/\bY d (c.heap.size+1+1+1) 50 (au 8)) (by kernel_rfl) ⟨m.1.aC (aS _),m.2.2.2.1.aC (aS _)⟩ λe=>?_;refine aV (hy:=by intro f n;exact bS rfl rfl n.1 _ underlying55 rfl dN (by rw[g.out];omega) _ s) (v:=.agg (bV (a) b).toArray) 0 e ?_;refine aV (hy:=by intro f n;exact yA n.2 (by rw[l.out];exact dX)) (v:=.agg (aF (au 8))) 1 e ?_;refine eU 2 λn f=>?_;simp only[sZ];have j:=Zd<|m.aC (aS _);have d:=j.2.1.dQ (m:=(a)) (t:=b) (ak 225) k;have q:=Zd<|j.2.2.1.aH d.2 gO;have B:=Zd d.1;have u:=Zd<|aG j.2.2.2.2 d.2 gO;have x:=And.intro (e.1.aH d.2 gO) (e.2.aH d.2 (by have:=p.out;omega));refine dD rfl 55 _ _ rfl (c.heap.size+1) 0 55 (bV (au 225) false) (bV (a) b) rfl rfl j.2.1 (by rw[D.out,g.out];omega) (by rw[g.out];exact dN) (gG _ _) ?_;refine f.out _ _ x λe=>?_;simp only[sZ];generalize dz _ (c.heap.size+1) 0 (bV (a) b)=K at *
 refine eU 3 λn f=>?_;simp only[sZ];have d:=bF (rs':=(au 8)) q (l.trans (ak 8).symm);have C:=Zd d.1;have P2:=Zd<|B.aH d.2 gO;have v:=Zd<|aG u d.2 gO;have y:=And.intro (e.1.aH d.2 gO) (e.2.aH d.2 (by have:=p.out;omega));refine eH rfl 50 _ _ rfl (c.heap.size+1+1) (au 8) (au 8) rfl rfl q (l.trans (ak 8).symm) (by rw[ak];exact dX) ?_;refine f.out _ _ y λe=>?_;simp only[sZ];generalize b_ K (c.heap.size+1+1) (au 8)=Z at *
 refine aV 4 e ?_;refine jX ?_;have t:=Zd<|i _ v;have G:=qG P2 (by rw[g.out];exact dN);have H:=kU C (by rw[l.out];exact dX);go_wp2;refine QB (v:=.tuple #[.agg (bV (a) b).toArray,.agg (aF (au 8)),I 1]) ?_ rfl t;simp[results,results121,asAddr,Act.put,G,H]
def Gn (d:W)(a:L)(b:Bool)(n:a.length=225)(M:V)(c:L)(K:aY d M c)(ao:c.length*8<=140737488351232)(t:c.length=80)(hg:bJ (fF a)=true)(s:vV a c=false):Calls prog 121 #[gu a b,M] d (Ed d (iw a c)):=by
 have w:=Zd<|Bb.new d a b;have T:=Zd n;have u:=Zd<|bK n b;have AE:=Zd<|h_.all b n;have ZC:=Zd<|bK (ak 225) false;have hz:=jJ;have ae:¬qL a c:=λe=>by have:=e.2.2.1;rw[s]at this;cases this
 have j:=Zs (∀e g,e.length=225->d.grownBy g none->Ed d (iw a c) (.returned (.tuple #[gu e b,.agg (aF (au 8)),I 2])) g) (λe g f k=>⟨e,b,f,by rw[Av ae t],k⟩);obtain⟨D,E,rfl⟩:=qz K gO;have v:=Zd λe (aa:d.grownBy e none)=>aR K aa;rw[t]at v ⊢;have HL:=Zd t;have o:=Zd λe=>gM (fF a) b (aT _ _ _) e;rw[hg]at o;have y:=Zd<|qc b n;rw[show bM a 124 101=fF a from rfl]at y;have PH:=Zd (show((bV a b).drop 0).take 4=aQ [aB a 0,aB a 1,aB a 2,aB a 3]from by
  rw[tK b 0 4 gO];rfl)
 have f:=Zd λe (ab:aY e (.slice (some D) 80 E) c)=>KT (aB a 0) (aB a 1) (aB a 2) (aB a 3) (.slice (some D) 80 E) c e ab gO;rw[show Vd (aB a 0) (aB a 1) (aB a 2) (aB a 3) c=jo a c from rfl]at f;unfold hiT at f;generalize ah:hiM (aB a 0) (aB a 1) (aB a 2) (aB a 3) c 0=F at f;generalize ai:hiM (aB a 0) (aB a 1) (aB a 2) (aB a 3) c 1=G at f;generalize am:hiM (aB a 0) (aB a 1) (aB a 2) (aB a 3) c 2=H at f;generalize an:hiM (aB a 0) (aB a 1) (aB a 2) (aB a 3) c 3=J at f;have hE:Xh (aB a 0) (aB a 1) (aB a 2) (aB a 3) c=2:=by unfold Xh;unfold vV at s;rw[X9 (by rw[s];decide)]
 rw[hE]at f;generalize Ed d (iw a c)=ag at *
 unfold bL at o;unfold gu at hz ⊢;go_enter func121,ntmps121;go_upto_region 2 with fail;generalize (((d.alloc (.cells (bV a b).toArray 55)).alloc (.cells (bV (au 225) false).toArray 55)).alloc (.cells #[I 0,I 0,I 0,I 0,I 0,I 0,I 0,I 0] 50)).alloc (.cells #[I 0,I 0,I 0,I 0,I 0,I 0,I 0,I 0] 50)=W0 at *
 go_wp2_with (first|refine lV 124 w.1 aK (by rw[u.out];omega) y ?_);refine(o W0).mono ?_;rintro af B ⟨rfl,g1⟩;have p:=Zd<|w.aC g1;go_wp2_with (first|refine lV 0 p.1 uo (by rw[u.out];omega) PH ?_);refine(f B (v B p.2.2.2.2)).mono ?_;rintro af C ⟨vc,rfl,oc,g2⟩;have Y:=Zd<|(p.aC g2).aC (aj C (.cells #[I F,I G,I H,I J] 48) none);go_upto_region 7 with fail;generalize C.alloc (.cells #[I F,I G,I H,I J] 48)=W3 at *
 have l:=Zs ((a).length=225) (T);have i:=Zd<|bK l b;have O:=Zd<|h_.all b l;have m:=Zd<|ak 8;have x:=Zd<|Q6 (d.heap.size+1+1+1);have q:=Y;replace j:=Zd λg k=>j _ g l k;unfold gu at j;go_upto_region 8 with fail;refine wp_region_held_drew (S:=λc=>h_ c d.heap.size (a) b/\bY c (d.heap.size+1+1+1) 50 (au 8)) (by kernel_rfl) ⟨q.1.aC (aS _),q.2.2.2.1.aC (aS _)⟩ λc=>?_;refine aV (hy:=by intro g r;exact bS rfl rfl r.1 _ underlying55 rfl dN (by rw[i.out];omega) _ O) (v:=.agg (bV (a) b).toArray) 0 c ?_;refine aV (hy:=by intro g r;exact yA r.2 (by rw[m.out];exact dX)) (v:=.agg (aF (au 8))) 1 c ?_;refine aV 2 c ?_;refine eU 3 λg f=>?_;simp only[sZ];have k:=Zd<|q.aC (aS _);have e:=k.2.1.dQ (m:=(a)) (t:=b) (ak 225) l;have z:=Zd<|k.2.2.1.aH e.2 gO;have Z:=Zd e.1;have Q:=Zd<|aG k.2.2.2.2 e.2 gO;have U:=And.intro (c.1.aH e.2 gO) (c.2.aH e.2 (by have:=x.out;omega));refine dD rfl 55 _ _ rfl (d.heap.size+1) 0 55 (bV (au 225) false) (bV (a) b) rfl rfl k.2.1 (by rw[ZC.out,i.out];omega) (by rw[i.out];exact dN) (gG _ _) ?_;refine f.out _ _ U λc=>?_;simp only[sZ];generalize dz _ (d.heap.size+1) 0 (bV (a) b)=wa at *
 refine eU 4 λg f=>?_;simp only[sZ];have e:=bF (rs':=(au 8)) z (m.trans (ak 8).symm);have R2:=Zd e.1;have P2:=Zd<|Z.aH e.2 gO;have R:=Zd<|aG Q e.2 gO;have X:=And.intro (c.1.aH e.2 gO) (c.2.aH e.2 (by have:=x.out;omega));refine eH rfl 50 _ _ rfl (d.heap.size+1+1) (au 8) (au 8) rfl rfl z (m.trans (ak 8).symm) (by rw[ak];exact dX) ?_;refine f.out _ _ X λc=>?_;simp only[sZ];generalize b_ wa (d.heap.size+1+1) (au 8)=wb at *
 refine aV 5 c ?_;refine jX ?_;have P:=Zd<|j _ R;have ac:=qG P2 (by rw[i.out];exact dN);have ad:=kU R2 (by rw[m.out];exact dX);go_wp2;refine QB (v:=.tuple #[.agg (bV (a) b).toArray,.agg (aF (au 8)),I 2]) ?_ rfl P;simp[results,results121,asAddr,Act.put,ac,ad]
def IJ (d:W)(a:L)(c:Bool)(C:a.length=225)(H:V)(b:L)(G:aY d H b)(bb:b.length*8<=140737488351232)(hW:vS d)(hk:qL a b):Calls prog 121 #[gu a c,H] d λw t=>w=.returned (.tuple #[gu (vU a b++(nH a b++fF a)) c,.agg (aF (lZ a b)),I 0])/\d.grownBy t none:=by
 have L0:=Zd<|Bb.new d a c;have HE:=Zd C;have Q:=Zd<|bK C c;have AE:=Zd<|h_.all c C;have ZC:=Zd<|bK (ak 225) false;have hz:=jJ;have⟨P,hg,O,hc⟩:=hk;have q:=Zs ((jo a b).length=80) ((Au O).trans P);have u:=Zd<|vk P O;obtain⟨al,cl,rfl⟩:=qz G gO;have HI:=Zd λe (aa:d.grownBy e none)=>aR G aa;rw[P]at HI ⊢;have HL:=Zd P;have R:=Zd λe=>gM (fF a) c (aT _ _ _) e;rw[hg]at R;have PM:=Zd<|qc c C;rw[show bM a 124 101=fF a from rfl]at PM;have PH:=Zd (show((bV a c).drop 0).take 4=aQ [aB a 0,aB a 1,aB a 2,aB a 3]from by
  rw[tK c 0 4 gO];rfl)
 have o:=Zd λe (B:aY e (.slice (some al) 80 cl) b)=>KT (aB a 0) (aB a 1) (aB a 2) (aB a 3) (.slice (some al) 80 cl) b e B gO;rw[show Vd (aB a 0) (aB a 1) (aB a 2) (aB a 3) b=jo a b from rfl]at o;unfold hiT at o;generalize aH:hiM (aB a 0) (aB a 1) (aB a 2) (aB a 3) b 0=i at o;generalize a0:hiM (aB a 0) (aB a 1) (aB a 2) (aB a 3) b 1=j at o;generalize a1:hiM (aB a 0) (aB a 1) (aB a 2) (aB a 3) b 2=k at o;generalize a2:hiM (aB a 0) (aB a 1) (aB a 2) (aB a 3) b 3=l at o;have hE:Xh (aB a 0) (aB a 1) (aB a 2) (aB a 3) b=0:=by unfold Xh;unfold vV at O;rw[Q9 O]
 rw[hE]at o;have CO:=Zd λH e (B:aY e H (nH a b))=>afo H (nH a b) e B u hc;have RL:=Zd<|Dy (nH a b);have LV:=Zd λe=>UU (qZ (nH a b)) (Dy _) e;have U:=Zd<|C9 (qZ (nH a b));have Y:=Zd λe (aa:d.grownBy e none)=>ajB (nL (qZ (nH a b))) (C9 _) e (lq hW aa);rw[(Jr _ (ady (qZ (nH a b)))).1,(Jr _ (ady (qZ (nH a b)))).2]at Y;rw[show quL (nL (qZ (nH a b)))=lZ a b from rfl]at Y;have v:=Zs ((lZ a b).length=8) (xZ _);obtain⟨r,D⟩:∃r,jd a 0 [i,j,k,l]=r:=⟨_,rfl⟩;have an:r.length=225:=by rw[<-D,dV];exact C
 obtain⟨s,E⟩:∃s,jd r 4 (bM a 84 40)=s:=⟨_,rfl⟩;have ao:s.length=225:=by rw[<-E,dV];exact an
 obtain⟨g,F⟩:∃g,jd s 44 (jo a b)=g:=⟨_,rfl⟩;have ad:g.length=225:=by rw[<-F,dV];exact ao
 have ar:=Zd D;have aE:=Zd<|bK an c;have aA:=Zd (show ∀n,n<40->(bV r c)[84+n]?=some (I (aB (bM a 84 40) n))from λn y=>by
  unfold bV;rw[rH _ _ _ gO,fV _ _ _ _ y,<-D,gT _ _ _ _ gO,X9 (λf=>by have:=f.2;simp at this;omega)])
 have E2:=Zs (lu (bV r c) 4 (aQ (bM a 84 40))=bV s c) (by unfold bV;rw[rJ _ _ _ _ (by rw[aT];omega),E]);have aq:=Zd<|bK ao c;have E3:=Zs (lu (bV s c) 44 (aQ (jo a b))=bV g c) (by unfold bV;rw[rJ _ _ _ _ (by rw[q.out];omega),F]);have ah:=Zd ad;have EI:=Zd (show bM g 4 120=nH a b from by
  refine(dL u (λe G=>?_)).symm;rw[<-F,gT _ _ _ _ gO,q.out,<-E];unfold nH;by_cases B:e<40
  .rw[nO,gT _ _ _ _ gO,aT,pO,jg _ _ _ (by rw[aT];exact B),Nat.add_sub_cancel_left]
  rw[pO,iH _ _ _ (by rw[aT];omega),aT,show 4+e-44=e-40 by omega])
 have EF:g=vU a b++(nH a b++fF a):=by
  have p:(fF a).length=101:=aT _ _ _;have hp:vU a b=[i,j,k,l]:=by unfold vU;rw[aH,a0,a1,a2]
  rw[hp];refine Lp (by rw[ad,ZB,ZB,u.out,p];rfl) λe G=>?_;rw[ad]at G;by_cases m:e<4
  .rw[jg _ _ _ m,<-F,gT _ _ _ _ gO,nO,<-E,gT _ _ _ _ gO,nO,<-D,gT _ _ _ _ gO,Q9 (by simp;omega),Nat.sub_zero]
  rw[iH _ _ _ (by simp;omega),show([i,j,k,l]:L).length=4 from rfl];by_cases x:e<124
  .rw[jg _ _ _ (by rw[u.out];omega),<-EI.out,fV _ _ _ _ gO,show 4+(e-4)=e by omega]
  rw[iH _ _ _ (by rw[u.out];omega),u.out];unfold fF;rw[fV _ _ _ _ gO,show 124+(e-4-120)=e by omega,<-F,gT _ _ _ _ gO,q.out,nO,<-E,gT _ _ _ _ gO,aT,nO,<-D,gT _ _ _ _ gO,X9 (λf=>by have:=f.2;simp at this;omega)]
 have ae:=Zs (∀t,d.grownBy t none->amo d a c b (.returned (.tuple #[gu g c,.agg (aF (lZ a b)),I 0])) t) (λt e=>⟨by rw[EF],e⟩);show Calls prog 121 _ d (amo d a c b);generalize amo d a c b=a5 at *
 generalize yK (qZ (nH a b))=le at *
 generalize yL (qZ (nH a b))=lg at *
 generalize nL (qZ (nH a b))=T at *
 generalize ba:((aa7 (nH a b):Int)-31)=cx at CO;generalize qZ (nH a b)=Z at *
 generalize lZ a b=m at *
 unfold bL at R;unfold gu at hz ae ⊢;go_enter func121,ntmps121;go_upto_region 2 with fail;generalize (((d.alloc (.cells (bV a c).toArray 55)).alloc (.cells (bV (au 225) false).toArray 55)).alloc (.cells #[I 0,I 0,I 0,I 0,I 0,I 0,I 0,I 0] 50)).alloc (.cells #[I 0,I 0,I 0,I 0,I 0,I 0,I 0,I 0] 50)=W0 at *
 go_wp2_with (first|refine lV 124 L0.1 aK (by rw[Q.out];omega) PM ?_);refine(R W0).mono ?_;rintro w W1 ⟨rfl,g1⟩;have x:=Zd<|L0.aC g1;go_wp2_with (first|refine lV 0 x.1 uo (by rw[Q.out];omega) PH ?_);refine(o W1 (HI W1 x.2.2.2.2)).mono ?_;rintro w e ⟨vc,rfl,oc,g2⟩;have L3:=Zd<|(x.aC g2).aC (aj e (.cells #[I i,I j,I k,I l] 48) none);have BH:=Zs (aW (e.alloc (.cells #[I i,I j,I k,I l] 48)) e.heap.size 48 (aQ [i,j,k,l])) (aW.new e 48 (aQ [i,j,k,l]));have N2:=Zs (d.heap.size+1+1+1+1<=e.heap.size) ((x.aC g2).2.2.2.1.lt);have ai:=Zd<|(oc.base (b':=d.heap.size+1+1+1+1) (show d.heap.size+1+1+1+1<=W1.heap.size from x.2.2.2.1.lt)).aC (aj e (.cells #[I i,I j,I k,I l] 48) none);obtain⟨ac,cc,rfl,_,_,_⟩:=oc.form (by rw[q.out];omega);rw[q.out]at ai ⊢;go_upto_region 7 with fail;generalize e.alloc (.cells #[I i,I j,I k,I l] 48)=W3 at *
 generalize e.heap.size=bh at *
 go_upto_region 9 with fail;have I_:=Zd<|dO [i,j,k,l];have f:=L3.am9 0 [i,j,k,l] (by rw[HE.out];show 0+4<=225;omega);have L4:=Zd f.1;have OC:=Zd<|ai.bH f.2 gO;rw[ar.out]at L4;go_upto_region 10 with(first|refine lV 0 BH uo (by rw[aN];exact Q6 _) rfl ?_|refine sV 0 (aQ [i,j,k,l]) L3.1 (by rw[Q.out,aN];show 0+4<=226;omega) (by rw[aN];exact uo) I_ ?_);(try simp only[Act.put]);generalize dz W3 d.heap.size 0 (aQ [i,j,k,l])=W4 at *
 refine wp_region_held_drew (S:=λj=>True) (by kernel_rfl) trivial λe=>?_;refine aV 0 e ?_;refine aV 1 e ?_;refine aV 2 e ?_;refine aV 3 e ?_;refine eU 4 λk i=>?_;simp only[sZ];have p:=Zd<|L4.aC (aS W4);refine Mg rfl _ _ rfl d.heap.size 4 120 40 120 40 55 (bV r c) (bM a 84 40) ⟨d.heap.size,84,none⟩ p.1 rfl rfl (aT _ _ _) gO (λn y=>by rw[Addr.add_mid];have cc:=aW.cell p.1 (84+n);rw[cc];have:=aA n y;exact this) (by rw[aE.out];omega) ?_;intro w5 b5 g5;rw[E2.out]at b5;have L5:=Zd<|p.aio b5 g5;have O5:=Zd<|(OC.aC (aS W4)).bH g5 gO;refine i.out _ _ trivial λe=>?_;simp only[sZ];refine aV 5 e ?_;refine jX ?_;go_upto_region 11 with fail;have az:=Zd O5.ints;have av:=Zd (oW az).2.2;go_wp2_with (refine xS rfl _ _ rfl d.heap.size 44 80 80 80 cc 55 (bV s c) (jo a b) ⟨ac,0,none⟩ L5.1 rfl rfl q gO (λn y=>av n (by rw[q.out];exact y)) (by rw[aq.out];omega) ?_);intro w6 b6 g6;rw[E3.out]at b6;have L6:=Zd<|L5.aio b6 g6;go_upto_region 12 with fail;have af:=Zd<|L6.1.input 4 120 120 (by rw[ah.out];omega) gO;rw[EI.out]at af;go_wp2_with fail;refine(CO _ _ af).mono ?_;rintro w W7 ⟨rfl,g7⟩;have⟨n,y,z⟩:=dG W7 69 9 Z RL;have B1:=Zd n;have B2:=Zd y;have L8:=Zd<|(L6.aC g7).aC z;rw[oV]at B1 B2 L8;go_upto_region 13 with(first|refine sA Z B1 (by rw[RL.out,ak]) (by rw[ak];exact bZ) ?_);(try simp only[Act.put]);generalize b_ _ W7.heap.size Z=W8 at *
 generalize W7.heap.size=b9 at *
 go_upto_region 15 with fail;go_wp2_with (first|refine lA B2 (by rw[RL.out];exact bZ) ?_);refine(LV _).mono ?_;rintro w W9 ⟨rfl,g9⟩;have⟨n,y,z⟩:=dG W9 50 8 T U;have B3:=Zd n;have B4:=Zd y;have K:=Zd<|(L8.aC g9).aC z;rw[uR]at B3 B4 K;go_upto_region 16 with(first|refine sA T B3 (by rw[U.out,ak]) (by rw[ak];exact dX) ?_);(try simp only[Act.put]);generalize b_ _ W9.heap.size T=a6 at *
 generalize W9.heap.size=a9 at *
 go_wp2_with (first|refine lA B4 (by rw[U.out];exact dX) ?_);refine(Y _ K.2.2.2.2).mono ?_;rintro w M ⟨rfl,am⟩;have⟨n,y,z⟩:=dG M 50 8 m v;have B5:=Zd n;have B6:=Zd y;have ag:=Zd<|(K.aC am).aC z;have NQ:=Zs (d.heap.size+1+1+1<=M.heap.size) (PN (K.aC am).2.2.2.1.lt);rw[uR]at B5 B6 ag;go_upto_region 17 with(first|refine sA m B5 (by rw[v.out,ak]) (by rw[ak];exact dX) ?_);(try simp only[Act.put]);generalize b_ _ M.heap.size m=a7 at *
 generalize M.heap.size=bq at *
 have X:=ah;have J:=Zd<|bK X c;have ap:=Zd<|h_.all c X;have LS:=ag;refine wp_region_held_drew (S:=λj=>h_ j d.heap.size g c/\bY j bq 50 m) (by kernel_rfl) ⟨LS.1.aC (aS _),B6.aC (aS _)⟩ λe=>?_;refine aV (hy:=by intro t ab;exact bS rfl rfl ab.1 _ underlying55 rfl dN (by rw[J.out];omega) _ ap) (v:=.agg (bV g c).toArray) 0 e ?_;refine aV (hy:=by intro t ab;exact yA ab.2 (by rw[v.out];exact dX)) (v:=.agg (aF m)) 1 e ?_;refine aV 2 e ?_;refine eU 3 λk i=>?_;simp only[sZ];have p:=Zd<|LS.aC (aS _);have f:=p.2.1.dQ (m:=g) (t:=c) (ak 225) X;have R1:=Zd<|p.2.2.1.aH f.2 gO;have P1:=Zd f.1;have G1:=Zd<|aG p.2.2.2.2 f.2 gO;have aw:=And.intro (e.1.aH f.2 gO) (e.2.aH f.2 (by have:=NQ.out;omega));refine dD rfl 55 _ _ rfl (d.heap.size+1) 0 55 (bV (au 225) false) (bV g c) rfl rfl p.2.1 (by rw[ZC.out,J.out];omega) (by rw[J.out];exact dN) (gG _ _) ?_;refine i.out _ _ aw λe=>?_;simp only[sZ];generalize dz _ (d.heap.size+1) 0 (bV g c)=wa at *
 refine eU 4 λk i=>?_;simp only[sZ];have f:=bF (rs':=m) R1 (v.trans (ak 8).symm);have R2:=Zd f.1;have P2:=Zd<|P1.aH f.2 gO;have G2:=Zd<|aG G1 f.2 gO;have ax:=And.intro (e.1.aH f.2 gO) (e.2.aH f.2 (by have:=NQ.out;omega));refine eH rfl 50 _ _ rfl (d.heap.size+1+1) (au 8) m rfl rfl R1 (v.trans (ak 8).symm) (by rw[ak];exact dX) ?_;refine i.out _ _ ax λe=>?_;simp only[sZ];generalize b_ wa (d.heap.size+1+1) m=wb at *
 refine aV 5 e ?_;refine jX ?_;have FF:=Zd<|ae _ G2;have a3:=qG P2 (by rw[J.out];exact dN);have a4:=kU R2 (by rw[v.out];exact dX);go_wp2;refine QB (v:=.tuple #[.agg (bV g c).toArray,.agg (aF m),I 0]) ?_ rfl FF;simp[results,results121,asAddr,Act.put,a3,a4]
def rF (A a b:L)(c:Bool)(q:A.length=9)(E:a.length=101)(l:V)(d:W)(Y:aY d l b)(aa:rD l b)(hx:b.length*8<=140737488351232):Calls prog 158 #[bL a c,.agg (aF A),l] d (Gc d (qR A a b) c (qU A a b)):=by
 have f:=Zd<|Rk.new d 69 A a c;have x:=Zd λe (X:d.grownBy e none)=>XV A (bM a 8 8) q (aT _ _ _) l b e (aR Y X) aa hx;rw[show zn A (bM a 8 8) b=qU A a b from rfl]at x;have u:=Zs (∀e g,fO d.heap.size g e (qU A a b)->d.grownBy g none->Gc d (qR A a b) c (qU A a b) (.returned (.tuple #[bL (jd a 8 (GH A (bM a 8 8) b)) c,e])) g) (λe g g i=>⟨e,rfl,g,i⟩);have g:=Zd<|sS A (bM a 8 8) b;have J:=Zd q;have v:=Zd E;have t:=Zd<|aJ E c;have P8:=Zd<|bU.part (l:=a) c 8 8 gO;have G:=Zs (((aQ A).drop 0).take 9=aQ A) (by rw[List.drop_zero,K3 (by rw[aN,q];omega)]);have R:=Zd<|aJ (ak 101) false;have hz:=dM;generalize Gc d (qR A a b) c (qU A a b)=ab at *
 generalize Nu A (bM a 8 8) b=fe at *
 generalize GH A (bM a 8 8) b=e at *
 generalize qU A a b=LX at *
 unfold bL at u hz ⊢;go_enter func158,ntmps158;go_upto_region 1 with fail;generalize ((d.alloc (.cells (aP a c).toArray 53)).alloc (.cells (aF A) 69)).alloc (.cells (aP (au 101) false).toArray 53)=B at *
 go_wp2_with (first|refine lV 0 f.2.1 bZ (by rw[aN,J.out];omega) G ?_|refine lV 8 f.1 dX (by rw[t.out];omega) P8 ?_);refine(x B f.2.2.2).mono ?_;rintro ac j ⟨v1,rfl,o1,D⟩;have⟨T,U,C⟩:=dG j 50 8 e g;have r:=Zd T;have s:=Zd U;have o:=Zd<|(f.aC D).aC C;have N1:=Zs (d.heap.size+1+1+1<=j.heap.size) ((f.aC D).2.2.1.lt);have y:=Zd<|(o1.base (b':=d.heap.size+1+1+1) (show d.heap.size+1+1+1<=B.heap.size from f.2.2.1.lt)).aC C;rw[uR]at r s o y;go_upto_region 2 with(first|refine sA e r (by rw[g.out,ak]) (by rw[ak];exact dX) ?_);(try simp only[Act.put]);generalize b_ _ j.heap.size e=Q at *
 generalize j.heap.size=bp at *
 have z:=o.put 8 e (by rw[g.out,v.out];omega);have p:=Zd z.1;have M:=Zd<|y.bH z.2 gO;have K:=Zd<|dO e;have w:=Zs ((aQ e).length=8) (by rw[aN];exact g);go_upto_region 3 with(first|refine lA s (by rw[g.out];exact dX) ?_|refine sV 8 (aQ e) o.1 (by rw[w.out,t.out];omega) (by rw[w.out];exact dX) K ?_);(try simp only[Act.put]);generalize dz Q d.heap.size 8 (aQ e)=W3 at *
 have m:=Zs ((jd a 8 e).length=101) (by rw[dV];exact v);generalize jd a 8 e=k at *
 have F:=Zd<|bU.all c m;have i:=Zd<|aJ m c;have P:=Zd<|bO k c;have n:=Zd<|p.fin k c m;have O:=Zd<|M.bH n.2.2 gO;have H:=Zd<|u _ _ (O.base (b':=d.heap.size) gO) n.2.1;go_wp2_with (first|refine lV 0 p.1 aK (by rw[i.out];omega) F ?_|refine sV 0 (aP k c) p.2.2.1 (by rw[R.out,i.out];omega) (by rw[i.out];exact aK) P ?_);have Z:=qG n.1 (by rw[i.out];exact aK);refine QB (v:=.tuple #[.agg (aP k c).toArray,_]) ?_ rfl H;simp[results,results158,asAddr,Act.put,Z]
def D6 (b:L)(a:Bool)(f:Int)(d:b.length=101)(c:W):Calls prog 142 #[bL b a,I f] c (jB c (bL (if f=1 then iY else b) (if f=1 then false else a))):=by
 have k:=Zd<|kT.new c b a;have s:=Zd λe=>yj e;have r:=Zd j5;have y:=Zd d;have j:=Zd<|aJ d a;have x:=Zd<|bU.all a d;have v:=Zd<|aJ (ak 101) false;have w:=dM;by_cases e:f=1
 .have C:(f==1)=true:=beq_iff_eq.2 e;rw[Q9 e,Q9 e];have g:=Zs (∀d,c.grownBy d none->jB c (bL iY false) (.returned (bL iY false)) d) (λd q=>⟨rfl,q⟩);generalize jB c (bL iY false)=z at *
  generalize iY=l at *
  unfold jB bL at s;unfold bL at g w ⊢;go_enter func142,ntmps142;go_upto_region 1 with fail;generalize (c.alloc (.cells (aP b a).toArray 53)).alloc (.cells (aP (au 101) false).toArray 53)=u at *
  go_wp2_with fail;refine(s u).mono ?_;rintro E D ⟨rfl,B⟩;have t:=Zd<|k.aC B;have i:=Zd<|t.fin l false r;have n:=Zd<|g _ i.2;have m:=Zd<|aJ r false;have o:=Zd<|bO l false;go_wp2_with (first|refine sV 0 (aP l false) t.2.1 (by rw[v.out,m.out];omega) (by rw[m.out];exact aK) o ?_);have p:=qG i.1 (by rw[m.out];exact aK);refine QB (v:=.agg (aP l false).toArray) ?_ rfl n;simp[results,results142,asAddr,Act.put,p]
 have C:(f==1)=false:=beq_eq_false_iff_ne.2 e;rw[X9 e,X9 e];have g:=Zs (∀d,c.grownBy d none->jB c (bL b a) (.returned (bL b a)) d) (λd q=>⟨rfl,q⟩);generalize jB c (bL b a)=z at *
 unfold bL at g w ⊢;go_enter func142,ntmps142;go_upto_region 1 with fail;generalize (c.alloc (.cells (aP b a).toArray 53)).alloc (.cells (aP (au 101) false).toArray 53)=u at *
 have i:=Zd<|k.fin b a y;have n:=Zd<|g _ i.2;have o:=Zd<|bO b a;go_wp2_with (first|refine lV 0 k.1 aK (by rw[j.out];omega) x ?_|refine sV 0 (aP b a) k.2.1 (by rw[v.out,j.out];omega) (by rw[j.out];exact aK) o ?_);have p:=qG i.1 (by rw[j.out];exact aK);refine QB (v:=.agg (aP b a).toArray) ?_ rfl n;simp[results,results142,asAddr,Act.put,p]
def abT (e:List Int)(b c:Int)(U:Value)(d:List Int)(g:World)(y:e.length=80)(P:aY g U d)(n:VH b c d):Calls prog 193 #[.agg (aF e),I b,I c,U] g (gP g (Df e b c d) (B_ b c d)):=by
 have q:=Zd λwr (c:g.grownBy wr none)=>aR P c;obtain⟨ad,ag,rfl,hc,_⟩:=P;have z:=n.1;rw[z]at hc q ⊢;have⟨_,⟨l0,l9⟩,g0,M⟩:=id n;have w:=Zd λf=>vG e y b f;have R:(lW e b).length=40:=by
  obtain⟨L,rfl⟩:∃L:Nat,b=(L:Int):=⟨b.toNat,gO⟩;rw[(uh e L gO gO).1];exact mR _ _
 have Q:Fj b=0:=Q9 ⟨l0,l9⟩;rw[Q]at w;have D:=Zs (∀a k,fO g.heap.size k a (Wt (lW e b) c d)->g.grownBy k none->gP g (Df e b c d) (B_ b c d) (.returned (.tuple #[a,I 0])) k) (λa k i T=>⟨a,by rw[(kL (h:=e) n).2],by rw[(kL (h:=e) n).1];exact i,T⟩);have x:=Zd λf=>gL c 0 32767 f;rw[KN (show 0<=c/\c<=32767 from⟨g0,M⟩)]at x;have C:=Zd<|bY.new g 51 e;have E:=Zd<|aj g (.cells (aF e) 51) none;have X:=Zd z;have s:=Zd R;have G:=Zs ((prog.info? 51).map (·.size)=some e.length) (by rw[y];exact dU);have O:=gU 40 gO;rw[show((40:Nat):Int)=40 from rfl]at O;clear z n y Q R;generalize gP g (Df e b c d) (B_ b c d)=ac at *
 generalize lW e b=V at *
 go_enter func193,ntmps193;go_upto_region 1 with fail;generalize g.alloc (.cells (aF e) 51)=W0 at *
 go_wp2_with fail;refine(x _).mono ?_;rintro m u ⟨rfl,rfl⟩;clear x;go_wp2_with (refine lA C G ?_);refine(w _).mono ?_;rintro m f ⟨v2,rfl,B,K⟩;obtain⟨gv,ah,rfl,_,_,_⟩:=B.form (by rw[s.out];omega);have v:=Zd<|ay E K;have r:=Zd B;clear B K w C E G;rw[s.out]at r ⊢;have F:=Zs (bY (f.alloc (.cells (aF (au 40)) 3)) f.heap.size 3 (au 40)/\f.grownBy (f.alloc (.cells (aF (au 40)) 3)) none) (⟨bY.new f 3 (au 40),aj _ _ none⟩);go_upto_region 9 with fail;clear O;generalize f.alloc (.cells (aF (au 40)) 3)=H at *
 go_wp2_with fail;go_loopw [33] (λb wr=>∃(a:Nat) (j:List Int),b=I (a:Int)/\a<=40/\Hid (jF 40 (tJ V c d) a j)/\Hid (bY wr f.heap.size 3 j/\f.grownBy wr none)) (λb _=>40-(intOf b).toNat)
 case atStart=>exact⟨0,au 40,rfl,QN _,iP 40 _,F⟩
 case round=>
  obtain⟨a,j,rfl,hm,l,i⟩:=hrel;clear F;by_cases t:a<40
  .have i1:(a:Int)<40:=gO;have cv:=(r.aC i.2).cell s.symm a (by rw[s.out];exact t);obtain⟨ae,rfl,cb⟩:=kX (q _ (ay v i.2)) a (by rw[X.out];exact t);have cd:=i.1.cell a (by rw[l.out.1];exact t);have fd:=i.1.free a;have Z:=Zd<|eD l t;have NM:=Zs (bY (wr.drew.setCell (A f.heap.size a) (I (tJ V c d a))) f.heap.size 3 (j.set a (tJ V c d a))/\f.grownBy (wr.drew.setCell (A f.heap.size a) (I (tJ V c d a))) none) (⟨(i.1.aC (bB (aM wr none))).set a _,aG (ay i.2 (bB (aM wr none))) (aD _ (A f.heap.size a) _) (Q6 _)⟩);have Y:=Zs (fA ((fA (aB V a)*c+8192) / 16384+fA (aB d a))=tJ V c d a) (rfl);have J:=mq (aB V a);have af:=mq (aB d a);have bg:-1073709056<=fA (aB V a)*c/\fA (aB V a)*c<=1073741824:=uf _ _ J.1 J.2 gO M;clear q l i r;generalize tJ V c d a=ab at *
   generalize aB V a=o at *
   generalize aB d a=p at *
   generalize aB j a=T at *
   have H:=eG ((fA o*c+8192) / 16384+fA p) gO gO;go_upto_region 12 with fail;refine bW 14 (λk=>k=wr.drew) 15 (by rfl) _ rfl (by kernel_rfl) λb=>?_;refine eT 0 rfl b λb=>?_;refine eT 1 rfl b λb=>?_;refine eT 2 rfl b λb=>?_;refine eT 4 rfl b λb=>?_;refine eT 6 rfl b λb=>?_;refine eT 7 rfl b λb=>?_;refine eT 8 rfl b λb=>?_;refine eT (v:=I p) 9 rfl b λb=>?_;refine jY 3 b λn f=>?_;(try simp only[sZ]);go_simp;refine(qE o _).mono ?_;rintro m u ⟨rfl,rfl⟩;go_wp2_with fail;refine f.out _ _ (λ_=>rfl) λb=>?_;clear f;(try simp only[sZ]);refine jY 5 b λn f=>?_;(try simp only[sZ]);go_simp;refine(Oq (fA o) c gO gO _).mono ?_;rintro m u ⟨rfl,rfl⟩;go_wp2_with fail;refine f.out _ _ (λ_=>rfl) λb=>?_;clear f;(try simp only[sZ]);refine jY 10 b λn f=>?_;(try simp only[sZ]);go_simp;refine(qE p _).mono ?_;rintro m u ⟨rfl,rfl⟩;go_wp2_with fail;refine f.out _ _ (λ_=>rfl) λb=>?_;clear f;(try simp only[sZ]);refine iN (hy:=by intro k aa;subst aa;go_simp;(try simp only[H])) (v:=I ((fA o*c+8192) / 16384+fA p)) 11 rfl b λb=>?_;refine jY 12 b λn f=>?_;(try simp only[sZ]);go_simp;refine(qE ((fA o*c+8192) / 16384+fA p) _).mono ?_;rintro m u ⟨rfl,rfl⟩;rw[Y.out];go_wp2_with fail;refine f.out _ _ (λ_=>rfl) λb=>?_;clear f;(try simp only[sZ]);refine eT 13 rfl b λb=>?_;refine jY 14 b λn f=>?_;(try simp only[sZ]);go_simp;go_wp2_with fail;refine f.out _ _ (λe=>by cases e) λb=>?_;clear f;(try simp only[sZ]);refine bI _ _ _ _ (by rfl) ?_;refine wm ?_;go_wp2_with fail;go_roundw
   case rel=>exact⟨a+1,_,by go_num,gO,Z,NM⟩
   case measure=>first|(simp[intOf];done)|(simp[intOf];omega)
  obtain rfl:a=40:=gO;have p:=Zs (j=Wt V c d) (fB l);have Y:j.length=40:=l.1;have o:=LH (base:=g.heap.size) i.1 v.size gO;rw[Y]at o;have J:=Zd<|D _ _ (by rw[<-p.out];exact o) (ay v i.2);clear l i D q o r;rw[show((40:Nat):Int)=40 from rfl];go_wp2_with fail;exact J
def abU {s:Nat->Option Bool}{l:Act->W->Prop}{t:Prop}(y:o.guard=none)(b q:Operand)
 (z:o.op=Op.call { callee:=Callee.builtin Builtin.copy,args:=#[b,q],argTypes:=#[26,26] }) (f d i c m r:Nat) (g:TypeId) (e L:List Int) (h:Addr) (n:bY w f g e)
 (v:a.eval b=.slice (some (A f d)) i m) (B:a.eval q=.slice (some h) c r) (j:L.length=c) (x:c<=i) (C:∀b,b<c->w.cell? (h.add b)=some (I (aB L b))) (F:d+c<=e.length)
 (u:∀k,bY k f g (uL e d L)->w.grownBy k (some f)->l (a.put o.dst (goInt c)) k):if Region.wanted o s=true then Oper.wp prog o a w l Q else t:=by
 have E:Region.wanted o s=true:=by simp[Region.wanted,y]
 rw[Q9 E];have D:(prog.info? 3).map (·.size)=some 1:=by kernel_rfl
 have p:=run_copy_row (P:=prog) w 26 26 o.type 3 f d i m h c r (aF e) g (L.map (Value.int .i64)) underlying26 D n (by rw[GK,j];exact(Nat.min_eq_left x).symm)
  (λb f c=>by
   have k:b<L.length:=by
    by_cases k:b<L.length
    .exact k
    rw[U8 (by simp;omega)]at c;cases c
   rw[C b gO];simpa [aB,List.getD,k] using c)
  (by simp[aF,j];omega) (λf c=>by
   obtain⟨k,_,rfl⟩:=List.mem_map.1 c;rfl)
 have k:((aF e).toList.take d++L.map (Value.int .i64)++(aF e).toList.drop (d+(L.map (Value.int .i64)).length)).toArray=aF (uL e d L):=by
  simp[aF,uL,List.map_take,List.map_drop]
 rw[k,GK,j]at p;unfold Oper.wp;simp[execOp,z,resolve,invoke,builtin,v,B,p,Result.andThen];exact u _ (setRow_heap _ _ _ _ _ _ n) (Bn _ _ _)
def jc.ah1 {a:TypeId}{b':L}(b:jc w w' T a l p)(c:b'.length=p.length):bY (b_ w' (w.heap.size+1) b') (w.heap.size+1) a b'/\w.grownBy (b_ w' (w.heap.size+1) b') none:=by have:=bF (rs':=b') b.2.1 c;exact⟨this.1,aG b.2.2 this.2 gO⟩
def jc.set1 {d:TypeId}(c:jc w w' T d l p)(a:Nat)(b:Int):jc w (w'.setCell (A w.heap.size a) (I b)) T d (l.set a b) p:=
 ⟨c.1.set a b,c.2.1.aH (aD w' (A w.heap.size a) (I b)) (by simp),aG c.2.2 (aD w' (A w.heap.size a) (I b)) (Q6 _)⟩
def UA (a b:L)(c:a.length=80):jF 80 (Qh a b) (40+0) (uL a 0 (bM a 40 40)):=by refine⟨by rw[Yr _ _ _ (by rw[aT];omega)];exact c,λa b=>?_⟩;rw[Yt _ _ _ (by rw[aT];omega),nO,aT,pO,fV _ _ _ _ gO];unfold Qh;rw[pO,show 40+(a-0)=a+40 by omega]
def Yx (a:L)(y:V)(c:L)(d:W)(w:a.length=80)(x:aY d y c)(i:c.length=40):Calls prog 194 #[.agg (aF a),y] d (Dj d (Jk a c) (VI c)):=by
 have s:=Zd λwr (n:d.grownBy wr none)=>aR x n;obtain⟨T,X,rfl,O,_⟩:=x;rw[i]at s O ⊢;have g:=Zs (jc d _ 51 51 a (au 80)) (nI d 51 51 a (au 80));have m:=Zd<|ak 80;have q:=Zd w;have G:=Zd i;have F_:=Zd<|UA a c w;have hz:=fT z80;have D:=Zs (∀b,d.grownBy b none->Dj d (Jk a c) (VI c) (.returned (.tuple #[.agg (aF (yM a c)),I 0])) b) (λb n=>⟨by rw[(ji (h:=a) i).1,(ji (h:=a) i).2],n⟩);generalize Dj d (Jk a c) (VI c)=Q at *
 generalize au 80=l at *
 go_enter func194,ntmps194;go_upto_region 3 with fail;generalize (d.alloc (.cells (aF a) 51)).alloc (.cells (aF l) 51)=k at *
 refine wp_region_held_drew (S:=dB d) (by kernel_rfl) (bB g.2.2) λb=>?_;refine aV (v:=.slice (some ⟨d.heap.size,0,none⟩) 80 80) 0 b ?_;refine aV (v:=.slice (some ⟨d.heap.size,40,none⟩) 40 40) 1 b ?_;refine eU 2 λe e=>?_;simp only[sZ];refine abU rfl _ _ rfl d.heap.size 0 80 40 80 40 51 a (bM a 40 40) ⟨d.heap.size,40,none⟩ (g.1.aC (aS k)) rfl rfl (aT _ _ _) gO (λi f=>by rw[Addr.add_mid,fV _ _ _ _ f];exact(g.1.aC (aS k)).cell (40+i) (by rw[q.out];omega)) (by rw[q.out];omega) ?_;intro z K v;have B:=Zd K;have C:=Zd<|(g.2.1.aC (aS k)).aH v gO;have p:=Zd<|aG b v (Q6 _);refine e.out _ _ p λb=>?_;simp only[sZ];refine aV 3 b ?_;refine jX ?_;have H:=Zs (jc d z 51 51 (uL a 0 (bM a 40 40)) l) (⟨B,C,p⟩);generalize uL a 0 (bM a 40 40)=F at *
 rw[show goInt ((40:Nat):Int)=I 40 from rfl];go_wp2_with fail;go_loopw [18] (λe wr=>∃(b:Nat) (f:L),e=I (b:Int)/\b<=40/\Hid (jF 80 (Qh a c) (40+b) f)/\Hid (jc d wr 51 51 f l)) (λe _=>40-(intOf e).toNat)
 case atStart=>exact⟨0,F,rfl,QN _,F_,H⟩
 case round=>
  obtain⟨b,f,rfl,hm,o,e⟩:=hrel;by_cases U:b<40
  .have i1:(b:Int)<40:=gO;have rl:=o.1;obtain⟨R,rfl,Z⟩:=kX (s wr e.2.2) b (by rw[G.out];omega);have Y:=e.1.cell (40+b) gO;have fd:=e.1.free (40+b);have r:=Zd<|eD o (show 40+b<80 by omega);have t:Qh a c (40+b)=fA (aB c b):=by unfold Qh;rw[nO,show 40+b-40=b by omega]
   rw[t]at r;have E:=Zd<|e.set1 (40+b) (fA (aB c b));have J:=Zd<|qE (aB c b) wr;generalize M:40+b=j at *
   have i3:(40:Int)+(b:Int)=(j:Int):=gO;have i4:(j:Int)<80:=gO;have u:=Zd M;generalize aB c b=P at *
   generalize fA P=ac at *
   generalize aB f j=ab at *
   go_wp2_with fail;refine J.mono ?_;rintro aa z ⟨rfl,rfl⟩;go_wp2;go_roundw
   case rel=>exact⟨b+1,_,by go_num,gO,by rw[show 40+(b+1)=j+1 by have:=u.out;omega];exact r,E⟩
   case measure=>first|(simp[intOf];done)|(simp[intOf];omega)
  obtain rfl:b=40:=gO;rw[show((40:Nat):Int)=40 from rfl];have M:f=yM a c:=fB o;subst M;have t:=e.ah1 (b':=yM a c) (by rw[lG,m.out]);have J:=Zd t.1;have E:=Zd<|D _ t.2;have j:=Zd<|lG a c;have r:=Zd e;generalize yM a c=u at *
  go_wp2_with (first|refine lA r.1 (by rw[j.out];exact dU) ?_|refine sA u r.2.1 (by rw[j.out,m.out]) (by rw[m.out];exact dU) ?_);have P:=kU J (by rw[j.out];exact dU);refine QB (v:=.tuple #[.agg (aF u),I 0]) ?_ rfl E;simp[results,results194,asAddr,Act.put,P]
def kT.amY (b:kT w l s w')(a:w'.grownBy u (some n))(c:w.heap.size+1<n):kT w l s u:=⟨b.1.aH a gO,b.2.1.aH a gO,aG b.2.2 a gO⟩
def kT.Xq (c:kT w l s w')(a:L)(b:Bool)(d:l.length=101)(e:a.length=101):kT w a b (dz w' w.heap.size 0 (aP a b))/\w'.grownBy (dz w' w.heap.size 0 (aP a b)) (some w.heap.size):=by have:=c.1.dQ (m:=a) (t:=b) d e;exact⟨⟨this.1,c.2.1.aH this.2 gO,aG c.2.2 this.2 (Q6 _)⟩,this.2⟩
def NsS (a:W)(c:L)(e:Bool)(d:L)(b:W):Prop:=kT a c e b/\bY b (a.heap.size+2) 3 d
def NsS.new (c:W)(a:L)(b:Bool):NsS c a b (au 40) (((c.alloc (.cells (aP a b).toArray 53)).alloc (.cells (aP (au 101) false).toArray 53)).alloc (.cells (aF (au 40)) 3)):=by refine⟨(kT.new c a b).aC (aj _ _ none),?_⟩;have:=bY.new ((c.alloc (.cells (aP a b).toArray 53)).alloc (.cells (aP (au 101) false).toArray 53)) 3 (au 40);simpa using this
def NsS.anA (c:NsS w l s p w')(a:Nat)(b:Int)(d:a<l.length):NsS w (l.set a b) s p (w'.setCell (A w.heap.size a) (I b)):=⟨c.1.set a b d,c.2.aH (aD w' (A w.heap.size a) (I b)) (by simp)⟩
def NsS.anB (c:NsS w l s p w')(a:Nat)(b:Int):NsS w l s (p.set a b) (w'.setCell (A (w.heap.size+2) a) (I b)):=⟨c.1.amY (aD w' (A (w.heap.size+2) a) (I b)) (by simp),c.2.set a b⟩
def NsE (b:W)(e:List Int)(f:Bool)(L:List Int)(d:Ending)(c:W):Prop:=∃a,d=.returned (.tuple #[bL e f,a])/\fO b.heap.size c a L/\b.grownBy c none
def tC (b:L)(d:Bool)(e:Int)(D:b.length=101)(f:W):Calls prog 204 #[bL b d,I e] f (NsE f (b.set 100 (rC (aB b 100) 40)) d (yH (aB b 100) e 40)):=by
 have w:=Zd<|NsS.new f b d;have x:=Zd λc wr=>UC c e wr;have p:=Zs (∀a g,fO f.heap.size g a (yH (aB b 100) e 40)->f.grownBy g none->NsE f (b.set 100 (rC (aB b 100) 40)) d (yH (aB b 100) e 40) (.returned (.tuple #[bL (b.set 100 (rC (aB b 100) 40)) d,a])) g) (λa g g s=>⟨a,rfl,g,s⟩);have l:=Zd D;have C:=Zd<|aJ (ak 101) false;have H:=dM;have G:=gU 40 gO;rw[show((40:Nat):Int)=40 from rfl]at G;have B:=Zs (b.set 100 (rC (aB b 100) 0)=b) (set_self b 100 gO);generalize NsE f (b.set 100 (rC (aB b 100) 40)) d (yH (aB b 100) e 40)=J at *
 generalize aB b 100=c at *
 unfold bL at H p ⊢;go_enter func204,ntmps204;go_upto_region 2 with fail;generalize ((f.alloc (.cells (aP b d).toArray 53)).alloc (.cells (aP (au 101) false).toArray 53)).alloc (.cells (aF (au 40)) 3)=K at *
 go_wp2_with fail;go_loopw [11] (λg wr=>∃(a:Nat) (i:L),g=I (a:Int)/\a<=40/\Hid (jF 40 (nzN c e) a i)/\Hid (NsS f (b.set 100 (rC c a)) d i wr)) (λg _=>40-(intOf g).toNat)
 case atStart=>exact⟨0,au 40,rfl,QN _,iP 40 _,by rw[B.out];exact w⟩
 case round=>
  obtain⟨a,i,rfl,Q,j,g⟩:=hrel;by_cases o:a<40
  .have R:(a:Int)<40:=gO;have v:=g.1.1.cell 100 (by rw[XB,l.out];omega);rw[iM _ _ _ (by rw[l.out];omega),Q9 rfl]at v;have M:=g.1.1.free 100;have z:=g.2.cell a (by rw[j.out.1];exact o);have O:=g.2.free a;have t:=Zd<|eD j o;have k:=Zd<|g.anA 100 (rC c (a+1)) (by rw[XB,l.out];omega);rw[List.set_set]at k;have u:=Zd<|k.anB a (nzN c e a);have E:=k.2.cell a (by rw[j.out.1];exact o);have P:=k.2.free a;have n:zk (rC c a)=rC c (a+1):=rfl;have q:IG (rC c a) e=nzN c e a:=rfl;have m:=Zd<|x (rC c a);rw[n,q]at m;generalize y:rC c (a+1)=U at *
   have r:=Zd y;generalize rC c a=T at *
   generalize nzN c e a=Y at *
   generalize aB i a=s at *
   go_wp2_with fail;refine(m _).mono ?_;rintro F X ⟨rfl,rfl⟩;go_wp2;go_roundw
   case rel=>exact⟨a+1,_,by go_num,gO,t,by rw[r.out];exact u⟩
   case measure=>first|(simp[intOf];done)|(simp[intOf];omega)
  obtain rfl:a=40:=gO;rw[show((40:Nat):Int)=40 from rfl];have u:=Zs (i=yH c e 40) (fB j);have E:i.length=40:=j.1;have m:=Zs ((b.set 100 (rC c 40)).length=101) (by rw[XB];exact l);have n:=Zd g.1;have q:=LH (base:=f.heap.size+2) g.2 (Q6 _) gO;rw[E]at q;generalize b.set 100 (rC c 40)=a at *
  have t:=Zd<|bU.all d m;have k:=Zd<|aJ m d;have z:=Zd<|bO a d;have r:=Zd<|n.fin a d m;have y:=Zd<|q.bH (n.2.1.dQ (m:=a) (t:=d) (ak 101) m).2 gO;have v:=Zd<|p _ _ (by rw[<-u.out];exact y.base gO) r.2;go_wp2_with (first|refine lV 0 n.1 aK (by rw[k.out];omega) t ?_|refine sV 0 (aP a d) n.2.1 (by rw[C.out,k.out];omega) (by rw[k.out];exact aK) z ?_);have F:=qG r.1 (by rw[k.out];exact aK);refine QB (v:=.tuple #[.agg (aP a d).toArray,_]) ?_ rfl v;simp[results,results204,asAddr,Act.put,F]
def Ow (a:L)(b:Bool)(i:a.length=101)(g:bJ a=true)(c:W):Calls prog 190 #[bL a b] c (fu c (Cy a) (siS a b) (Cz a) (siE a)):=by
 have C:=Zd<|kT.new c a b;have r:=Zd λd=>gM a b i d;rw[g]at r;have u:=Zd λd=>tC a b 8 i d;have B:=Zd λe d (hv:aY d e (yH (aB a 100) 8 40))=>Yx (bM a 16 80) e (yH (aB a 100) 8 40) d (aT _ _ _) hv (qb _ _ _);rw[(ji (h:=bM a 16 80) (qb (aB a 100) 8 40)).1,(ji (h:=bM a 16 80) (qb (aB a 100) 8 40)).2]at B;have s:=Zd<|lG (bM a 16 80) (yH (aB a 100) 8 40);have x:=Zd (show ∀d e,fO c.heap.size e d (yH (aB a 100) 8 40)->c.grownBy e none->fu c (Cy a) (siS a b) (Cz a) (siE a) (.returned (.tuple #[bL (jd (a.set 100 (rC (aB a 100) 40)) 16 (yM (bM a 16 80) (yH (aB a 100) 8 40))) b,d,I 0])) e from λd e e f=>
  ⟨d,by rw[(oG (s:=b) g).1,(oG (s:=b) g).2.1,(oG (s:=b) g).2.2.2];unfold memT siX;rw[set_self a 99 gO],by rw[(oG (s:=b) g).2.2.1];exact e,f⟩)
 have PS:=Zd λd=>iZ a 100 d 16 80 gO (.inr gO);have y:=Zd i;have q:=Zd<|aJ i b;have w:=Zd<|bU.all b i;have ZL:=Zd<|aJ (ak 101) false;have hz:=dM;generalize fu c (Cy a) (siS a b) (Cz a) (siE a)=ac at *
 unfold NsE at u;unfold bL at hz x r u ⊢;generalize yH (aB a 100) 8 40=N at *
 generalize rC (aB a 100) 40=e at *
 go_enter func190,ntmps190;go_upto_region 1 with fail;generalize (c.alloc (.cells (aP a b).toArray 53)).alloc (.cells (aP (au 101) false).toArray 53)=W0 at *
 go_wp2_with (refine lV 0 C.1 aK (by rw[q.out];omega) w ?_);refine(r W0).mono ?_;rintro K v ⟨rfl,g1⟩;have n:=Zd<|C.aC g1;have P:=Zs (c.heap.size<=v.heap.size) (n.2.2.size);have p:=Zs (c.heap.size+1<v.heap.size) (n.2.1.lt);have f:=Zs ((a.set 100 e).length=101) (by rw[XB];exact y);have k:=Zd<|aJ f b;have aa:=Zd<|bO (a.set 100 e) b;go_upto_region 3 with fail;go_wp2_with (first|refine lV 0 n.1 aK (by rw[q.out];omega) w ?_);refine(u v).mono ?_;rintro K W2 ⟨v2,rfl,o2,g2⟩;have D:=Zd<|n.aC g2;have F:=D.Xq (a.set 100 e) b y f;have E:=Zd F.1;have G:=Zd<|o2.bH F.2 (by have:=p.out;omega);go_upto_region 4 with(first|refine sV 0 (aP (a.set 100 e) b) D.1 (by rw[q.out,k.out];omega) (by rw[k.out];exact aK) aa ?_);(try simp only[Act.put]);generalize dz W2 c.heap.size 0 (aP (a.set 100 e) b)=W3 at *
 have H:=Zd<|bU.part (l:=a.set 100 e) b 16 80 (by rw[f.out];omega);rw[PS.out]at H;have T:=Zd<|B v2 W3 G.ints;go_wp2_with (first|refine lV 16 E.1 dU (by rw[k.out];omega) H ?_);refine T.mono ?_;rintro K W4 ⟨rfl,M⟩;have t:=Zd<|E.aC M;have U:=Zd<|G.aC M;generalize yM (bM a 16 80) N=d at *
 have o:=Zd<|t.put 16 d (by rw[s.out,f.out];omega);have X:=Zd<|U.bH (t.1.put 16 d (by rw[s.out,f.out];omega)).2 (by have:=p.out;omega);have R:=Zd<|dO d;have z:=Zs ((aQ d).length=80) (by rw[aN];exact s);go_upto_region 5 with(first|refine sV 16 (aQ d) t.1 (by rw[z.out,k.out];omega) (by rw[z.out];exact dU) R ?_);(try simp only[Act.put]);generalize dz W4 c.heap.size 16 (aQ d)=W5 at *
 have m:=Zs ((jd (a.set 100 e) 16 d).length=101) (by rw[dV];exact f);generalize jd (a.set 100 e) 16 d=j at *
 have O:=Zd<|bU.all b m;have l:=Zd<|aJ m b;have Z:=Zd<|bO j b;have J:=Zd<|o.fin j b m;have Y:=Zd<|X.bH (o.2.1.dQ (m:=j) (t:=b) (ak 101) m).2 p;have Q:=Zd<|x _ _ (Y.base P) J.2;go_wp2_with (first|refine lV 0 o.1 aK (by rw[l.out];omega) O ?_|refine sV 0 (aP j b) o.2.1 (by rw[ZL.out,l.out];omega) (by rw[l.out];exact aK) Z ?_);have ab:=qG J.1 (by rw[l.out];exact aK);refine QB (v:=.tuple #[.agg (aP j b).toArray,_,I 0]) ?_ rfl Q;simp[results,results190,asAddr,Act.put,ab]
def lD (b:uM w)(a:w.grownBy w' none):uM w':=λd c=>aU a (b d c)
def uN:(prog.info? 76).map (·.size)=some 8:=by kernel_rfl
def abZ:(prog.info? 74).map (·.size)=some 4:=by kernel_rfl
def L9 (a:W)(A e c:L)(d:Bool)(b:W):Prop:=bU b a.heap.size c d/\aW b (a.heap.size+1) 69 (aQ A)/\aW b (a.heap.size+1+1) 76 (aQ e)/\bU b (a.heap.size+1+1+1) (au 101) false/\a.grownBy b none
def L9.new (c:W)(A d a:L)(b:Bool):L9 c A d a b ((((c.alloc (.cells (aP a b).toArray 53)).alloc (.cells (aF A) 69)).alloc (.cells (aF d) 76)).alloc (.cells (aP (au 101) false).toArray 53)):=by
 have g:=aj (c.alloc (.cells (aP a b).toArray 53)) (.cells (aF A) 69) none;have f:=aj ((c.alloc (.cells (aP a b).toArray 53)).alloc (.cells (aF A) 69)) (.cells (aF d) 76) none;have e:=aj (((c.alloc (.cells (aP a b).toArray 53)).alloc (.cells (aF A) 69)).alloc (.cells (aF d) 76)) (.cells (aP (au 101) false).toArray 53) none;refine⟨(((bU.new c a b).aC g).aC f).aC e,?_,?_,?_,ay (ay (ay (aj _ _ none) g) f) e⟩
 .have:=((aW.new (c.alloc (.cells (aP a b).toArray 53)) 69 (aQ A)).aC f).aC e;simpa using this
 .have:=(aW.new ((c.alloc (.cells (aP a b).toArray 53)).alloc (.cells (aF A) 69)) 76 (aQ d)).aC e;simpa using this
 have:=bU.new (((c.alloc (.cells (aP a b).toArray 53)).alloc (.cells (aF A) 69)).alloc (.cells (aF d) 76)) (au 101) false;simpa using this
def L9.aC {A:L}(b:L9 w A l p s w')(a:w'.grownBy u none):L9 w A l p s u:=⟨b.1.aC a,b.2.1.aC a,b.2.2.1.aC a,b.2.2.2.1.aC a,ay b.2.2.2.2 a⟩
def L9.mem {A:L}{c:Bool}(b:L9 w A l p s w')(d:bU u w.heap.size r c)(a:w'.grownBy u (some w.heap.size)):L9 w A l r c u:=⟨d,b.2.1.aH a gO,b.2.2.1.aH a gO,b.2.2.2.1.aH a gO,aG b.2.2.2.2 a (Q6 _)⟩
def L9.put {A:L}(c:L9 w A l p s w')(b:Nat)(a:L)(d:b+a.length<=p.length):L9 w A l (jd p b a) s (dz w' w.heap.size b (aQ a))/\w'.grownBy (dz w' w.heap.size b (aQ a)) (some w.heap.size):=by have:=c.1.put b a d;exact⟨c.mem this.1 this.2,this.2⟩
def L9.set {A:L}(c:L9 w A l p s w')(a:Nat)(b:Int)(d:a<p.length):L9 w A l (p.set a b) s (w'.setCell ⟨w.heap.size,a,none⟩ (I b)):=c.mem (c.1.set a b d) (aD w' ⟨w.heap.size,a,none⟩ _)
def L9.fin {A:L}(c:L9 w A l p s w')(a:L)(b:Bool)(d:a.length=101):bU (dz w' (w.heap.size+1+1+1) 0 (aP a b)) (w.heap.size+1+1+1) a b/\w.grownBy (dz w' (w.heap.size+1+1+1) 0 (aP a b)) none/\w'.grownBy (dz w' (w.heap.size+1+1+1) 0 (aP a b)) (some (w.heap.size+1+1+1)):=by have:=c.2.2.2.1.dQ (m:=a) (t:=b) (ak 101) d;exact⟨this.1,aG c.2.2.2.2 this.2 gO,this.2⟩
def L9.sub {A:L}(b:L9 w A l p s w')(a:Nat)(c:a<l.length):w'.cell? ⟨w.heap.size+1+1,a,none⟩=some (I (aB l a)):=(b.2.2.1.cell a).trans (tX l a c)
def L_ (a:W)(b:L)(c:Bool)(f:b.length=101):bU (a.alloc (.cells (aP (au 101) false).toArray 53)) a.heap.size (au 101) false/\bU (dz (a.alloc (.cells (aP (au 101) false).toArray 53)) a.heap.size 0 (aP b c)) a.heap.size b c/\a.grownBy (dz (a.alloc (.cells (aP (au 101) false).toArray 53)) a.heap.size 0 (aP b c)) none:=by have d:=bU.new a (au 101) false;have e:=d.dQ (m:=b) (t:=c) (ak 101) f;exact⟨d,e.1,aG (aj _ _ none) e.2 (Q6 _)⟩
def YD (A a d:L)(b:Bool)(v:Int)(u:A.length=9)(k:a.length=101)(j:bJ a=true)(Z:v=2)(c:W):Calls prog 146 #[bL a b,.agg (aF A),I v,.agg (aF d)] c (Gc c (Ti A true a d) b (Pt A true a d)):=by
 have p:=Zd<|L9.new c A d a b;have g:=Zd λf=>Ow a b k j f;rw[(oG (s:=b) j).2.1,(oG (s:=b) j).2.2.2]at g;have e:=Zs ((Cy a).length=101) (by have:=Ai true k d;rwa [adu]at this);have T:=Zs ((Cz a).length=40) (by rw[(oG (s:=true) j).2.2.1,ac7]);have t:=Zd λi f (Y:aY f i (Cz a)) (sh:rD i (Cz a))=>rF A (Cy a) (Cz a) b u e i f Y sh (by rw[T.out];omega);have w:=Zs (∀f i,fO c.heap.size i f (qU A (Cy a) (Cz a))->c.grownBy i none->Gc c (Ti A true a d) b (Pt A true a d) (.returned (.tuple #[bL (qR A (Cy a) (Cz a)) b,f])) i) (λf i i j=>⟨f,by unfold Ti;rw[adu,ag7],by unfold Pt;rw[adu,ag7];exact i,j⟩);have y:=Zs ((qR A (Cy a) (Cz a)).length=101) (by rw[wP];exact e);have O:=Zd u;have K:=Zd<|aJ k b;have J:=Zd<|bU.all b k;have H:=Zs (((aQ A).drop 0).take 9=aQ A) (by rw[List.drop_zero,K3 (by rw[aN,u];omega)]);have E:=Zd<|aJ (ak 101) false;have hz:=dM;have ad:(v==2)=true:=beq_iff_eq.2 Z;generalize Gc c (Ti A true a d) b (Pt A true a d)=ab at *
 generalize qR A (Cy a) (Cz a)=m at *
 generalize qU A (Cy a) (Cz a)=L2 at *
 generalize Cy a=l at *
 generalize Cz a=ac at *
 unfold Gc at t;unfold fu at g;unfold bL at w hz g t ⊢;go_enter func146,ntmps146;go_upto_region 1 with fail;generalize (((c.alloc (.cells (aP a b).toArray 53)).alloc (.cells (aF A) 69)).alloc (.cells (aF d) 76)).alloc (.cells (aP (au 101) false).toArray 53)=C at *
 have z:=Zs (c.heap.size+1+1+1+1<=C.heap.size) (p.2.2.2.1.lt);go_wp2_with (first|refine lV 0 p.1 aK (by rw[K.out];omega) J ?_);refine(g C).mono ?_;rintro U i ⟨v1,rfl,o1,F⟩;have f:=Zd<|L_ i l b e;have q:=Zd<|(p.aC F).aC f.2.2;have B:=Zd<|(o1.base z).aC f.2.2;have N1:=Zd<|YM z F.size;have n:=Zd<|aJ e b;have r:=Zd<|bO l b;go_upto_region 3 with(first|refine sV 0 (aP l b) f.1 (by rw[E.out,n.out];omega) (by rw[n.out];exact aK) r ?_);(try simp only[Act.put]);have R:=Zd f.2.1;generalize dz (i.alloc (.cells (aP (au 101) false).toArray 53)) i.heap.size 0 (aP l b)=D at *
 generalize i.heap.size=bm at *
 have G:=Zd<|bU.all b e;have Q:=Zd<|t v1 D B.ints B.xJ;go_wp2_with (first|refine lV 0 R aK (by rw[n.out];omega) G ?_|refine lV 0 q.2.1 bZ (by rw[aN,O.out];omega) H ?_);refine Q.mono ?_;rintro U W3 ⟨v3,rfl,o3,X⟩;have x:=Zd<|q.aC X;have s:=Zd<|x.fin m b y;have P:=Zd<|(o3.base (b':=c.heap.size+1+1+1+1) (show c.heap.size+1+1+1+1<=D.heap.size from q.2.2.2.1.lt)).bH s.2.2 gO;have M:=Zd<|w _ _ (P.base (b':=c.heap.size) gO) s.2.1;have o:=Zd<|aJ y b;have r:=Zd<|bO m b;go_wp2_with (first|refine sV 0 (aP m b) x.2.2.2.1 (by rw[E.out,o.out];omega) (by rw[o.out];exact aK) r ?_);have aa:=qG s.1 (by rw[o.out];exact aK);refine QB (v:=.tuple #[.agg (aP m b).toArray,_]) ?_ rfl M;simp[results,results146,asAddr,Act.put,aa]
def Oz (A b a:L)(d:Bool)(P:Int)(O:A.length=9)(C:b.length=101)(f:vO a)(hk:¬P=2)(c:W)(ht:TabA c 3 gains 8)(hG:uM c):Calls prog 146 #[bL b d,.agg (aF A),I P,.agg (aF a)] c (Gc c (Ti A false b a) d (Pt A false b a)):=by
 have y:=Zd<|L9.new c A a b d;have T:=Zd λe (M:c.grownBy e none)=>H9 (aB a 1) e (eY ht M);rw[show Es (aB a 1)=Nw a from rfl]at T;have U:=Zd λe (M:c.grownBy e none)=>D_ (aB a 7) e (lD hG M);rw[show BO (aB a 7)=Nv a from rfl]at U;have Q:=Zd λe=>sN (bM a 2 4) (aT _ _ _) (aB a 6) (Nv a) ⟨f.mO,⟨(TP f).1,by have:=(TP f).2;omega⟩,alR f⟩ e;rw[show Pp (bM a 2 4) (aB a 6) (Nv a)=TM a from rfl]at Q;have MX:=Zd λg e (u:aY e g (TM a))=>abT (bM b 16 80) (20+aB a 0) (Nw a) g (TM a) e (aT _ _ _) u (alS f);rw[show Df (bM b 16 80) (20+aB a 0) (Nw a) (TM a)=tQ b a from rfl]at MX;have XL:=Zd<|Dp f b;have KP:=Zd λg e (u:aY e g (tQ b a))=>Yx (bM b 16 80) g (tQ b a) e (aT _ _ _) u XL;have KL:=Zd<|Tg (bM b 16 80) (tQ b a);have WY:=Zd<|aj7 b a C;have z:=Zs ((Cb b a).length=101) (by rw[Ah];exact C);have J:=Zd λg e (u:aY e g (tQ b a)) (sh:rD g (tQ b a))=>rF A (Cb b a) (tQ b a) d O z g e u sh (by rw[XL.out];omega);have R:=Zs (∀e g,fO c.heap.size g e (qU A (Cb b a) (tQ b a))->c.grownBy g none->Gc c (Ti A false b a) d (Pt A false b a) (.returned (.tuple #[bL (qR A (Cb b a) (tQ b a)) d,e])) g) (λe g g i=>⟨e,by unfold Ti;rw[adv,adw],by unfold Pt;rw[adv,adw];exact g,i⟩);have ML:=Zs ((qR A (Cb b a) (tQ b a)).length=101) (by rw[wP];exact z);have HA:=Zd O;have r:=Zd f.len;have eZ:=f.eZ;have A8:=Zs (((aQ A).drop 0).take 9=aQ A) (by rw[List.drop_zero,K3 (by rw[aN,O];omega)]);have U4:=Zd<|oO a 2 4 (by rw[f.len];omega);have ZL:=Zd<|aJ (ak 101) false;have hz:=dM;have az:(P==2)=false:=beq_eq_false_iff_ne.2 hk;have L0:=Zd C;obtain⟨w,v⟩:∃w,b.set 98 (20+aB a 0)=w:=⟨_,rfl⟩;have j:=Zs (w.length=101) (by rw[<-v,XB];exact C);obtain⟨x,l⟩:∃x,w.set 97 (Nw a)=x:=⟨_,rfl⟩;have g:=Zs (x.length=101) (by rw[<-l,XB];exact j);obtain⟨e,i⟩:∃e,x.set 96 (Nv a)=e:=⟨_,rfl⟩;have k:=Zs (e.length=101) (by rw[<-i,XB];exact g);have ao:=Zs (aB e 96=Nv a) (by rw[<-i,iM _ _ _ (by rw[g.out];omega),Q9 rfl]);have ap:=Zs (aB e 97=Nw a) (by rw[<-i,iM _ _ _ (by rw[g.out];omega),nO,<-l,iM _ _ _ (by rw[j.out];omega),Q9 rfl]);have aq:=Zs (aB e 98=20+aB a 0) (by rw[<-i,iM _ _ _ (by rw[g.out];omega),nO,<-l,iM _ _ _ (by rw[j.out];omega),nO,<-v,iM _ _ _ gO,Q9 rfl]);have an:=Zs (bM e 16 80=bM b 16 80) (by rw[<-i,iZ _ _ _ _ _ (by rw[g.out];omega) (.inr gO),<-l,iZ _ _ _ _ _ (by rw[j.out];omega) (.inr gO),<-v,iZ _ _ _ _ _ gO (.inr gO)]);rw[v,l,i]at WY;have ad:=Zd v;have ae:=Zd l;have af:=Zd i;generalize Gc c (Ti A false b a) d (Pt A false b a)=aw at *
 generalize qR A (Cb b a) (tQ b a)=D at *
 generalize qU A (Cb b a) (tQ b a)=Lx at *
 generalize VI (tQ b a)=ke at *
 generalize Jk (bM b 16 80) (tQ b a)=s at *
 generalize Cb b a=m1 at *
 generalize tQ b a=ax at *
 generalize B_ (20+aB a 0) (Nw a) (TM a)=me at *
 generalize Og (bM a 2 4) (aB a 6) (Nv a)=be at *
 generalize TM a=av at *
 generalize gaE (aB a 1)=ge at *
 generalize glE (aB a 7)=le at *
 generalize Nw a=sg at *
 generalize Nv a=sz at *
 unfold Gc at J;unfold bL at R hz J ⊢;go_enter func146,ntmps146;go_upto_region 1 with fail;generalize (((c.alloc (.cells (aP b d).toArray 53)).alloc (.cells (aF A) 69)).alloc (.cells (aF a) 76)).alloc (.cells (aP (au 101) false).toArray 53)=W0 at *
 have K:=y.sub 0 (by rw[r.out];omega);have B:=y.1.cell 98 (by rw[L0.out];omega);have fm:=y.1.free 98;have m:=Zs (L9 c A a w d (W0.setCell ⟨c.heap.size,98,none⟩ (I (20+aB a 0)))) (by rw[<-ad.out];exact y.set 98 _ (by rw[L0.out];omega));generalize aB a 0=lg at *
 go_upto_region 5 with fail;generalize W0.setCell ⟨c.heap.size,98,none⟩ (I (20+lg))=W1 at *
 have K:=m.sub 1 (by rw[r.out];omega);have B:=m.1.cell 97 (by rw[j.out];omega);have fm:=m.1.free 97;have n:=Zs (L9 c A a x d (W1.setCell ⟨c.heap.size,97,none⟩ (I sg))) (by rw[<-ae.out];exact m.set 97 _ (by rw[j.out];omega));have ab:=Zd<|T W1 m.2.2.2.2;generalize aB a 1=u1 at *
 go_wp2_with fail;refine ab.mono ?_;rintro t w2 ⟨rfl,rfl⟩;go_upto_region 6 with fail;generalize w2.setCell ⟨c.heap.size,97,none⟩ (I sg)=W2 at *
 have K:=n.sub 7 (by rw[r.out];omega);have B:=n.1.cell 96 (by rw[g.out];omega);have fm:=n.1.free 96;have o:=Zs (L9 c A a e d (W2.setCell ⟨c.heap.size,96,none⟩ (I sz))) (by rw[<-af.out];exact n.set 96 _ (by rw[g.out];omega));have ac:=Zd<|U W2 n.2.2.2.2;generalize aB a 7=u7 at *
 go_wp2_with fail;refine ac.mono ?_;rintro t w3 ⟨rfl,rfl⟩;go_upto_region 7 with fail;generalize w3.setCell ⟨c.heap.size,96,none⟩ (I sz)=W3 at *
 have K:=o.sub 6 (by rw[r.out];omega);have B:=o.1.cell 96 (by rw[k.out];omega);rw[ao.out]at B;have aa:=Zd<|Q W3;have N3:=Zs (c.heap.size+1+1+1+1<=W3.heap.size) (o.2.2.2.1.lt);generalize aB a 6=u6 at *
 go_wp2_with (first|refine lV 2 o.2.2.1 abZ (by rw[aN,r.out];omega) U4 ?_);refine aa.mono ?_;rintro t W4 ⟨v4,rfl,o4,g4⟩;have p:=Zd<|o.aC g4;have O4:=Zd<|o4.base N3;go_upto_region 8 with fail;have am:=p.1.cell 98 (by rw[k.out];omega);rw[aq.out]at am;have al:=p.1.cell 97 (by rw[k.out];omega);rw[ap.out]at al;have F:=Zd<|aJ k d;have H:=Zd<|bU.part (l:=e) d 16 80 (by rw[k.out];omega);rw[an.out]at H;have ah:=Zd<|MX v4 W4 O4.ints;go_wp2_with (first|refine lV 16 p.1 dU (by rw[F.out];omega) H ?_);refine ah.mono ?_;rintro t W5 ⟨v5,rfl,o5,g5⟩;have X:=Zd<|p.aC g5;have O5:=Zd<|o5.base (b':=c.heap.size+1+1+1+1) (show c.heap.size+1+1+1+1<=W4.heap.size from p.2.2.2.1.lt);go_upto_region 9 with fail;have ag:=Zd<|KP v5 W5 O5.ints;go_wp2_with (first|refine lV 16 X.1 dU (by rw[F.out];omega) H ?_);refine ag.mono ?_;rintro t W6 ⟨rfl,g6⟩;have Y:=Zd<|X.aC g6;have O6:=Zd<|O5.aC g6;have PU:=Y.put 16 s (by rw[KL.out,k.out];omega);have q:=Zd PU.1;have O7:=Zd<|O6.bH PU.2 gO;rw[WY.out]at q;have I_:=Zd<|dO s;have IL:=Zs ((aQ s).length=80) (by rw[aN];exact KL);go_upto_region 10 with(first|refine sV 16 (aQ s) Y.1 (by rw[IL.out,F.out];omega) (by rw[IL.out];exact dU) I_ ?_);(try simp only[Act.put]);generalize dz W6 c.heap.size 16 (aQ s)=W7 at *
 have A1:=Zd<|bU.all d z;have C1:=Zd<|aJ z d;have ai:=Zd<|J v5 W7 O7.ints O7.xJ;go_wp2_with (first|refine lV 0 q.1 aK (by rw[C1.out];omega) A1 ?_|refine lV 0 q.2.1 bZ (by rw[aN,HA.out];omega) A8 ?_);refine ai.mono ?_;rintro t W8 ⟨v8,rfl,o8,g8⟩;have Z:=Zd<|q.aC g8;have G:=Zd<|Z.fin D d ML;have O8:=Zd<|(o8.base (b':=c.heap.size+1+1+1+1) (show c.heap.size+1+1+1+1<=W7.heap.size from q.2.2.2.1.lt)).bH G.2.2 gO;have FF:=Zd<|R _ _ (O8.base (b':=c.heap.size) gO) G.2.1;have E:=Zd<|aJ ML d;have ON:=Zd<|bO D d;go_wp2_with (first|refine sV 0 (aP D d) Z.2.2.2.1 (by rw[ZL.out,E.out];omega) (by rw[E.out];exact aK) ON ?_);have ar:=qG G.1 (by rw[E.out];exact aK);refine QB (v:=.tuple #[.agg (aP D d).toArray,_]) ?_ rfl FF;simp[results,results146,asAddr,Act.put,ar]
def Ia (A a c:L)(f:Bool)(b:Int)(g:A.length=9)(h:a.length=101)(j:bJ a=true)(l:vO c)(d:W)(k:TabA d 3 gains 8)(i:uM d):Calls prog 146 #[bL a f,.agg (aF A),I b,.agg (aF c)] d (Gc d (Ti A (decide (b=2)) a c) f (Pt A (decide (b=2)) a c)):=by
 by_cases e:b=2
 .rw[KN e];exact YD A a c f b g h j e d
 rw[KF e];exact Oz A a c f b g h l e d k i
def ab2 (a:Nat)(j:a<=35184372088832)(b:W):(Instr.makeSlice 26 (I 0) (I a)).run prog b=.ok (.slice (S b.heap.size) 0 a) (b.alloc (.cells (aF (au a)) 3)):=by have⟨h,d,e,f,g⟩:=info_parts nY;have c:=run_make (P:=prog) b 26 3 h (I 0) underlying26 d e .i64 .i64 0 a (DC _) gO (by rw[g];omega) gO;have i:=EA (n:=a);rw[show au a=List.replicate a 0 by unfold au;rfl,<-i];simpa [f,Value.cells] using c
def afg {base:Nat}(a:bY w b 3 (au n))(c:base<=b)(d:n<=35184372088832):fO base w (.slice (S b) 0 n) []:=
 ⟨by simp,.inr ⟨b,n,aF (au n),rfl,c,a,QN _,by unfold maxLen;omega,by simp[aF,ak],by simp⟩⟩
def amf:(prog.info? 69).map (·.size)=some 9:=by kernel_rfl
def Rq (L:List Int)(j:L.length=18)(a:Nat)(k:a<2)(c:W):Sem.run prog (Instr.index 193 (.agg (aF L)) (I a)) c=.ok (.agg (aF (bM L (9*a) 9))) c:=by
 have b:=amf;have d:(0:Int)<=a/\(a:Int)<2:=gO;have e:(aF L).extract (a*9) (a*9+9)=aF (bM L (9*a) 9):=by
  apply Array.toList_inj.1;rw[Array.toList_extract];have:=oO L (9*a) 9 gO;rw[show(aF L).toList=aQ L from rfl,show(aF (bM L (9*a) 9)).toList=aQ (bM L (9*a) 9)from rfl,<-this];rw[List.extract_eq_take_drop,Nat.mul_comm a 9,Nat.add_sub_cancel_left]
 cases hq:prog.info? 69 with
 | none=>simp[hq]at b
 | some g=>
  have f:g.size=9:=by simpa [hq] using b
  simp[Instr.index,run_underlying underlying193,run_underlying underlying69,asIntOf,d,go_sem,sizeOf,typeInfo,hq,f,part,isAgg,e];intro i;omega
def CPy (d:Nat)(f:W):Prop:=∀(b:L) (e:Bool),b.length=101->bJ b=true->∀(a:L),a.length=25->jC a=true->∀c,f.grownBy c none->Calls prog d #[bL b e,.agg (aF a)] c (Gc c (lH b a) (mU a) (qK b a))
def Bp (f:W)(hW:vS f)(hT:TabA f 3 gains 8)(hG:uM f)(m:L)(J:Bool)(T:m.length=101)(hg:bJ m=true)(b:L)(hp:b.length=25)(s:jC b=true):Calls prog 125 #[bL m J,.agg (aF b)] f (Gc f (lH m b) (mU b) (qK m b)):=by
 have M0:=Zd<|yX.new f m J b;obtain⟨q,ae⟩:∃q,aB b 0=q:=⟨_,rfl⟩;obtain⟨g,aa⟩:∃g,plF m b=g:=⟨_,rfl⟩;have⟨u,y⟩:=zu (p:=b) T hg;rw[aa]at u y;obtain⟨d,P⟩:∃d,UD b=d:=⟨_,rfl⟩;have z:d.length=8:=by rw[<-P];exact xW b
 have H:cZ d=true:=by rw[<-P];exact uz b s
 obtain⟨e,ad⟩:∃e,mU b=e:=⟨_,rfl⟩;have es:decide (q=2)=e:=by rw[<-ad,<-ae];rfl
 have K:=Zd λwr=>D6 m J q T wr;rw[show(if q=1 then iY else m)=g from by rw[<-aa,<-ae];rfl]at K;obtain⟨i,aw⟩:∃i:Bool,(if q=1 then false else J)=i:=⟨_,rfl⟩;rw[aw]at K;have VA:=Zd λwr (aE:f.grownBy wr none)=>KW (bM b 1 8) (aT _ _ _) wr (lq hW aE);rw[(Ar s).1,(Ar s).2,P]at VA;have PR:=Zd λwr=>vH (bM g 0 8) d (aT _ _ _) z (jM y) H wr;have ag:=Zd λa (l:a<2) af=>Rq (VT (bM g 0 8) d 2) (Jz _ _ 2) a l af;have IE:=Zd λa (l:a<2)=>Yj (bM g 0 8) d a l;have v:=Zd λa=>qo e d b u a;have OL:=Zd λa (l:a<=2)=>(wS e u y z H s a l).1;have ab:=Zd λa=>zJ (bM g 0 8) d a;have SP:=Zd (show ∀(a:Nat),a<2->∀wr,f.grownBy wr none->Calls prog 146 #[bL (kY e d g b a) i,.agg (aF (iF (bM g 0 8) d a)),I q,.agg (aF (d9 b a))] wr (Gc wr (kY e d g b (a+1)) i (Pt (iF (bM g 0 8) d a) e (kY e d g b a) (d9 b a)))from λa l wr c=>by
  have j:=Ia (iF (bM g 0 8) d a) (kY e d g b a) (d9 b a) i q (ab a) (v a) (nS e u y z H s a gO) (nG b s a l) wr (eY hT c) (lD hG c);rw[es,ahQ e u y z H s a l]at j;exact j)
 have SN:=Zd λ(a:Nat) (l:a<2)=>amc (iF (bM g 0 8) d a) e (nS e u y z H s a gO) (nG b s a l);have S2:=Zd λ(a:Nat) (l:a<2)=>ahR e u y z H s a l;have E0:=Zs (kY e d g b 0=g) (rfl);have E1:=Zs (Ny e d g b 0=[]) (rfl);have ac:=Zd (show ∀j n,fO f.heap.size n j (Ny e d g b 2)->f.grownBy n none->Gc f (lH m b) (mU b) (qK m b) (.returned (.tuple #[bL ((jd (kY e d g b 2) 0 d).set 99 0) e,j])) n from λj n k c=>
  ⟨j,by unfold lH;rw[ad,P,aa],by unfold qK;rw[ad,P,aa];exact k,c⟩)
 have E:=Zd z;have U:=Zd hp;have HL:=Zd T;have ax:=Zd u;have CL:=Zd<|aJ T J;have C0:=Zd<|aJ u i;have ai:=Zd<|bU.all J T;have PS:=Zd λa (l:a<2)=>oO b (9+8*a) 8 gO;have PV:=Zd<|oO b 1 8 gO;have P0:=Zd<|bU.part (l:=g) i 0 8 gO;have ZL:=Zd<|aJ (ak 101) false;have hz:=dM;have av:=ab2 80 gO;rw[show((80:Nat):Int)=80 from rfl]at av;have ar:(q==2)=e:=by
  rw[<-es];by_cases p:q=2
  .rw[KN p];exact beq_iff_eq.2 p
  rw[KF p];exact beq_eq_false_iff_ne.2 p
 have KD:=Zd ae;clear hg T s hp u y z H P ad ae aa aw es hW hT hG;generalize Gc f (lH m b) (mU b) (qK m b)=a2 at *
 generalize kY e d g b=r at *
 generalize Ny e d g b=LO at *
 generalize VT (bM g 0 8) d 2=a1 at *
 unfold jB at K PR;unfold bL at hz ac SP K ⊢;go_enter func125,ntmps125;go_upto_region 1 with fail;generalize ((f.alloc (.cells (aP m J).toArray 53)).alloc (.cells (aF b) 79)).alloc (.cells (aP (au 101) false).toArray 53)=W0 at *
 clear hz;have cp:=M0.num 0 (by rw[U.out];omega);rw[KD.out]at cp;go_wp2_with (first|refine lV 0 M0.1 aK (by rw[CL.out];omega) ai ?_);refine(K W0).mono ?_;rintro p W1 ⟨rfl,g1⟩;have C:=Zd<|M0.aC g1;have k:=C.all (m:=g) (t:=i) HL ax;have w:=Zd k.1;have I0:=Zd<|bO g i;clear k M0 g1 K cp ai;go_upto_region 2 with(first|refine sV 0 (aP g i) C.1 (by rw[CL.out,C0.out];omega) (by rw[C0.out];exact aK) I0 ?_);(try simp only[Act.put]);clear C I0 CL;generalize dz W1 f.heap.size 0 (aP g i)=W2 at *
 go_wp2_with (first|refine lV 1 w.2.1 dX (by rw[aN,U.out];omega) PV ?_);refine(VA _ w.2.2.2).mono ?_;rintro p W3 ⟨rfl,g3⟩;have⟨b1,b2,x⟩:=dG W3 50 8 d E;have B:=Zd b1;have B2:=Zd b2;have M:=Zd<|(w.aC g3).aC x;have o:=Zs (f.heap.size+1+1+1<=W3.heap.size) ((w.aC g3).2.2.1.lt);rw[uR]at B B2 M;clear g3 VA b1 b2 x w PV;go_upto_region 3 with(first|refine sA d B (by rw[E.out,ak]) (by rw[ak];exact dX) ?_);(try simp only[Act.put]);clear B;generalize b_ _ W3.heap.size d=Z at *
 generalize W3.heap.size=F at *
 have N4:=Zs (F+1<=Z.heap.size) (B2.lt);have OZ:=Zd<|afg (base:=F+1) (n:=80) (bY.new Z 3 (au 80)) N4 gO;have GZ:=aj Z (.cells (aF (au 80)) 3) none;have M5:=Zd<|M.aC GZ;have B5:=Zd<|B2.aC GZ;have N5:=Zd<|YM N4 GZ.size;clear GZ M B2 N4;go_upto_region 4 with fail;clear av;generalize Z.alloc (.cells (aF (au 80)) 3)=W5 at *
 generalize Z.heap.size=bo at *
 have ao:=Zd<|PR W5;clear PR;go_wp2_with (first|refine lV 0 M5.1 dX (by rw[C0.out];omega) P0 ?_|refine lA B5 (by rw[E.out];exact dX) ?_);refine ao.mono ?_;rintro p W6 ⟨rfl,g6⟩;have D:=Zd<|M5.aC g6;have B6:=Zd<|B5.aC g6;have Y:=Zd<|OZ.aC g6;have N6:=Zd<|YM N5 g6.size;clear g6 ao M5 B5 OZ N5 P0;go_wp2_with fail;go_loopw [8,27] (λj c wr=>∃a:Nat,c=I (a:Int)/\a<=2/\Hid (fO (F+1) wr j (LO a))/\Hid (yX f (r a) i b wr)/\Hid (bY wr F 50 d)/\Hid (F+1<=wr.heap.size)) (λ_ c _=>2-(intOf c).toNat)
 case atStart=>exact⟨0,rfl,QN _,by rw[E1.out];exact Y,by rw[E0.out];exact D,B6,N6⟩
 case round=>
  obtain⟨a,rfl,l,R,t,Q,hN⟩:=hrel;clear D B6 Y N6;by_cases G:a<2
  .have a6:(a:Int)<2:=gO;have A1:=Zd<|bU.all i (v a);have C1:=Zd<|aJ (v a) i;have CK:=Zd<|aJ (v (a+1)) i;have IK:=Zd<|bO (r (a+1)) i;have X:=Zd<|S2 a G;have OK:=Zd<|OL a l;have SK:=Zd<|SN a G;have ap:=Zd<|SP a G;have AL:=Zd<|ab a;have PU:=Zd<|PS a G;have aq:=ag a G;rw[IE.out a G]at aq;rw[show bM b (9+8*a) 8=d9 b a from rfl]at PU;clear S2 OL SN SP PS ab ac ag IE ar;generalize Pt (iF (bM g 0 8) d a) e (r a) (d9 b a)=LX at *
   generalize iF (bM g 0 8) d a=AK at *
   have⟨b1,b2,x⟩:=dG wr 69 9 AK AL;have B:=Zd b1;have BA:=Zd b2;have C:=Zd<|t.aC x;have O1:=Zd<|R.aC x;have BN:=Zd<|Q.aC x;have N1:=Zd<|YM hN x.size;rw[oV]at B BA C O1 BN N1;clear b1 b2 x t R Q hN;go_upto_region 7 with(first|refine sA AK B (by rw[AL.out,ak]) (by rw[ak];exact bZ) ?_);(try simp only[Act.put]);clear B aq;generalize b_ _ wr.heap.size AK=wq at *
   generalize wr.heap.size=bq at *
   go_upto_region 8 with fail;have t:=C;have R:=O1;have Q:=BN;have hN:=N1;clear C O1 BN N1;refine bW 12 (dB wq) 14 (by rfl) _ rfl (by kernel_rfl) λg=>?_;have c:=(aS wq);refine iN (hy:=by intro n j;(try dsimp only at j);exact bS rfl rfl (t.1.aC j) _ underlying53 rfl aK (by rw[C1.out];omega) _ A1) (v:=.agg (aP (r a) i).toArray) 0 c g λg=>?_;refine iN (hy:=by intro n j;(try dsimp only at j);exact yA (BA.aC j) (by rw[AL.out];exact bZ)) (v:=.agg (aF AK)) 1 c g λg=>?_;refine aZ 2 c g λg=>?_;refine iN (hy:=by intro n j;(try dsimp only at j);have cc:=((t.2.1.aC j).cell 0).trans (tX b 0 (by rw[U.out];omega));rw[KD.out]at cc;go_simp;(try with_reducible rfl)) (v:=I q) 3 c g λg=>?_;refine aZ 4 c g λg=>?_;refine aZ 5 c g λg=>?_;refine iN (hy:=by intro n j;(try dsimp only at j);go_simp;(try simp only[Nat.mul_comm]);(try with_reducible rfl)) (v:=.pointer (some ⟨f.heap.size+1,9+8*a,none⟩)) 6 c g λg=>?_;refine iN (hy:=by intro n j;(try dsimp only at j);exact bS rfl rfl (t.2.1.aC j) _ underlying76 rfl uN (by rw[aN,U.out];omega) _ PU) (v:=.agg (aQ (d9 b a)).toArray) 7 c g λg=>?_;refine jY 8 g λs l=>?_;(try simp only[sZ]);go_simp;refine(ap _ (ay t.2.2.2 c)).mono ?_;rintro p w2 ⟨v2,rfl,o2,q2⟩;have X:=Zd q2;have X2:=Zd<|o2.base (YM hN c.size);clear q2 o2;unfold bL;go_wp2_with fail;have ah:=(aX c X);refine l.out _ _ (λ_=>ah) λg=>?_;clear l;replace c:=ah;clear ah;(try simp only[sZ]);refine aZ 9 c g λg=>?_;refine aZ 10 c g λg=>?_;refine iB (i:=11) (v:=?a3) rfl (by kernel_rfl) g (λ_ _ _ m=>m) (Or.inl ⟨by rfl,?aA⟩) c λg=>?a4
   case aA=>(intro n _;go_simp;(try with_reducible rfl))
   (try simp only[sZ]);refine jY 12 g λs l=>?_;(try simp only[sZ]);have w:=Zd<|t.aC c;have k:=w.all (m:=r (a+1)) (t:=i) (v a) (v (a+1));have M:=Zd k.1;have O3:=Zd<|(R.out.aC c).bH k.2 (by have:=o.out;omega);have X3:=Zd<|X2.out.bH k.2 (by have:=o.out;omega);have B3:=Zd<|(Q.out.aC c).aH k.2 (by have:=o.out;omega);have N3:=Zd<|YM (YM hN c.size) k.2.size;clear k X2;refine dD rfl 53 _ _ rfl f.heap.size 0 53 (aP (r a) i) (aP (r (a+1)) i) rfl rfl w.1 (by rw[C1.out,CK.out];omega) (by rw[CK.out];exact aK) IK ?_;refine l.out _ _ (λm=>by cases m) λg=>?_;clear l c;(try simp only[sZ]);clear w X t R Q;generalize dz w2 f.heap.size 0 (aP (r (a+1)) i)=w3 at *
   refine bI _ _ _ _ (by rfl) ?_;refine wpAny_take (i:=13) (v:=?O) rfl (by kernel_rfl) (by kernel_rfl) (by kernel_rfl) (λ_ _ _ m=>m) (Or.inl ⟨by rfl,?az⟩) ?a5
   case az=>(intro n;go_simp;(try with_reducible rfl))
   (try simp only[sZ]);refine wm ?_;clear A1 C1 ap PU G BA;go_upto_region 9 with fail;have LB:=Zs (((LO a).length+LX.length)*8<=140737488355328) (by rw[OK.out];have:=SK.out;omega);have XI:=Zd X3.ints;have XS:=Zd X3.xJ;go_wp2_with (at_builtin;refine dH (by rfl) _ _ rfl (F+1) _ _ (LO a) LX rfl rfl O3 XI XS LB N3 ?_);intro v7 w7 h7 g7;rw[X.out]at h7;have O7:=Zd h7;have O:=Zd<|M.own g7 (λg p=>by have:=(O3.lt g p).1;have:=o.out;omega);have B7:=Zd<|aW.alk (aW.own (aW.alj B3) g7 (λg p=>by have:=(O3.lt g p).1;omega));have N7:=Zd<|YM N3 g7.size;clear h7 g7 O3 M B3 N3 X3 X XI XS;go_wp2_with fail;go_roundw
   case rel=>exact⟨a+1,by go_num,gO,O7,O,B7,N7⟩
   case measure=>simp[intOf];omega
  obtain rfl:a=2:=gO;have C2:=Zd<|aJ (v 2) i;clear S2 OL SN SP PS ab ag IE;go_upto_region 11 with fail;refine wp_region_held_drew (S:=λaf=>aW af (f.heap.size+1) 79 (aQ b)/\bY af F 50 d) (by kernel_rfl) ⟨t.2.1.aC (aS wr),Q.aC (aS wr)⟩ λc=>?_;refine aV (hy:=by intro n j;exact yA j.2 (by rw[E.out];exact dX)) (v:=.agg (aF d)) 0 c ?_;refine aV 1 c ?_;refine aV (hy:=by intro n j;have cc:=(j.1.cell 0).trans (tX b 0 (by rw[U.out];omega));rw[KD.out]at cc;go_simp;(try with_reducible rfl)) (v:=I q) 2 c ?_;refine aV (hy:=by intro n j;go_simp;(try simp only[ar]);(try with_reducible rfl)) (v:=.bool e) 3 c ?_;refine aV 4 c ?_;refine eU 5 λs l=>?_;(try simp only[sZ]);have MD:=Zd<|t.aC (aS wr);have k:=MD.put 0 d (by rw[E.out,v.out];omega);have D:=Zd k.1;have Y:=Zd<|(R.out.aC (aS wr)).bH k.2 (by have:=o.out;omega);have al:=And.intro (c.1.aH k.2 gO) (c.2.aH k.2 (by have:=o.out;omega));clear k;refine dD rfl 50 _ _ rfl f.heap.size 0 53 (aP (r 2) i) (aQ d) rfl rfl MD.1 (by rw[aN,E.out,C2.out];omega) (by rw[aN,E.out];exact dX) (dO _) ?_;refine l.out _ _ al λc=>?_;clear l;(try simp only[sZ]);clear MD al;generalize dz wr.drew f.heap.size 0 (aQ d)=w6 at *
  have L6:=Zs ((jd (r 2) 0 d).length=101) (by rw[dV];exact v 2);generalize jd (r 2) 0 d=m6 at *
  refine aV 6 c ?_;refine eU 7 λs l=>?_;(try simp only[sZ]);have ck:=D.1.cell 99 (by rw[L6.out];omega);have fk:=D.1.free 99;have O:=Zd<|D.set 99 0 (by rw[L6.out];omega);have O7:=Zd<|Y.out.bH (aD w6 ⟨f.heap.size,99,none⟩ (I 0)) (by have:=o.out;simp;omega);have am:=And.intro (c.1.aH (aD w6 ⟨f.heap.size,99,none⟩ (I 0)) (by simp)) (c.2.aH (aD w6 ⟨f.heap.size,99,none⟩ (I 0)) (by have:=o.out;simp;omega));go_simp;go_wp2_with fail;refine l.out _ _ am λc=>?_;clear l;(try simp only[sZ]);clear ck fk D Y am;generalize w6.setCell ⟨f.heap.size,99,none⟩ (I 0)=w7 at *
  have X:=Zs ((m6.set 99 0).length=101) (by rw[XB];exact L6);generalize m6.set 99 0=m7 at *
  refine aV 8 c ?_;refine eU 9 λs l=>?_;(try simp only[sZ]);have ck:=O.1.cellS X;have fk:=O.1.free 101;have M8:=Zd<|O.ah4 X e;have O8:=Zd<|O7.out.bH (aD w7 ⟨f.heap.size,101,none⟩ (.bool e)) (by have:=o.out;simp;omega);have an:=And.intro (c.1.aH (aD w7 ⟨f.heap.size,101,none⟩ (.bool e)) (by simp)) (c.2.aH (aD w7 ⟨f.heap.size,101,none⟩ (.bool e)) (by have:=o.out;simp;omega));go_simp;go_wp2_with fail;refine l.out _ _ an λc=>?_;clear l;(try simp only[sZ]);clear ck fk O O7 an;generalize w7.setCell ⟨f.heap.size,101,none⟩ (.bool e)=w8 at *
  refine jX ?_;clear c;go_upto_region 12 with fail;have A8:=Zd<|bU.all e X;have C8:=Zd<|aJ X e;have ON:=Zd<|bO m7 e;have PB:=Zd<|M8.fin m7 e X;have O9:=Zd<|O8.out.bH PB.out.2.2 (by have:=o.out;omega);have FF:=Zd<|ac.out _ _ (O9.out.base (b':=f.heap.size) (by have:=o.out;omega)) PB.2.1;clear ac O8 O9;go_wp2_with (first|refine lV 0 M8.1 aK (by rw[C8.out];omega) A8 ?_|refine sV 0 (aP m7 e) M8.2.2.1 (by rw[ZL.out,C8.out];omega) (by rw[C8.out];exact aK) ON ?_);have a0:=qG PB.1 (by rw[C8.out];exact aK);refine QB (v:=.tuple #[.agg (aP m7 e).toArray,_]) ?_ rfl FF;simp[results,results125,asAddr,Act.put,a0]
def amg {W:World}(e:vS W)(d:TabA W 3 gains 8)(c:uM W):CPy 125 W:=λh j g f i hp b k a=>Bp k (lq e a) (eY d a) (lD c a) h j g f i hp b
end Go.Proofs.YtmpfdogdinhhcaaGreatDoor
