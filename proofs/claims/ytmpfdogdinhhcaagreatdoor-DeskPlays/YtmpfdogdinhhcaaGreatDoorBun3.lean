import Derived.Test.YtmpfdogdinhhcaaGreatDoorBun2
import Derived.Deep.Cut
import Derived.Laws.Externs
import Derived.Shelf.Bits.Mul64
import Derived.Defers
import Derived.Recover
import Derived.Laws.Bits128
namespace Go.Proofs.YtmpfdogdinhhcaaGreatDoor
open Go.RowKit
open Tryz
set_option linter.unusedSimpArgs false
set_option linter.unusedVariables false
set_option maxHeartbeats 1000000
set_option maxRecDepth 100000
set_option linter.defProp false
variable {w w' u:World}{n b k j:Nat}{l p r:List Int}{x v':Value}{T:TypeId}{s:Bool}{y:List Value}{z:Option Nat}{i:Int}{Q:Exit→Act→World→Prop}{a:Act}{o:Oper}{Z:Nat→Prop}{f:Nat→Int}
def uL (L:List Int)(b:Nat)(a:List Int):List Int:=L.take b++a++L.drop (b+a.length)
def Yr (L:List Int)(b:Nat)(a:List Int)(c:b+a.length<=L.length):(uL L b a).length=L.length:=by simp[uL];omega
def Yt (L:List Int)(b:Nat)(c:List Int)(g:b+c.length<=L.length)(a:Nat):aB (uL L b c) a=if a<b then aB L a else if a<b+c.length then aB c (a-b)else aB L a:=by
 unfold uL aB;have f:min b L.length=b:=gO;by_cases d:a<b
 .rw[Q9 d];simp[List.getD,H6,d,f,show a<L.length by omega,show a<b+c.length by omega]
 rw[X9 d];by_cases e:a<b+c.length
 .rw[Q9 e];simp[List.getD,H6,f,d,e];rw[pO]
 rw[X9 e];simp[List.getD,H6,f,d,e];rw[nO,show b+c.length+(a-b-c.length)=a by omega]
def Bn (b:W)(a:Nat)(c:Array V):b.grownBy (b.setRow a c) (some a):=
 ⟨rfl,rfl,rfl,by simp,λe _ d=>setRow_other b a e c (λa=>d (by rw[a]))⟩
def abR {r:Nat->Option Bool}{k:Act->W->Prop}{s:Prop}(v:o.guard=none)(c p:Operand)
 (x:o.op=Op.call { callee:=Callee.builtin Builtin.copy,args:=#[c,p],argTypes:=#[26,26] }) (f d b l q:Nat) (g:TypeId) (e L:List Int) (h:Addr) (m:bY w f g e)
 (u:a.eval c=.slice (some (A f d)) b l) (y:a.eval p=.slice (some h) b q) (i:L.length=b) (z:∀c,c<b->w.cell? (h.add c)=some (I (aB L c))) (D:d+b<=e.length)
 (t:∀j,bY j f g (uL e d L)->w.grownBy j (some f)->k (a.put o.dst (goInt b)) j):if Region.wanted o r=true then Oper.wp prog o a w k Q else s:=by
 have C:Region.wanted o r=true:=by simp[Region.wanted,v]
 rw[Q9 C];have B:(prog.info? 3).map (·.size)=some 1:=by kernel_rfl
 have n:=run_copy_row (P:=prog) w 26 26 o.type 3 f d b l h b q (aF e) g (L.map (Value.int .i64)) underlying26 B m (by simp[i])
  (λc f b=>by
   have j:c<L.length:=by
    by_cases j:c<L.length
    .exact j
    rw[U8 (by simp;omega)]at b;cases b
   rw[z c gO];simpa [aB,List.getD,j] using b)
  (by simp[aF,i];omega) (λf b=>by
   obtain⟨j,_,rfl⟩:=List.mem_map.1 b;rfl)
 have j:((aF e).toList.take d++L.map (Value.int .i64)++(aF e).toList.drop (d+(L.map (Value.int .i64)).length)).toArray=aF (uL e d L):=by
  simp[aF,uL,List.map_take,List.map_drop]
 rw[j,GK,i]at n;unfold Oper.wp;simp[execOp,x,resolve,invoke,builtin,u,y,n,Result.andThen];exact t _ (setRow_heap _ _ _ _ _ _ m) (Bn _ _ _)
def D7 (c:Nat)(h:TypeId):∀(b:L) (a:Nat) (e:W) (d:L),bY e c h d->a+b.length<=d.length->bY (e.setCells c a (b.map (Value.int .i64))) c h (uL d a b)/\e.grownBy (e.setCells c a (b.map (Value.int .i64))) (some c)
 | [],a,e,d,i,_=>⟨by show bY e c h (uL d a []);unfold uL;simp;exact i,aM e _⟩
 | g::b,a,e,d,i,m=>by
  simp only[List.length_cons]at m;have l:=i.set a g;have⟨j,k⟩:=D7 c h b (a+1) (e.setCell (A c a) (I g)) (d.set a g) l (by rw[XB];omega);refine⟨?_,bT (aD e (A c a) _) k (some c) (λc f _=>f) (λc f _=>f)⟩;have f:uL (d.set a g) (a+1) b=uL d a (g::b):=by
   unfold uL;rw[List.take_succ_eq_append_getElem (by rw[XB];omega)];simp[show a<d.length by omega];rw[List.drop_set_of_lt gO,show a+1+b.length=a+(b.length+1) by omega];rw[List.take_set_of_le (Q6 _)]
  rw[<-f];exact j
def Yu {m:Nat->Option Bool}{l:Act->W->Prop}{n:Prop}(p:o.guard=none)(f:TypeId)(j k:Operand)(s:o.op=.store f j k)
 (d c:Nat) (g:TypeId) (e b:L) (u:a.eval j=.pointer (some (A d c))) (v:a.eval k=.agg (aF b)) (h:bY w d g e) (r:c+b.length<=e.length) (q:(prog.info? f).map (·.size)=some b.length)
 (x:∀i,bY i d g (uL e c b)->w.grownBy i (some d)->l (a.put o.dst undef) i):if Region.wanted o m=true then Oper.wp prog o a w l Q else n:=by
 have t:Region.wanted o m=true:=by simp[Region.wanted,p]
 rw[Q9 t];have⟨y,z⟩:=D7 d g b c w e h r;exact wp_store_mid f j k s d c (aF b) u v (by
  rw[show(aF b).size=b.length by simp[aF]];intro i B;exact⟨by rw[h.cell (c+i) gO];rfl,h.free (c+i)⟩) (by simpa [aF] using q) (ED b) (x _ (by simpa [aF] using y) (by simpa [aF] using z))
def o_ (a c:Int)(d:W):Calls prog 205 #[I a,I c] d λe b=>e=.returned (I (Gz a c))/\b=d:=by
 by_cases l:a<0
 .rw[show Gz a c=0 from Q9 (.inl l)];go_enter func205,ntmps205;go_wp2_with fail;go_ret;exact⟨rfl,rfl⟩
 by_cases n:6<=c
 .rw[show Gz a c=0 from Q9 (.inr n)];go_enter func205,ntmps205;go_wp2_with fail;go_ret;exact⟨rfl,rfl⟩
 rw[show Gz a c=z_ a c.toNat from nO];have t:c<6:=gO;have m:0<=a:=gO;have r:min a 32767=z_ a 0:=by show min a 32767=(if 32767<a then 32767 else a);split<;>omega
 have s:(if 32767<a then 32767 else a)=z_ a 0:=rfl;have f:=Zd<|S_ a m;have i:=Zs (∀b,z_ a (b+1)=z_ a b*26214 / 32768) (λb=>rfl);go_enter func205,ntmps205;go_upto_region 4 with fail;have o:∃b:Int,b=z_ a 0:=⟨_,rfl⟩;go_wp2_with fail;go_loop [0,14] (λe d=>∃b:Nat,d=I (b:Int)/\e=I (z_ a b)/\((b:Int)<=c\/b=0)) (λ_ d=>6-(intOf d).toNat)
 case atStart=>exact⟨0,rfl,rfl,.inr rfl⟩
 case round=>
  obtain⟨b,rfl,rfl,u⟩:=hrel;have⟨p,q⟩:=f b;by_cases v:(b:Int)<c
  .have g:=Zd<|i b;generalize z_ a b=e at *
   go_wp2_with fail;go_round
   case rel=>exact⟨b+1,by go_num,by rw[g.out],.inl gO⟩
   case measure=>simp[intOf];omega
  have g:=Zs (c.toNat=b) gO;generalize k:z_ a b=e at *
  have j:=Zd k;go_wp2_with fail;go_ret;exact⟨by rw[g.out,j.out];rfl,rfl⟩
def UC (b a:Int)(i:W):Calls prog 241 #[I b,I a] i λc d=>c=.returned (.tuple #[I (zk b),I (IG b a)])/\d=i:=by
 have l:bits .and .i64 (wrap64 (wrap64 (b*31821)+13849)) 65535=zk b:=aas _ _ (by simp only[wrap64];omega);have⟨j,k⟩:=Fh b;have⟨m,n⟩:=agb b a;rw[show IG b a=(zk b-32768)*Nt a / 32768 from rfl];generalize zk b=g at *
 by_cases c:a<0
 .rw[show Nt a=0 from Q9 c,Int.mul_zero,show(0:Int) / 32768=0 from rfl];have e:max a 0=0:=gO;have f:min (0:Int) 32767=0:=gO;go_enter func241,ntmps241;go_wp2_with fail;go_ret2;exact⟨rfl,rfl⟩
 by_cases d:32767<a
 .rw[show Nt a=32767 from by unfold Nt;rw[X9 c,Q9 d]]at *
  have e:max a 0=a:=gO;have f:min a 32767=32767:=gO;go_enter func241,ntmps241;go_wp2_with fail;go_ret2;exact⟨rfl,rfl⟩
 rw[show Nt a=a from by unfold Nt;rw[X9 c,X9 d]]at *
 have e:max a 0=a:=gO;have f:min a 32767=a:=gO;have o:wrap64 ((g-32768)*a)=(g-32768)*a:=by simp only[wrap64];omega
 go_enter func241,ntmps241;go_wp2_with fail;go_ret2;exact⟨rfl,rfl⟩
def ah2 (a:W):Sem.run prog (Instr.build 74 #[]) a=.ok (.agg (aF (au 4))) a:=run_build a 74 #[] (aF (au 4)) (by kernel_rfl)
def kG:(prog.info? 74).map (·.size)=some 4:=by kernel_rfl
def kQ (a b c:Int)(d:W):Calls prog 235 #[I a,I b,I c] d (nQ d (.bool (decide (b<=a/\a<=c)))):=by
 by_cases e:b<=a
 .by_cases f:a<=c
  .rw[KN (show b<=a/\a<=c from⟨e,f⟩)];go_enter func235,ntmps235;go_wp2_with fail;go_ret;exact⟨rfl,rfl⟩
  rw[KF (show ¬(b<=a/\a<=c)from λd=>f d.2)];go_enter func235,ntmps235;go_wp2_with fail;go_ret;exact⟨rfl,rfl⟩
 rw[KF (show ¬(b<=a/\a<=c)from λd=>e d.1)];go_enter func235,ntmps235;go_wp2_with fail;go_ret;exact⟨rfl,rfl⟩
def AO (b a:Int)(f:0<=b)(g:b<=3)(i:0<=a)(j:a<=9)(c:W):Calls prog 237 #[I b,I a] c (nQ c (I (b+4*a))):=by
 have d:=Zs (nQ c (I (b+4*a)) (.returned (I (b+4*a))) c) (⟨rfl,rfl⟩);generalize nQ c (I (b+4*a))=e at *
 go_enter func237,ntmps237;go_wp2_with fail;exact d
def vI (b:Int)(c:W):Calls prog 252 #[I b] c (nQ c (I (sg b))):=by
 rcases rQ b with⟨d,a⟩|⟨d,a⟩
 .rw[a];clear a;go_enter func252,ntmps252;go_wp2_with fail;go_ret;exact⟨rfl,rfl⟩
 rw[a];clear a;go_enter func252,ntmps252;go_wp2_with fail;go_ret;exact⟨rfl,rfl⟩
def Bo (a:L)(i:a.length=4)(d:W):Calls prog 236 #[.agg (aF a)] d (uJ d (.bool (gY a))):=by
 have n:=Zd<|bY.new d 74 a;have k:=Zd<|aj d (.cells (aF a) 74) none;have s:=Zd λ(e:∀b,b<4->0<=aB a b/\aB a b<=9)=>(show uJ d (.bool (gY a)) (.returned (.bool true)) (d.alloc (.cells (aF a) 74))from⟨by rw[(jf a).2 (by rw[i];exact e)],k⟩);have N:=Zd (λb (x:b<4) (e:¬(0<=aB a b/\aB a b<=9))=>(show uJ d (.bool (gY a)) (.returned (.bool false)) (d.alloc (.cells (aF a) 74))from⟨by
  rcases hb:gY a with _|_
  .rfl
  exact absurd ((jf a).1 hb b gO) e,k⟩))
 have p:=Zd λ(c:Nat) (u:c<4)=>gF a underlying74 c gO i;generalize uJ d (.bool (gY a))=w at *
 go_enter func236,ntmps236;go_wp2_with (first|refine lA n (by rw[i];exact kG) ?_);generalize d.alloc (.cells (aF a) 74)=r at *
 go_loop [4,6] (λ_ b=>∃c:Nat,b=I c/\c<=4/\Hid (∀b,b<c->0<=aB a b/\aB a b<=9)) (λ_ b=>4-(intOf b).toNat)
 case atStart=>exact⟨0,rfl,QN _,λb d=>gO⟩
 case round=>
  obtain⟨c,rfl,u,l⟩:=hrel;by_cases m:c<4
  .have y:=p c m;have q:=Zd<|N c m;have o:=Zd (λ(e:0<=aB a c/\aB a c<=9)=>(show ∀b,b<c+1->0<=aB a b/\aB a b<=9 from λb d=>by
    rcases WZ b c with f|f
    .exact l b f
    obtain rfl:b=c:=gO;exact e))
   generalize aB a c=j at *
   have z:(c:Int)<4:=gO;have f:=Zd<|kQ j 0 9 r;by_cases g:0<=j/\j<=9
   .have b:=Zd<|o g;rw[KN g]at f;go_wp2_with fail;refine f.mono ?_;rintro t v ⟨rfl,rfl⟩;go_wp2_with fail;go_round
    case rel=>exact⟨c+1,by go_num,gO,b⟩
    case measure=>simp[intOf];omega
   have b:=Zd<|q g;rw[KF g]at f;go_wp2_with fail;refine f.mono ?_;rintro t v ⟨rfl,rfl⟩;go_wp2_with fail;exact b
  obtain rfl:c=4:=gO;have b:=Zd<|s l;go_wp2_with fail;exact b
def mZ (q:V)(a:L)(d:W)(s:aY d q a)(D:a.length<=1000000000000000000):Calls prog 228 #[q] d (nQ d (.bool (aL a))):=by
 obtain⟨x,y,rfl,z,m⟩:=s;have l:=Zd λ(g:∀b,b<a.length->-32768<=aB a b/\aB a b<=32767)=>(show nQ d (.bool (aL a)) (.returned (.bool true)) d from⟨by rw[(bD a).2 g],rfl⟩);have N:=Zd (λb (t:b<a.length) (g:¬(-32768<=aB a b/\aB a b<=32767))=>(show nQ d (.bool (aL a)) (.returned (.bool false)) d from⟨by
  rcases hb:aL a with _|_
  .rfl
  exact absurd ((bD a).1 hb b t) g,rfl⟩))
 generalize nQ d (.bool (aL a))=v at *
 go_enter func228,ntmps228;go_wp2_with fail;go_loop [7] (λb=>∃c:Nat,b=I c/\c<=a.length/\Hid (∀b,b<c->-32768<=aB a b/\aB a b<=32767)) (λb=>a.length-(intOf b).toNat)
 case atStart=>exact⟨0,rfl,QN _,λb e=>gO⟩
 case round=>
  obtain⟨c,rfl,C,i⟩:=hrel;by_cases o:c<a.length
  .obtain⟨w,rfl,p⟩:=m gO;have B:=p c o;have k:=Zd<|N c o;have j:=Zd (λ(g:-32768<=aB a c/\aB a c<=32767)=>(show ∀b,b<c+1->-32768<=aB a b/\aB a b<=32767 from λb e=>by
    rcases WZ b c with e|e
    .exact i b e
    obtain rfl:b=c:=gO;exact g))
   clear m p l N i;generalize aB a c=n at *
   have E:(c:Int)<a.length:=gO;have b:=Zd<|kQ n (-32768) 32767 d;by_cases e:-32768<=n/\n<=32767
   .have f:=Zd<|j e;rw[KN e]at b;clear k j e;go_wp2_with fail;refine b.mono ?_;rintro r u ⟨rfl,rfl⟩;clear b;go_wp2_with fail;go_round
    case rel=>exact⟨c+1,by go_num,gO,f⟩
    case measure=>simp[intOf];omega
   have f:=Zd<|k e;rw[KF e]at b;clear k j e;go_wp2_with fail;refine b.mono ?_;rintro r u ⟨rfl,rfl⟩;clear b;go_wp2_with fail;exact f
  obtain rfl:c=a.length:=gO;have f:=Zd<|l i;clear m l N i;go_wp2_with fail;exact f
def abW (b c:L)(a:Nat):fU b c (a+1)=fU b c a+aB b a*aB c a:=rfl
def LJ (t s:V)(a c:L)(d:W)(y:aY d t a)(z:aY d s c)(Y:a.length<=c.length)(hn:a.length<=100)(j:aL a=true)(k:aL c=true):Calls prog 229 #[t,s] d (nQ d (I (fU a c a.length))):=by
 have m:=Zs (nQ d (I (fU a c a.length)) (.returned (I (fU a c a.length))) d) (⟨rfl,rfl⟩);have e:=Zd<|n_ a c j k;have f:=Zd<|kJ a (-32768) 32767 gO gO ((bD a).1 j);have RB:=Zd<|kJ c (-32768) 32767 gO gO ((bD c).1 k);obtain⟨J,M,rfl,U,q⟩:=y;obtain⟨K,Q,rfl,X,r⟩:=z;have g:=Zd q;have i:=Zd r;clear q r j k;generalize nQ d (I (fU a c a.length))=H at *
 go_enter func229,ntmps229;go_wp2_with fail;go_loop [5,10] (λl d=>∃b:Nat,d=I b/\l=I (fU a c b)/\b<=a.length) (λ_ d=>a.length-(intOf d).toNat)
 case atStart=>exact⟨0,rfl,rfl,QN _⟩
 case round=>
  obtain⟨b,rfl,rfl,Z⟩:=hrel;by_cases B:b<a.length
  .obtain⟨pa,rfl,o⟩:=g gO;obtain⟨pb,rfl,p⟩:=i gO;have O:=o b B;have P:=p b gO;have⟨D,E⟩:=f b;have⟨F,G⟩:=RB b;have C:=sF _ _ D E F G;have x:=e b;have n:=abW a c b;have i1:(b:Int)<a.length:=gO;have i2:(b:Int)<c.length:=gO;have u:=Zd n;clear o p e f RB g i n m;have⟨p1,p2⟩:=C;have⟨v,w⟩:=x;have R:-107374182400<=fU a c b:=gO;have T:fU a c b<=107374182400:=gO;clear v w;generalize fU a c b=l at *
   generalize aB a b=aa at *
   generalize aB c b=ab at *
   go_wp2_with fail;go_round
   case rel=>exact⟨b+1,by go_num,by rw[u.out],gO⟩
   case measure=>simp[intOf];omega
  obtain rfl:b=a.length:=gO;clear g i f RB e;generalize fU a c a.length=l at *
  go_wp2_with fail;exact m
def amZ:∀a:Fin 16,bits BinOp.and IntKind.i64 (a.val:Int) 1=(a.val:Int) % 2:=by decide +kernel
def afd (a:Int)(b:Nat)(e:0<=a)(h:a<=15):(a / 2^b % 2=1/\bits BinOp.and IntKind.i64 (a / 2^b) 1=1)\/(¬a / 2^b % 2=1/\bits BinOp.and IntKind.i64 (a / 2^b) 1=0):=by
 have hp:(1:Int)<=2^b:=Int.pow_pos gO;have f:0<=a / 2^b:=F7 e gO;have g:a / 2^b<=a:=Int.ediv_le_self _ e;generalize a / 2^b=c at *
 have:=amZ ⟨c.toNat,gO⟩;simp only at this;rw[show((c.toNat:Nat):Int)=c by omega]at this;by_cases d:c % 2=1
 .exact .inl ⟨d,by rw[this,d]⟩
 exact .inr ⟨d,by rw[this];omega⟩
def UE (b:L)(j:b.length=4)(d c:Int)(X:(0<=d/\d<=15)/\(0<=c/\c<=32767)/\gY b=true)(e:World):Calls prog 188 #[.agg (aF b),I d,I c] e (gP e (f_ 40 (Tw b d c)) 0):=by
 have v:=Zd<|bY.new e 74 b;have x:=Zd<|aj e (.cells (aF b) 74) none;have z:=Zd<|Bo b j;have B:=Zd<|kQ d 0 15;have C:=Zd<|kQ c 0 32767;have⟨E,F,G⟩:=X;rw[KN E]at B;rw[KN F]at C;rw[G]at z;have Z:=gU 40 gO;rw[show((40:Nat):Int)=40 from rfl]at Z;have q:=Zd G;have y:=Zd j;have M:=Zd λ(H:Nat) (hk:H<4)=>gF b underlying74 H gO j;have⟨s1,s2⟩:=E;have⟨z1,z2⟩:=F;go_enter func188,ntmps188;go_upto_region 1 with fail;generalize e.alloc _=R at *
 go_wp2_with fail;refine(B R).mono ?_;rintro n w1 ⟨rfl,rfl⟩;go_wp2_with fail;refine(C w1).mono ?_;rintro n w2 ⟨rfl,rfl⟩;go_wp2_with (first|refine fD (by rfl) 74 _ rfl _ rfl _ v _ underlying74 rfl (by rw[j];exact kG) ?_);refine(z w2).mono ?_;rintro n g ⟨rfl,s⟩;have D:=aj g (.cells (aF (au 40)) 3) none;have O:=Zs (bY (g.alloc (.cells (aF (au 40)) 3)) g.heap.size 3 (au 40)/\e.heap.size<=g.heap.size/\e.grownBy (g.alloc (.cells (aF (au 40)) 3)) none) (⟨bY.new g _ _,YM x.size s.size,ay (ay x s) D⟩);have K:=Zd<|(v.aC s).aC D;go_upto_region 4 with fail;generalize g.alloc _=W4 at *
 generalize g.heap.size=i at *
 go_wp2_with (first|refine lA K (by rw[j];exact kG) ?_);go_loopw [27] (λf wr=>∃(a:Nat) (k:L),f=I a/\a<=4/\Hid (WL b d c a k)/\Hid (bY wr i 3 k/\e.heap.size<=i/\e.grownBy wr none)) (λf _=>4-(intOf f).toNat)
 case atStart=>exact⟨0,au 40,rfl,QN _,WO b d c,O⟩
 case round=>
  obtain⟨a,k,rfl,hm,o,f⟩:=hrel;by_cases t:a<4
  .have ab:=M a t;have i1:(a:Int)<4:=gO;have aa:=FE q y a t;have⟨T,U⟩:=(jf b).1 q a gO;have p:=Zd<|AO (a:Int) (aB b a) gO gO T U wr;rw[show(a:Int)+4*aB b a=((jO b a:Nat):Int) by unfold jO;omega]at p;have l:=Zd<|aaG q y t o;have J:=o.1;have cd:=f.1.cell (jO b a) gO;have fd:=f.1.free (jO b a);have gs:=aD wr (A i (jO b a)) (I (blV d c a));have m:=Zs (bY (wr.setCell (A i (jO b a)) (I (blV d c a))) i 3 (k.set (jO b a) (blV d c a))/\e.heap.size<=i/\e.grownBy (wr.setCell (A i (jO b a)) (I (blV d c a))) none) (⟨f.1.set _ _,f.2.1,aG f.2.2 gs f.2.1⟩);have Q:=Zd<|afd d a s1 s2;have w:=Zs (blV d c a=if d / 2^a % 2=1 then c else -c) (rfl);have i2:((jO b a:Nat):Int)<40:=gO;generalize jO b a=P at *
   generalize aB b a=pl at *
   generalize aB k P=ac at *
   generalize blV d c a=V at *
   rcases Q with⟨u,Y⟩|⟨u,Y⟩
   .have r:=Zs (V=c) (by rw[w.out,Q9 u]);go_wp2_with fail;refine p.mono ?_;rintro n wy ⟨rfl,rfl⟩;rw[r.out]at l m;go_wp2;go_roundw
    case rel=>exact⟨a+1,_,by go_num,gO,l,m⟩
    case measure=>simp[intOf];omega
   have r:=Zs (V=-c) (by rw[w.out,X9 u]);go_wp2_with fail;refine p.mono ?_;rintro n wy ⟨rfl,rfl⟩;rw[r.out]at l m;go_wp2;go_roundw
   case rel=>exact⟨a+1,_,by go_num,gO,l,m⟩
   case measure=>simp[intOf];omega
  obtain rfl:a=4:=gO;have J:=o.1;have l:=Di (base:=e.heap.size) f.1 f.2.1 gO;rw[J,aez o.out]at l;have p:=Zd l;have m:=Zd f.2.2;rw[show((4:Nat):Int)=4 from rfl];go_wp2_with fail;go_ret2;exact⟨_,rfl,p,m⟩
def sN (b:L)(h:b.length=4)(a c:Int)(e:(0<=a/\a<=15)/\(0<=c/\c<=32767)/\gY b=true)(d:W):Calls prog 188 #[.agg (aF b),I a,I c] d (gP d (Pp b a c) (Og b a c)):=by have⟨f,g⟩:=Jl e;rw[f,g];exact UE b h a c e d
def afe (a b:L):(¬(a.length=40/\b.length=40)/\QD a b=1/\NJ a b=[])\/((a.length=40/\b.length=40)/\aL a=false/\QD a b=2/\NJ a b=[])\/((a.length=40/\b.length=40)/\aL a=true/\aL b=false/\QD a b=2/\NJ a b=[])\/((a.length=40/\b.length=40)/\aL a=true/\aL b=true/\QD a b=0/\NJ a b=tgL a b):=by
 by_cases c:a.length=40/\b.length=40
 .rcases ht:aL a with _|_
  .exact .inr (.inl ⟨c,rfl,by unfold QD;rw[Q9 c,ht];rfl,by unfold NJ;rw[X9 (by rw[ht];simp)]⟩)
  rcases hr:aL b with _|_
  .exact .inr (.inr (.inl ⟨c,rfl,rfl,by unfold QD;rw[Q9 c,ht,hr];rfl,by unfold NJ;rw[X9 (by rw[ht,hr];simp)]⟩))
  exact .inr (.inr (.inr ⟨c,rfl,rfl,by unfold QD;rw[Q9 c,ht,hr];rfl,by unfold NJ;rw[Q9 (by rw[ht,hr];exact⟨c.1,c.2,rfl⟩)]⟩))
 exact .inl ⟨c,X9 c,by unfold NJ;rw[X9 (λa=>c ⟨a.1,a.2.1⟩)]⟩
def Yz (a:aL l=true)(b:Nat):aL (l.drop b)=true:=by rw[bD];intro d c;rw[Da];exact kJ _ _ _ gO gO ((bD l).1 a) _
def Oy (r u:Value)(b c:L)(d:World)(j:aY d r b)(p:aY d u c)(Z:rD r b)(D:b.length<=1000000000000000000)(M:c.length<=1000000000000000000):Calls prog 186 #[r,u] d (gP d (NJ b c) (QD b c)):=by
 rcases afe b c with⟨e,m,n⟩|⟨e,q,m,n⟩|⟨e,q,t,m,n⟩|⟨e,q,t,m,n⟩
 .rw[m,n];obtain⟨y,B,rfl,_,_⟩:=j;obtain⟨x,z,rfl,_,_⟩:=p;generalize b.length=a at *
  generalize c.length=f at *
  by_cases g:a=40
  .have i:((f:Int) != 40)=true:=by simp;omega
   subst g;go_enter func186,ntmps186;go_wp2_with fail;go_ret2;exact⟨_,rfl,bN _ _,aM _ _⟩
  have i:((a:Int) != 40)=true:=by simp;omega
  go_enter func186,ntmps186;go_wp2_with fail;go_ret2;exact⟨_,rfl,bN _ _,aM _ _⟩
 .rw[m,n];have g:=Zd<|mZ r b d j D;rw[q]at g;obtain⟨y,B,rfl,_,_⟩:=j;obtain⟨x,z,rfl,_,_⟩:=p;rw[e.1]at g;rw[e.1,e.2];go_enter func186,ntmps186;go_wp2_with fail;refine g.mono ?_;rintro s P ⟨rfl,rfl⟩;go_wp2_with fail;go_ret2;exact⟨_,rfl,bN _ _,aM _ _⟩
 .rw[m,n];have g:=Zd<|mZ r b d j D;have l:=Zd<|mZ u c d p M;rw[q]at g;rw[t]at l;obtain⟨y,B,rfl,_,_⟩:=j;obtain⟨x,z,rfl,_,_⟩:=p;rw[e.1]at g;rw[e.2]at l;rw[e.1,e.2];go_enter func186,ntmps186;go_wp2_with fail;refine g.mono ?_;rintro s P ⟨rfl,rfl⟩;go_wp2_with fail;refine l.mono ?_;rintro s i ⟨rfl,rfl⟩;go_wp2_with fail;go_ret2;exact⟨_,rfl,bN _ _,aM _ _⟩
 rw[m,n];have g:=Zd<|mZ r b d j D;have l:=Zd<|mZ u c d p M;have J:=Zd λ(f:Nat) (C:f<=40)=>ajc j Z f gO;have H:=Zd λ(f:Nat) (C:f<=40) W (K:d.grownBy W none) (w:Value) (F:aY d w (b.drop f))=>LJ w u (b.drop f) c W (aR F K) (aR p K) (by rw[DN];omega) (by rw[DN];omega) (Yz q f) t;have Q:=Zd λ(f:Nat) (C:f<=40)=>(show fU (b.drop f) c (b.drop f).length=QC b c f by rw[DN,e.1];exact agA b c t f C);rw[q]at g;rw[t]at l;obtain⟨y,B,rfl,_,_⟩:=j;obtain⟨x,z,rfl,_,_⟩:=p;rw[e.1]at g J;rw[e.2]at l H;rw[e.1,e.2];have Y:=gU 40 gO;rw[show((40:Nat):Int)=40 from rfl]at Y;have T:=Zs (bY (d.alloc (.cells (aF (au 40)) 3)) d.heap.size 3 (au 40)/\d.grownBy (d.alloc (.cells (aF (au 40)) 3)) none) (⟨bY.new d 3 (au 40),aj _ _ none⟩);go_enter func186,ntmps186;go_wp2_with fail;refine g.mono ?_;rintro s P ⟨rfl,rfl⟩;go_wp2_with fail;refine l.mono ?_;rintro s i ⟨rfl,rfl⟩;go_wp2_with fail;generalize i.alloc _=W0 at *
 go_loopw [27] (λd wr=>∃(a:Nat) (k:L),d=I a/\a<=40/\Hid (jF 40 (QC b c) a k)/\Hid (bY wr i.heap.size 3 k/\i.grownBy wr none)) (λd _=>40-(intOf d).toNat)
 case atStart=>exact⟨0,au 40,rfl,QN _,iP 40 _,T⟩
 case round=>
  obtain⟨a,k,rfl,E,v,o⟩:=hrel;by_cases X:a<40
  .have O:k.length=40:=v.1;have⟨w,aa,F,_⟩:=J a E;have G:=Zd<|H a E wr o.2 w F;rw[Q.out a E]at G;have cd:=o.1.cell a gO;have fd:=o.1.free a;have R:=Zd<|eD v X;have U:=Zs (bY (wr.setCell (A i.heap.size a) (I (QC b c a))) i.heap.size 3 (k.set a (QC b c a))/\i.grownBy (wr.setCell (A i.heap.size a) (I (QC b c a))) none) (⟨o.1.set a _,aG o.2 (aD wr (A i.heap.size a) _) (Q6 _)⟩);have i1:(a:Int)<40:=gO;generalize QC b c a=ac at *
   generalize aB k a=ab at *
   go_wp2_with fail;refine G.mono ?_;rintro s wy ⟨rfl,rfl⟩;go_wp2;go_roundw
   case rel=>exact⟨a+1,_,by go_num,gO,R,U⟩
   case measure=>simp[intOf];omega
  obtain rfl:a=40:=gO;have O:k.length=40:=v.1;have G:=Di (base:=i.heap.size) o.1 (Q6 _) gO;rw[O,show k=tgL b c from fB v.out]at G;have U:=Zd G;have R:=Zd o.2;rw[show((40:Nat):Int)=40 from rfl];go_wp2_with fail;go_ret2;exact⟨_,rfl,U,R⟩
def LW (a b c:Int)(e:b<=a)(f:a<=c)(d:W):Calls prog 255 #[I a,I b,I c] d λa b=>a=.returned (.bool true)/\b=d:=by go_enter func255,ntmps255;go_wp2;go_ret;exact⟨rfl,rfl⟩
def YA (a:Int)(c:0<=a)(d:a<9223372036854775808):IntKind.i64.wrap a=a:=by have b:a % 2^64=a:=Int.emod_eq_of_lt gO gO;simp only[IntKind.wrap,IntKind.bits,IntKind.signed,b];rw[X9 (by simp;omega)]
def ah3 (a:Int):bits .and .i64 a 1=a % 2:=by show IntKind.i64.wrap ((BitVec.ofInt 64 a &&& BitVec.ofInt 64 1).toNat:Int)=_;rw[BitVec.toNat_and,BitVec.toNat_ofInt,show(BitVec.ofInt 64 1).toNat=2^1-1 by decide,Nat.and_two_pow_sub_one_eq_mod];rw[YA _ gO gO];omega
def akl:V:=.agg #[I 444758425,I 203159592,I 97181937,I 47538611,I 23511884,I 11692281,I 5830311,I 2911209,I 1454619,I 727063,I 363470,I 181719,I 90856,I 45427,I 22713]
def aff (a:Nat)(d:a<15)(b:W):Sem.run prog (Instr.index 251 akl (I a)) b=.ok (I (nJ a)) b:=by
 have c:a=0\/a=1\/a=2\/a=3\/a=4\/a=5\/a=6\/a=7\/a=8\/a=9\/a=10\/a=11\/a=12\/a=13\/a=14:=gO;rcases c with rfl|rfl|rfl|rfl|rfl|rfl|rfl|rfl|rfl|rfl|rfl|rfl|rfl|rfl|rfl
 all_goals simp[Instr.index,go_sem,akl,nJ,gro]
def YC (a:Nat)(b:a<15):0<=nJ a/\nJ a<=444758425:=by
 have:∀a:Fin 15,0<=nJ a.val/\nJ a.val<=444758425:=by decide
 exact this ⟨a,b⟩
def alm (b a:Int)(g:1073741824<=b)(d:b<=2147438200)(c:0<=a)(e:a<=444758425):0<=b*a/\b*a<=955091231616835000:=by have f:=Int.mul_le_mul d e c (by decide);exact⟨ZA gO c,gO⟩
def uM (b:W):Prop:=∀a,a<15->b.cell? (A 5 a)=some (I (nJ a))
def akm (f:Nat)(b:Int)(w:f<=30)(s:0<=b)(t:b<=32767)(c:World)(d:uM c):Calls prog 238 #[I f,I b] c λe a=>e=.returned (.tuple #[I (Iu f b),I 0])/\a=c:=by
 have E:c.cell? (A 5 0)=some (I 444758425):=d 0 gO;have F:c.cell? (A 5 1)=some (I 203159592):=d 1 gO;have O:c.cell? (A 5 2)=some (I 97181937):=d 2 gO;have P:c.cell? (A 5 3)=some (I 47538611):=d 3 gO;have Q:c.cell? (A 5 4)=some (I 23511884):=d 4 gO;have R:c.cell? (A 5 5)=some (I 11692281):=d 5 gO;have T:c.cell? (A 5 6)=some (I 5830311):=d 6 gO;have U:c.cell? (A 5 7)=some (I 2911209):=d 7 gO;have c8:c.cell? (A 5 8)=some (I 1454619):=d 8 gO;have X:c.cell? (A 5 9)=some (I 727063):=d 9 gO;have G:c.cell? (A 5 10)=some (I 363470):=d 10 gO;have H:c.cell? (A 5 11)=some (I 181719):=d 11 gO;have J:c.cell? (A 5 12)=some (I 90856):=d 12 gO;have K:c.cell? (A 5 13)=some (I 45427):=d 13 gO;have M:c.cell? (A 5 14)=some (I 22713):=d 14 gO;go_enter func238,ntmps238;go_wp2_with fail;refine(LW _ _ _ gO gO _).mono ?_;rintro e m ⟨rfl,rfl⟩;go_wp2_with fail;refine(LW _ _ _ s t _).mono ?_;rintro e m ⟨rfl,rfl⟩;go_wp2_with fail;have q:=Zd aff;have r:(.agg #[I 444758425,I 203159592,I 97181937,I 47538611,I 23511884,I 11692281,I 5830311,I 2911209,I 1454619,I 727063,I 363470,I 181719,I 90856,I 45427,I 22713]:Value)=akl:=rfl;rw[r];generalize akl=V at *
 have k:=Zd<|SX b;have p:=Zd<|acZ f b w;go_loop [6,18] (λg c=>∃a:Nat,c=I a/\g=I (pw b a)/\a<=15) (λ_ c=>15-(intOf c).toNat)
 case atStart=>exact⟨0,rfl,rfl,gO⟩
 case round=>
  obtain⟨a,rfl,rfl,u⟩:=hrel;by_cases v:a=15
  .subst v;have j:=(p).2.2;have i:=Zs (Iu f b=pw b 15 / 2^(30-f)) (rfl);rw[i.out]at j;generalize pw b 15=g at *
   go_wp2_with fail;go_ret2;exact⟨by rw[i.out];rfl,rfl⟩
  have Y:=q a gO m;have⟨j,B⟩:=k a u;have⟨y,z⟩:=YC a gO;have⟨Z,m2⟩:=alm _ _ j B y z;have⟨C,D⟩:=k (a+1) gO;have l:=ah3 (b / 2^(14-a));by_cases i:sD b a=1
  .have e:=Zs (pw b (a+1)=pw b a+pw b a*nJ a / 1073741824) (by show(if sD b a=1 then _ else _)=_;rw[Q9 i];rfl);rw[e.out]at C D;rw[show b / 2^(14-a) % 2=sD b a from rfl,i]at l;have n:pw b (a+1)=pw b a+pw b a*nJ a / 1073741824:=e.out;have o:=Zd n;generalize pw b a=g at *
   generalize nJ a=x at *
   go_wp2_with fail;go_round
   case rel=>exact⟨a+1,by go_num,by rw[o.out],gO⟩
   case measure=>simp[intOf];omega
  have e:=Zs (pw b (a+1)=pw b a) (by show(if sD b a=1 then _ else _)=_;rw[X9 i]);have n:sD b a=0:=by
   unfold sD at *
   omega
  rw[show b / 2^(14-a) % 2=sD b a from rfl,n]at l;generalize pw b a=g at *
  generalize nJ a=x at *
  go_wp2_with fail;go_round
  case rel=>exact⟨a+1,by go_num,by rw[e.out],gO⟩
  case measure=>simp[intOf];omega
def D_ (b:Int)(c:W)(g:uM c):Calls prog 192 #[I b] c λe a=>e=.returned (.tuple #[I (BO b),I (glE b)])/\a=c:=by
 by_cases d:0<=b/\b<=31
 .obtain⟨a,rfl⟩:∃a:Nat,b=(a:Int):=⟨b.toNat,gO⟩;have f:a<=31:=gO;rw[(uW a f).1,(uW a f).2];have P:=Zd<|akm (3+3*a / 8) ((3*a % 8*4096:Nat):Int) gO gO gO c g;rw[ac0 a gO]at P;have p:(3*(a:Int)).tdiv 8=((3*a / 8:Nat):Int):=by rw[YS gO];omega
  have q:(3*(a:Int)) / 8=((3*a / 8:Nat):Int):=gO;have r:(3*(a:Int)).tmod 8=((3*a % 8:Nat):Int):=by rw[V3 gO];omega
  have s:(3*(a:Int)) % 8=((3*a % 8:Nat):Int):=gO;rw[show((3+3*a / 8:Nat):Int)=3+((3*a / 8:Nat):Int) by omega,show((3*a % 8*4096:Nat):Int)=((3*a % 8:Nat):Int)*4096 by omega]at P;have k:3*a / 8<=11:=gO;have l:3*a % 8<=7:=gO;generalize 3*a / 8=i at *
  generalize 3*a % 8=j at *
  generalize mD a=u at *
  have m:(i:Int)<=11:=gO;have n:(j:Int)<=7:=gO;have o:(a:Int)<=31:=gO;go_enter func192,ntmps192;go_wp2_with fail;refine P.mono ?_;rintro e t ⟨rfl,rfl⟩;go_wp2_with fail;go_ret2;exact⟨rfl,rfl⟩
 rw[show BO b=0 from X9 d,show glE b=2 from X9 d];by_cases a:b<0
 .clear d;go_enter func192,ntmps192;go_wp2_with fail;go_ret2;exact⟨rfl,rfl⟩
 have f:32<=b:=gO;go_enter func192,ntmps192;go_wp2_with fail;go_ret2;exact⟨rfl,rfl⟩
def abX (b c:Int)(g:W)(v:uM g)(r:0<b)(B:b<=9223372036854775807)(s:0<c)(G:c<=9223372036854775807):Calls prog 189 #[I b,I c] g λi a=>i=.returned (I (goN (uS b) (uT c) 31:Int))/\a=g:=by
 have L:=Zd λa=>D_ a g v;have C:min b 1152921504606846976=uS b:=by unfold uS;split<;>omega
 have D:min c 17592186044416=uT c:=by unfold uT;split<;>omega
 have E:(if 1152921504606846976<b then 1152921504606846976 else b)=uS b:=rfl;have F:(if 17592186044416<c then 17592186044416 else c)=uT c:=rfl;have⟨M,O⟩:=ac1 b r;have⟨P,Q⟩:=ac2 c s;have l:=Zd<|L 0;rw[amP.1,amP.2]at l;clear v;go_enter func189,ntmps189;go_wp2_with fail;refine l.mono ?_;rintro i w1 ⟨rfl,rfl⟩;clear l C D E F;generalize t:uS b=e at *
 generalize u:uT c=d at *
 have y:=Zd t;have z:=Zd u;clear t u;clear r B s G;go_wp2_with fail;go_loop [5,6,8] (λo c b=>∃a:Nat,b=I ((a+1:Nat):Int)/\o=I (goN e d a:Int)/\c=I (mD a)/\a<=31) (λ_ _ b=>40-(intOf b).toNat)
 case atStart=>exact⟨0,rfl,rfl,rfl,gO⟩
 case round=>
  obtain⟨a,rfl,rfl,rfl,Z⟩:=hrel;by_cases K:a<31
  .have f:=Zd<|L ((a+1:Nat):Int);rw[(uW (a+1) gO).1,(uW (a+1) gO).2]at f;have n:=Zd<|ai7 e d a;have m:=Zd<|alG e d a;have⟨R,T⟩:=Jf (a+1);have⟨U,X⟩:=Jf a;have i1:((a+1:Nat):Int)<32:=gO;clear L;generalize goN e d a=o at *
   generalize mD a=p at *
   have q1:0<=(mD (a+1)+p)*d:=ZA gO gO;have q2:(mD (a+1)+p)*d<=50534*17592186044416:=Int.mul_le_mul gO gO gO gO;generalize Y:a+1=k at *
   generalize w:mD k=i at *
   have q:=Zd w;clear w;by_cases x:(i+p)*d<2*e
   .have j:=Zd<|n x;clear n m;go_wp2_with fail;refine f.mono ?_;rintro H J ⟨rfl,rfl⟩;clear f;go_wp2_with fail;go_round
    case rel=>exact⟨k,by go_num,by rw[j.out],by rw[q.out],gO⟩
    case measure=>simp[intOf];omega
   have j:=Zd<|m x;clear n m;go_wp2_with fail;refine f.mono ?_;rintro H J ⟨rfl,rfl⟩;clear f;go_wp2_with fail;go_round
   case rel=>exact⟨k,by go_num,by rw[j.out],by rw[q.out],gO⟩
   case measure=>simp[intOf];omega
  obtain rfl:a=31:=gO;rw[show((31+1:Nat):Int)=32 from rfl];generalize f:goN e d 31=o at *
  have j:=Zd f;clear f L;generalize mD 31=k at *
  go_wp2_with fail;go_ret;exact⟨by rw[y.out,z.out,j.out];rfl,rfl⟩
def abY (a b:Int)(c:W)(j:uM c)(g:a<=9223372036854775807)(i:b<=9223372036854775807):Calls prog 189 #[I a,I b] c λd e=>d=.returned (I (Py a b))/\e=c:=by
 by_cases e:a<=0
 .rw[show Py a b=0 from Q9 (.inl e)];go_enter func189,ntmps189;go_wp2_with fail;go_ret;exact⟨rfl,rfl⟩
 by_cases f:b<=0
 .rw[show Py a b=0 from Q9 (.inr f)];go_enter func189,ntmps189;go_wp2_with fail;go_ret;exact⟨rfl,rfl⟩
 rw[show Py a b=(goN (uS a) (uT b) 31:Int)from X9 (λd=>d.elim e f)];exact abX a b c j gO g gO i
def vJ (c:L)(b a:Nat)(d:b+a<=c.length):((aQ c).drop b).take a=aQ (bM c b a):=by have:=tH c [] b a d;unfold mI at this;rwa [F3]at this
def Cm (b:L)(a:Nat)(c:a<b.length):(aQ b)[a]?=some (I (aB b a)):=by have:=rH b [] a c;unfold mI at this;rwa [F3]at this
def bU.cellS (b:bU w n l s)(a:l.length=101):w.cell? (A n 101)=some (.bool s):=by rw[aW.cell b];unfold aP mI;rw[BK (by rw[aN,a];omega),aN,a];rfl
def bU.ah4 (d:bU w n l s)(b:l.length=101)(a:Bool):bU (w.setCell (A n 101) (.bool a)) n l a:=by
 have:=aW.set d 101 (.bool a);have c:(aP l s).set 101 (.bool a)=aP l a:=by
  unfold aP mI;rw[List.set_append_right _ _ (by rw[aN,b];omega),aN,b];rfl
 rw[c]at this;exact this
def yX (a:W)(c:L)(e:Bool)(d:L)(b:W):Prop:=bU b a.heap.size c e/\aW b (a.heap.size+1) 79 (aQ d)/\bU b (a.heap.size+1+1) (au 101) false/\a.grownBy b none
def yX.new (c:W)(a:L)(b:Bool)(d:L):yX c a b d (((c.alloc (.cells (aP a b).toArray 53)).alloc (.cells (aF d) 79)).alloc (.cells (aP (au 101) false).toArray 53)):=by
 refine⟨((bU.new c a b).aC (aj _ _ none)).aC (aj _ _ none),?_,?_,ay (ay (aj _ _ none) (aj _ _ none)) (aj _ _ none)⟩
 .have:=(aW.new (c.alloc (.cells (aP a b).toArray 53)) 79 (aQ d)).aC (aj _ (.cells (aP (au 101) false).toArray 53) none);rw[tF]at this;simpa using this
 have:=bU.new ((c.alloc (.cells (aP a b).toArray 53)).alloc (.cells (aF d) 79)) (au 101) false;simpa using this
def yX.aC (b:yX w l s p w')(a:w'.grownBy u none):yX w l s p u:=⟨b.1.aC a,b.2.1.aC a,b.2.2.1.aC a,ay b.2.2.2 a⟩
def yX.own (b:yX w l s p w')(a:w'.grownBy u z)(d:∀c,z=some c->w.heap.size+1+1+1<=c):yX w l s p u:=by
 rcases z with _|c
 .exact b.aC a
 have:=d c rfl;exact⟨b.1.aH a gO,b.2.1.aH a gO,b.2.2.1.aH a gO,aG b.2.2.2 a gO⟩
def yX.mem {c:Bool}(b:yX w l s r w')(d:bU u w.heap.size p c)(a:w'.grownBy u (some w.heap.size)):yX w p c r u:=⟨d,b.2.1.aH a gO,b.2.2.1.aH a gO,aG b.2.2.2 a (Q6 _)⟩
def yX.all {m:L}{t:Bool}(a:yX w l s p w')(b:l.length=101)(c:m.length=101):yX w m t p (dz w' w.heap.size 0 (aP m t))/\w'.grownBy (dz w' w.heap.size 0 (aP m t)) (some w.heap.size):=by have:=a.1.dQ (m:=m) (t:=t) b c;exact⟨a.mem this.1 this.2,this.2⟩
def yX.put (c:yX w l s p w')(b:Nat)(a:L)(d:b+a.length<=l.length):yX w (jd l b a) s p (dz w' w.heap.size b (aQ a))/\w'.grownBy (dz w' w.heap.size b (aQ a)) (some w.heap.size):=by have:=c.1.put b a d;exact⟨c.mem this.1 this.2,this.2⟩
def yX.set (c:yX w l s p w')(a:Nat)(b:Int)(d:a<l.length):yX w (l.set a b) s p (w'.setCell (A w.heap.size a) (I b)):=c.mem (c.1.set a b d) (aD w' (A w.heap.size a) _)
def yX.ah4 (b:yX w l s p w')(c:l.length=101)(a:Bool):yX w l a p (w'.setCell (A w.heap.size 101) (.bool a)):=b.mem (b.1.ah4 c a) (aD w' (A w.heap.size 101) _)
def yX.fin (c:yX w l s p w')(a:L)(b:Bool)(d:a.length=101):bU (dz w' (w.heap.size+1+1) 0 (aP a b)) (w.heap.size+1+1) a b/\w.grownBy (dz w' (w.heap.size+1+1) 0 (aP a b)) none/\w'.grownBy (dz w' (w.heap.size+1+1) 0 (aP a b)) (some (w.heap.size+1+1)):=by have:=c.2.2.1.dQ (m:=a) (t:=b) (ak 101) d;exact⟨this.1,aG c.2.2.2 this.2 gO,this.2⟩
def yX.num (b:yX w l s p w')(a:Nat)(c:a<p.length):w'.cell? (A (w.heap.size+1) a)=some (I (aB p a)):=(b.2.1.cell a).trans (Cm p a c)
def amq:Go.Shelf.Ren:=⟨λ_=>259,λa=>if a=46 then 108 else 161,λa=>a⟩
def akD:Go.Proofs.Lays.n264 prog amq where
 mixed:=by kernel_rfl
 f264:=by kernel_rfl
 t46:=by kernel_rfl
 a46:=λ_=>by kernel_rfl
 z46:=λ_=>by kernel_rfl
 v46:=λ_=>by kernel_rfl
 t53:=by kernel_rfl
 a53:=λ_=>by kernel_rfl
 z53:=λ_=>by kernel_rfl
 v53:=λ_=>by kernel_rfl
def afp (a b:Nat)(e:a<18446744073709551616)(f:b<18446744073709551616)(c:W):Calls prog 259 #[.int .u64 a,.int .u64 b] c λd g=>d=.returned (.tuple #[.int .u64 ((a*b / 18446744073709551616:Nat):Int),.int .u64 ((a*b % 18446744073709551616:Nat):Int)])/\g=c:=
 Any.bits_Mul64 akD a b e f c
def t_ (a b:Int)(h:0<=a)(i:0<=b)(c:a<18446744073709551616)(g:b<18446744073709551616)(e:W):Calls prog 259 #[.int .u64 a,.int .u64 b] e λf g=>∃c d:Int,0<=c/\c<18446744073709551616/\0<=d/\d<18446744073709551616/\Hid (c*18446744073709551616+d=a*b)/\f=.returned (.tuple #[.int .u64 c,.int .u64 d])/\g=e:=by
 obtain⟨a,rfl⟩:=Int.eq_ofNat_of_zero_le h;obtain⟨b,rfl⟩:=Int.eq_ofNat_of_zero_le i;refine(afp a b gO gO e).mono λf g c=>?_;have f:a*b<=18446744073709551615*18446744073709551615:=Nat.mul_le_mul gO gO;have d:(a:Int)*b=((a*b:Nat):Int):=by simp
 refine⟨_,_,?_,?_,?_,?_,?_,c.1,c.2⟩
 all_goals(try unfold Hid)
 all_goals(try rw[d])
 all_goals(generalize a*b=j at *)
 all_goals omega
def adR (a b:Int)(d:0<=a)(e:0<=b)(c:W):(callFunc 260 #[.int .u64 a,.int .u64 b,.int .u64 0]).run prog c =
 .ok (.value (.tuple #[.int .u64 ((a+b) % 18446744073709551616),.int .u64 ((a+b) / 18446744073709551616)])) c:=by
 rw[run_callFunc_extern func260 (by kernel_rfl) (by kernel_rfl) (by kernel_rfl) (e:=add64Entry) (by kernel_rfl),run_add64 a b 0 d e gO gO];simp only[Result.andThen,Int.add_zero]
def Ig (a b d e f j c g h i:Int)(o:0<=a)(B:a<9223372036854775808)(p:0<=b)(C:b<9223372036854775808)
 (k:d*18446744073709551616+e=a*a) (s:f*18446744073709551616+j=e*b) (t:c*18446744073709551616+g=d*b)
 (E:0<=e) (F:e<18446744073709551616) (w:0<=c) (y:0<=g) (z:g<18446744073709551616) (u:0<=f) (v:f<18446744073709551616)
 (l:h=(g+f) / 18446744073709551616) (m:i=(g+f) % 18446744073709551616) :
 (c+h)*340282366920938463463374607431768211456+i*18446744073709551616+j=a*a*b/\0<=c+h/\c+h<18446744073709551616/\0<=i/\i<18446744073709551616:=by
 have D:a*a*b=(d*b)*18446744073709551616+e*b:=by
  rw[<-k,GL,Int.mul_right_comm]
 have n:d<=4611686018427387903:=by
  have:a*a<=9223372036854775807*9223372036854775807:=Int.mul_le_mul gO gO o gO;omega
 have x:c<18446744073709551616-1:=by
  have:d*b<=4611686018427387903*9223372036854775807:=Int.mul_le_mul n gO p gO;omega
 generalize a*a*b=q at *
 generalize d*b=S at *
 generalize e*b=r at *
 subst l m;refine⟨gO,gO,gO,gO,gO⟩
def Mh (c e:Int)(R:c<=9223372036854775807)(E:0<=e)(T:e<=9223372036854775807)(F:W):Calls prog 257 #[I c,I e] F λd g=>∃a b f:Int,∃(K:Array V) (M:TypeId),(0<=a/\a<18446744073709551616/\0<=b/\b<18446744073709551616/\0<=f/\f<18446744073709551616)/\
  a*340282366920938463463374607431768211456+b*18446744073709551616+f=nM c*nM c*e/\
  d=.returned (.agg #[.int .u64 a,.int .u64 b,.int .u64 f])/\g=F.alloc (.cells K M):=by
 by_cases D:c<0
 .have hp:nM c=0:=by unfold nM;rw[Q9 D]
  rw[hp];clear hp;go_enter func257,ntmps257;go_wp2_with fail;refine(t_ _ _ gO gO gO gO _).mono ?_;rintro d O ⟨q,r,H,J,s,t,k,rfl,rfl⟩;go_wp2_with fail;refine(t_ _ _ gO gO gO gO _).mono ?_;rintro d P ⟨a,i,f,o,u,v,l,rfl,rfl⟩;go_wp2_with fail;refine(t_ _ _ gO gO gO gO _).mono ?_;rintro d Q ⟨g,b,p,G,j,w,m,rfl,rfl⟩;have⟨x,y,z,B,C⟩:=Ig 0 e q r a i g b _ _ gO gO E gO k l m s t p j w f o rfl rfl;have n:Hid _:=x;go_wp2_with (simp only[adR b a j f]);refine QB (v:=.agg #[.int .u64 (g+(b+a) / 18446744073709551616),.int .u64 ((b+a) % 18446744073709551616),.int .u64 i]) (by simp[results,results257,go_sem]) rfl ?_;exact⟨_,_,_,_,_,⟨y,z,B,C,u,v⟩,n,rfl,rfl⟩
 have hp:nM c=c:=by unfold nM;rw[X9 D]
 rw[hp];clear hp;go_enter func257,ntmps257;go_wp2_with fail;refine(t_ _ _ gO gO gO gO _).mono ?_;rintro d O ⟨q,r,H,J,s,t,k,rfl,rfl⟩;go_wp2_with fail;refine(t_ _ _ gO gO gO gO _).mono ?_;rintro d P ⟨a,i,f,o,u,v,l,rfl,rfl⟩;go_wp2_with fail;refine(t_ _ _ gO gO gO gO _).mono ?_;rintro d Q ⟨g,b,p,G,j,w,m,rfl,rfl⟩;have⟨x,y,z,B,C⟩:=Ig c e q r a i g b _ _ gO gO E gO k l m s t p j w f o rfl rfl;have n:Hid _:=x;go_wp2_with (simp only[adR b a j f]);refine QB (v:=.agg #[.int .u64 (g+(b+a) / 18446744073709551616),.int .u64 ((b+a) % 18446744073709551616),.int .u64 i]) (by simp[results,results257,go_sem]) rfl ?_;exact⟨_,_,_,_,_,⟨y,z,B,C,u,v⟩,n,rfl,rfl⟩
def zO (a b c:Int):Int:=a*340282366920938463463374607431768211456+b*18446744073709551616+c
def ab8 (c a e d b f:Int)(g:0<=a)(h:a<18446744073709551616)(i:0<=e)(j:e<18446744073709551616)(k:0<=b)(l:b<18446744073709551616)(m:0<=f)(n:f<18446744073709551616):(c≠d->decide (d<c)=decide (zO d b f<zO c a e))/\(c=d->a≠b->decide (b<a)=decide (zO d b f<zO c a e))/\
 (c=d->a=b->decide (f<e)=decide (zO d b f<zO c a e)):=by
 unfold zO;refine⟨λa=>?_,λa b=>?_,λa b=>?_⟩<;>(rw[decide_eq_decide];omega)
def JA {W:World}(a:W.grownBy w none):W.grownBy w.drew none:=bB a
def xE {W:World}{b:Obj}(a:W.grownBy w none):W.grownBy (w.alloc b) none:=ay a (aj _ _ none)
def ab9 (a b c e f g:Int)(x:0<=b)(y:b<18446744073709551616)(z:0<=c)(B:c<18446744073709551616)(C:0<=f)(D:f<18446744073709551616)(E:0<=g)(F:g<18446744073709551616)(i:W):Calls prog 256 #[.agg #[.int .u64 a,.int .u64 b,.int .u64 c],.agg #[.int .u64 e,.int .u64 f,.int .u64 g]] i λd j=>d=.returned (.bool (decide (zO e f g<zO a b c)))/\i.grownBy j none:=by
 have⟨s,t,u⟩:=ab8 a b c e f g x y z B C D E F;have k:Hid (a≠e->decide (e<a)=decide (zO e f g<zO a b c)):=s;have l:Hid (a=e->b≠f->decide (f<b)=decide (zO e f g<zO a b c)):=t;have j:Hid (a=e->b=f->decide (g<c)=decide (zO e f g<zO a b c)):=u;clear s t u;generalize decide (zO e f g<zO a b c)=p at *
 have G:∀i,(Instr.index 253 (.agg #[.int .u64 a,.int .u64 b,.int .u64 c]) (I 0)).run prog i=.ok (.int .u64 a) i:=λ_=>by kernel_rfl
 have H:∀i,(Instr.index 253 (.agg #[.int .u64 a,.int .u64 b,.int .u64 c]) (I 1)).run prog i=.ok (.int .u64 b) i:=λ_=>by kernel_rfl
 have J:∀i,(Instr.index 253 (.agg #[.int .u64 a,.int .u64 b,.int .u64 c]) (I 2)).run prog i=.ok (.int .u64 c) i:=λ_=>by kernel_rfl
 go_enter func256,ntmps256;go_wp2_with fail;go_loop [8] (λd=>(d=I 0)\/(d=I 1/\Hid (a=e))\/(d=I 2/\Hid (a=e)/\Hid (b=f))\/(d=I 3/\Hid (a=e)/\Hid (b=f)/\Hid (c=g))) (λd=>3-(intOf d).toNat)
 case atStart=>exact Or.inl rfl
 case round=>
  rcases hrel with rfl|⟨rfl,n⟩|⟨rfl,n,r⟩|⟨rfl,n,r,v⟩
  .by_cases d:a=e
   .have q:(a != e)=false:=by simp[d]
    have o:Hid (a=e):=d;clear d k l j;go_wp2_with fail;go_round
    case rel=>exact Or.inr (Or.inl ⟨rfl,o⟩)
    case measure=>simp[intOf]
   have q:(a != e)=true:=by simp[d]
   have m:Hid (decide (e<a)=p):=k d;clear d k l j;go_wp2_with fail;go_ret;exact⟨congrArg (λa=>Ending.returned (.bool a)) m,by repeat(first|exact aM _ _|apply JA|apply xE)⟩
  .by_cases d:b=f
   .have q:(b != f)=false:=by simp[d]
    have o:Hid (b=f):=d;clear d k l j;go_wp2_with fail;go_round
    case rel=>exact Or.inr (Or.inr (Or.inl ⟨rfl,n,o⟩))
    case measure=>simp[intOf]
   have q:(b != f)=true:=by simp[d]
   have m:Hid (decide (f<b)=p):=l n d;clear d k l j;go_wp2_with fail;go_ret;exact⟨congrArg (λa=>Ending.returned (.bool a)) m,by repeat(first|exact aM _ _|apply JA|apply xE)⟩
  .by_cases d:c=g
   .have q:(c != g)=false:=by simp[d]
    have o:Hid (c=g):=d;clear d k l j;go_wp2_with fail;go_round
    case rel=>exact Or.inr (Or.inr (Or.inr ⟨rfl,n,r,o⟩))
    case measure=>simp[intOf]
   have q:(c != g)=true:=by simp[d]
   have m:Hid (decide (g<c)=p):=j n r;clear d k l j;go_wp2_with fail;go_ret;exact⟨congrArg (λa=>Ending.returned (.bool a)) m,by repeat(first|exact aM _ _|apply JA|apply xE)⟩
  have m:p=false:=by
   have:=j n r;rw[v.out]at this;simpa using this.symm
  have w:Hid (p=false):=m;clear m k l j;go_wp2_with fail;go_ret;exact⟨by rw[w.out];rfl,by repeat(first|exact aM _ _|apply JA|apply xE)⟩
def Ih (a c b d:Int)(p:a<=9223372036854775807)(r:c<=9223372036854775807)(q:b<=9223372036854775807)(s:d<=9223372036854775807)(j:W):Calls prog 249 #[I a,I c,I b,I d] j λf e=>f=.returned (.bool (Bz a c b d))/\j.grownBy e none:=by
 by_cases g:c<=0
 .have e:Bz a c b d=false:=by unfold Bz;rw[Q9 g]
  rw[e];clear e;go_enter func249,ntmps249;go_wp2_with fail;go_ret;exact⟨rfl,aM _ _⟩
 by_cases i:d<=0
 .have e:Bz a c b d=true:=by unfold Bz;rw[X9 g,Q9 i]
  rw[e];clear e;go_enter func249,ntmps249;go_wp2_with fail;go_ret;exact⟨rfl,aM _ _⟩
 have e:Bz a c b d=decide (nM b*nM b*c<nM a*nM a*d):=by unfold Bz;rw[X9 g,X9 i]
 rw[e];clear e;go_enter func249,ntmps249;go_wp2_with fail;refine(Mh a d p gO s _).mono ?_;rintro f P ⟨t,u,v,J,M,⟨T,U,z,B,C,D⟩,k,rfl,rfl⟩;have n:Hid _:=k;go_wp2_with fail;refine(Mh b c q gO r _).mono ?_;rintro f Q ⟨w,x,y,K,O,⟨X,Y,E,F,G,H⟩,l,rfl,rfl⟩;have o:Hid _:=l;go_wp2_with fail;refine(ab9 t u v w x y z B C D E F G H _).mono ?_;rintro f R ⟨rfl,m⟩;go_wp2_with fail;go_ret;refine⟨congrArg (λa=>Ending.returned (.bool a)) ?_,ay (xE (xE (aM _ _))) m⟩;rw[<-n.out,<-o.out];rfl
def am_ (f:World)(e:Nat)(d:Array Value)(c:Nat->Bool)(V:Nat->L)(N:Nat):Prop:=
 ∀(a:Nat) (b:World),20<=a->a<=79->f.grownBy b none->
  Calls prog e (#[I (a:Int)]++d) b λf e=>∃d,f=.returned (.tuple #[d,I (if c a=true then 0 else 1)])/\b.grownBy e none/\(c a=true->aY e d (V a)/\(V a).length=N/\aL (V a)=true)
def Ry (b:Nat->Bool):Bool:=(List.range 60).all λa=>b (20+a)
def aip (b:Nat->Bool)(a:Nat)(d:a<60)(c:b (20+a)=false):Ry b=false:=by unfold Ry;rw[List.all_eq_false];exact⟨a,List.mem_range.2 d,by rw[c];simp⟩
def afq (b:Nat->Bool)(c:∀a,a<60->b (20+a)=true):Ry b=true:=by unfold Ry;rw[List.all_eq_true];exact λa b=>c a (List.mem_range.1 b)
def yE (a b c d:Int):V:=.tuple #[.agg (aF [a,b,c]),I d]
def Mi (c:Nat->Bool)(a b:Nat->Int):V:=
 if Ry c=true then yE ((kE a b 60).1:Int) (kE a b 60).2.1 (kE a b 60).2.2 0 else yE 0 0 0 1
def afr (b c:W)(a:Nat×Int×Int):Prop:=bY c b.heap.size 229 [0,0,0]/\bY c (b.heap.size+1) 229 [(a.1:Int),a.2.1,a.2.2]/\b.grownBy c none
def afr.aC {c:Nat×Int×Int}(b:afr w w' c)(a:w'.grownBy u none):afr w u c:=⟨b.1.aC a,b.2.1.aC a,ay b.2.2 a⟩
def alr:(prog.info? 229).map (·.size)=some 3:=by kernel_rfl
def Sz {e f:Int}(d:bY w n T [i,e,f])(a b c:Int):bY (((w.setCell (A n 0) (I a)).setCell (A n 1) (I b)).setCell (A n 2) (I c)) n T [a,b,c]/\w.grownBy (((w.setCell (A n 0) (I a)).setCell (A n 1) (I b)).setCell (A n 2) (I c)) (some n):=
 ⟨((d.set 0 a).set 1 b).set 2 c,bT (bT (aD w (A n 0) _) (aD _ (A n 1) _) (some n) (λc a b=>a) (λc a b=>a)) (aD _ (A n 2) _) (some n) (λc a b=>a) (λc a b=>a)⟩
def YP (t:L)(N:Nat)(hN:t.length=N)(ah:N<=100)(rt:aL t=true)(F:Nat)(ab:Array Value)(k:Nat->Bool)(V:Nat->L)(e f:Nat->Int)
 (E:∀a,k a=true->e a=fU t (V a) N) (hE:∀a,k a=true->f a=fU (V a) (V a) N) (bC:∀a,e a<=107374182400) (bE:∀a,f a<=107374182400)
 (vt:Value) (m:World) (am:∀b c,(callFunc F b).run prog c=.ok (.enter F b) c) (HV:am_ m F ab k V N) (ht:aY m vt t) :
 Calls prog 223 #[vt,.func (.func F) #[] ab] m λr b=>r=.returned (Mi k e f)/\m.grownBy b none:=by
 generalize ai:Mi k e f=RV;have aa:=Zd ai;have M0:=Zs (afr m ((m.alloc (.cells (aF [0,0,0]) 229)).alloc (.cells (aF [20,0,0]) 229)) (20,0,0)) (nI m 229 229 [0,0,0] [20,0,0]);have HT:=Zd ht;have af:=Zd HV;have BD:=Zd<|aaw e f 107374182400 gO bC bE;have HC:=Zd E;have HE:=Zd hE;have Q:=Zd rt;have R:=Zd hN;have w:=Zd ah;rw[show aF [0,0,0]=#[I 0,I 0,I 0]from rfl,show aF [20,0,0]=#[I 20,I 0,I 0]from rfl]at M0;go_enter func223,ntmps223;go_wp2_with fail;generalize (m.alloc (.cells #[I 0,I 0,I 0] 229)).alloc _=W0 at *
 go_loopw [7] (λc wr=>∃a d:Nat,c=I a/\Hid (a=20+d)/\20<=a/\a<=80/\Hid (∀b,b<d->k (20+b)=true)/\Hid (afr m wr (kE e f d))) (λc _=>80-(intOf c).toNat)
 case atStart=>exact⟨20,0,rfl,rfl,gO,gO,λb c=>gO,M0⟩
 case round=>
  obtain⟨a,d,rfl,q,al,an,ac,i⟩:=hrel;by_cases hk:a<80
  .have ag:d<60:=by have:=q.out;omega
   have D:=Zd<|af a wr al gO i.2.2;have i1:(a:Int)<=79:=gO;have⟨q1,q2,q3,q4⟩:=BD d;have ad:=Zd λ(p:k a=false)=>aip k d ag (by rw[<-q.out];exact p);have ae:=Zd (λ(p:k a=true)=>(show ∀b,b<d+1->k (20+b)=true from λb c=>by
    by_cases c:b=d
    .subst c;rw[<-q.out];exact p
    exact ac b gO))
   have P:=Zd λb=>Ji e f d b;have C:=Zd λb=>Te e f d b;rw[<-q.out]at P C;have EC:=Zd<|HC a;have EE:=Zd<|HE a;rcases hok:k a with _|_
   .rw[hok]at D;have H:=Zd<|ad hok;go_wp2_with fail;refine D.mono ?_;rintro r w2 ⟨G,rfl,X,_⟩;rw[X9 (by simp)];have g:=Zd<|i.aC X;have x:=g.1.cell 0 (by simp);have y:=g.1.cell 1 (by simp);have z:=g.1.cell 2 (by simp);rw[show aB [(0:Int),0,0] 0=0 from rfl]at x;rw[show aB [(0:Int),0,0] 1=0 from rfl]at y;rw[show aB [(0:Int),0,0] 2=0 from rfl]at z;have y0:=g.1.free 0;have y1:=g.1.free 1;have y2:=g.1.free 2;have n:=Zd<|Sz g.1 0 0 0;have O:=Zd g.2.2;go_wp2_with fail;(try simp only[Exit.inBlock,Exit.then]);have Z:=kU n.1 alr;refine QB (v:=yE 0 0 0 1) ?_ rfl ?_
    .simp[results,results223,asAddr,Act.put,Z,yE]
    exact⟨by rw[<-aa.out];unfold Mi;rw[H.out];rfl,aG O n.2 (Q6 _)⟩
   rw[hok]at D;have M:=Zd<|ae hok;have J:=Zd<|EC hok;have K:=Zd<|EE hok;generalize e a=o at *
   generalize f a=u at *
   go_wp2_with fail;refine D.mono ?_;rintro r w2 ⟨G,rfl,X,hv⟩;rw[Q9 trivial];have⟨iv,lv,s⟩:=hv trivial;have g:=Zd<|i.aC X;have D1:=Zd<|zK vt G t (V a) w2 (aR HT g.2.2) iv (by rw[lv,R.out];exact Q6 _) (by rw[R.out];exact w) Q s;have D2:=Zd<|zK G G (V a) (V a) w2 iv iv (Q6 _) (by rw[lv];exact w) s s;rw[R.out,<-J.out]at D1;rw[lv,<-K.out]at D2;have cB:o<=107374182400:=by rw[J.out];have:=n_ t (V a) Q s N;have:=w.out;omega
   have cA:-107374182400<=o:=by rw[J.out];have:=n_ t (V a) Q s N;have:=w.out;omega
   have eB:u<=107374182400:=by rw[K.out];have:=n_ (V a) (V a) s s N;have:=w.out;omega
   have eA:0<=u:=by rw[K.out];exact Fp (V a) N
   go_wp2_with fail;refine D1.mono ?_;rintro r w3 ⟨rfl,rfl⟩;go_wp2_with fail;refine D2.mono ?_;rintro r w4 ⟨rfl,rfl⟩;generalize kE e f d=p3 at *
   have⟨j,b,c⟩:=p3;dsimp only at q1 q2 q3 q4 P C;have T:=g.2.1.cell 1 (by simp);have U:=g.2.1.cell 2 (by simp);rw[show aB [((j,b,c):Nat×Int×Int).1,b,c] 1=b from rfl]at T;rw[show aB [((j,b,c):Nat×Int×Int).1,b,c] 2=c from rfl]at U;have B:=Zd<|Ih o u b c gO gO gO gO w4;by_cases E:0<o
   .rcases p:Bz o u b c with _|_
    .rw[p]at B;have v:=Zd<|C (λs=>by rw[p]at s;cases s.2);go_wp2_with fail;refine B.mono ?_;rintro r w7 ⟨rfl,Y⟩;have l:=Zd<|g.aC Y;go_wp2;go_roundw
     case rel=>exact⟨a+1,d+1,by go_num,by have:=q.out;show a+1=20+(d+1);omega,gO,gO,M,by rw[v.out];exact l⟩
     case measure=>simp[intOf];omega
    rw[p]at B;have v:=Zd<|P ⟨E,p⟩;go_wp2_with fail;refine B.mono ?_;rintro r w7 ⟨rfl,Y⟩;have l:=Zd<|g.aC Y;have x:=l.2.1.cell 0 (by simp);have y:=l.2.1.cell 1 (by simp);have z:=l.2.1.cell 2 (by simp);rw[show aB [(((j,b,c):Nat×Int×Int).1:Int),b,c] 0=(j:Int)from rfl]at x;rw[show aB [(((j,b,c):Nat×Int×Int).1:Int),b,c] 1=b from rfl]at y;rw[show aB [(((j,b,c):Nat×Int×Int).1:Int),b,c] 2=c from rfl]at z;have y0:=l.2.1.free 0;have y1:=l.2.1.free 1;have y2:=l.2.1.free 2;have n:=Sz l.2.1 (a:Int) o u;have M8:=Zs (afr m _ (a,o,u)) (⟨l.1.aH n.2 gO,n.1,aG l.2.2 n.2 gO⟩);go_wp2;go_roundw
    case rel=>exact⟨a+1,d+1,by go_num,by have:=q.out;show a+1=20+(d+1);omega,gO,gO,M,by rw[v.out];exact M8⟩
    case measure=>simp[intOf];omega
   have v:=Zd<|C (λs=>absurd s.1 E);have l:o<=0:=gO;go_wp2;go_roundw
   case rel=>exact⟨a+1,d+1,by go_num,by have:=q.out;show a+1=20+(d+1);omega,gO,gO,M,by rw[v.out];exact g⟩
   case measure=>simp[intOf];omega
  obtain rfl:a=80:=gO;obtain rfl:d=60:=by have:=q.out;omega
  have H:=Zd<|afq k ac;have g:=Zs (Mi k e f=yE ((kE e f 60).1:Int) (kE e f 60).2.1 (kE e f 60).2.2 0) (by unfold Mi;rw[H.out];rfl);generalize kE e f 60=p3 at *
  have⟨j,b,c⟩:=p3;have l:=i.2.1.cell 0 (by simp);have T:=i.2.1.cell 1 (by simp);have U:=i.2.1.cell 2 (by simp);rw[show aB [(((j,b,c):Nat×Int×Int).1:Int),b,c] 0=(j:Int)from rfl]at l;rw[show aB [(((j,b,c):Nat×Int×Int).1:Int),b,c] 1=b from rfl]at T;rw[show aB [(((j,b,c):Nat×Int×Int).1:Int),b,c] 2=c from rfl]at U;have x:=i.1.cell 0 (by simp);have y:=i.1.cell 1 (by simp);have z:=i.1.cell 2 (by simp);rw[show aB [(0:Int),0,0] 0=0 from rfl]at x;rw[show aB [(0:Int),0,0] 1=0 from rfl]at y;rw[show aB [(0:Int),0,0] 2=0 from rfl]at z;have y0:=i.1.free 0;have y1:=i.1.free 1;have y2:=i.1.free 2;have n:=Zd<|Sz i.1 (j:Int) b c;have O:=Zd i.2.2;rw[show((80:Nat):Int)=80 from rfl];go_wp2_with fail;(try simp only[Exit.inBlock,Exit.then]);have Z:=kU n.1 alr;refine QB (v:=yE (j:Int) b c 0) ?_ rfl ?_
  .simp[results,results223,asAddr,Act.put,Z,yE]
  exact⟨by rw[<-aa.out,g.out],aG O n.2 (Q6 _)⟩
def afs (a:W)(b:Nat)(c:b<=a.heap.size):fO b (a.alloc (.cells #[] 3)) (.slice (S a.heap.size) 0 0) []:=
 ⟨rfl,.inr ⟨a.heap.size,0,#[],rfl,c,dF a _,Q6 _,by unfold maxLen;omega,rfl,rfl⟩⟩
def UW (c:Addr)(d:Nat)(a:L)(b:W)(j:aY b (.slice (some c) a.length d) a)(n:a.length<=1000):Calls prog 224 #[.slice (some c) a.length d] b λg f=>∃e,g=.returned e/\aY f e a/\b.grownBy f none:=by
 have f:=Zd j;have o:∀e,Sem.run prog (binOp BinOp.eql 26 (.slice (some c) a.length d) N) e=.ok (.bool false) e:=λ_=>by kernel_rfl
 go_enter func224,ntmps224;go_wp2_with (at_builtin;refine dH (by rfl) _ _ rfl b.heap.size (.slice (S b.heap.size) 0 0) (.slice (some c) a.length d) [] a rfl rfl (afs b _ (Q6 _)) (aR f (aj _ _ none)) (.inr ⟨_,_,rfl⟩) (by simp;omega) (by simp) ?_);intro l m k i;have g:=Zs (aY m l a) (k.ints);have e:=Zd<|gV (aj b (.cells #[] 3) none) i (λa a=>by simp[Value.ownBlock]at a;omega);go_wp2_with fail;go_ret;exact⟨_,rfl,g,e⟩
def vX (b c:Addr)(a:W):CallsD prog 250 #[.pointer (some b),.pointer (some c)] .returning a λb c d=>b=.returned (.tuple #[])/\c=.returning/\d=a:=by refine callsD_of_wpS func250 rfl λa₀ b b=>?_;apply wpS_seq;apply wpS_region;simp[wpOpsS,go_sem,recoverD,b,ntmps250,Exit.thenS];refine wpS_cond (t:=false) (by simp[Act.eval,Array.replicate]) ?_;simp only[Bool.false_eq_true,if_false];refine wpS_of_wp (wp_skip ?_);cases a₀;simp_all [bodyPostS,results,results250]
def Mj {c:Addr}{y:V}(i:aY w x l)(f:w.cell? c=some v')(a:(∀b,v'≠I b)\/v'=y):aY (w.setCell c y) x l:=by
 obtain⟨g,h,rfl,j,k⟩:=i;refine⟨g,h,rfl,j,λb=>?_⟩;obtain⟨d,rfl,m⟩:=k b;refine⟨d,rfl,λg e=>?_⟩;have b:=m g e;by_cases e:d.add g=c
 .rw[e]at b ⊢;rw[f]at b;cases b;rcases a with a|a
  .exact absurd rfl (a _)
  rw[<-a];exact World.cell?_setCell_same' w c _ (by rw[f];rfl)
 rw[World.cell?_setCell_other (h:=λv'=>e v'.symm)];exact b
def Mk (e:W)(a:L)(d:Ending)(c:W):Prop:=∃b,d=.returned (.tuple #[b,I (if kg a=true then 0 else 1)])/\e.grownBy c none/\(kg a=true->aY c b a)
def OY (t:Nat)(K:Array V)(w:L->L)(u:V)(f:L)(a:W)(ae:∀b c,(callFunc t b).run prog c=.ok (.enter t b) c)(HF:Folds a t K w)(aa:aY a u f)(ab:rD u f)(hl:f.length=40)(i:aL f=true):Calls prog 226 #[.func (.func t) #[] K,u] a (Mk a (w f)):=by
 have af:∀(P:Fn) (first O:Array V) (a:W),(Instr.makeFunc P first O).run prog a=.ok (.func P first O) a:=λ_ _ _ _=>rfl;have B:a.grownBy ((a.alloc (.cells #[N] 26)).alloc (.cells #[I 0] 31)) none:=ay (aj _ _ none) (aj _ _ none);have o:((a.alloc (.cells #[N] 26)).alloc (.cells #[I 0] 31)).heap[a.heap.size]?=some (.cells #[N] 26 (0,0)):=((aj _ _ none).block _ (by simp) (by simp)).trans (dF a _);have p:((a.alloc (.cells #[N] 26)).alloc (.cells #[I 0] 31)).heap[a.heap.size+1]?=some (.cells #[I 0] 31 (0,0)):=by
  have:=dF (a.alloc (.cells #[N] 26)) (.cells #[I 0] 31);simpa using this
 have U:=Zd<|HF _ u f B (aR aa B) ab hl i;have X:=Zd B;have G:=Zd o;have H:=Zd p;generalize w f=b at *
 have J:=Zd λ(d:W) (c:V) (s:kg b=false) (gr:a.grownBy d none)=>(show Mk a b (.returned (.tuple #[c,I 1])) d from⟨c,by rw[s];rfl,gr,λe=>by rw[s]at e;cases e⟩);have YG:=Zd λ(d:W) (c:V) (s:kg b=true) (gr:a.grownBy d none) (iv:aY d c b)=>(show Mk a b (.returned (.tuple #[c,I 0])) d from⟨c,by rw[s];rfl,gr,λ_=>iv⟩);generalize Mk a b=ac at *
 go_enter_defers func226,ntmps226;go_wp2_with fail;generalize (a.alloc (.cells #[N] 26)).alloc _=W0 at *
 refine U.mono ?_;rintro m e ⟨g,rfl,Q,l1,C⟩;have o:=(C.block _ (aO G) (by simp)).trans G;have p:=(C.block _ (aO H) (by simp)).trans H;have M:e.cell? (A a.heap.size 0)=some N:=(aI o 0).trans rfl;have z4:=bA o 0;have c5:e.cell? (A (a.heap.size+1) 0)=some (I 0):=(aI p 0).trans rfl;have z5:=bA p 0;have Y:=Zd<|ay X C;have z:=Zd<|Mj (y:=g) Q M (.inl (λf=>by simp));have x:=Zd<|aG Y (aD e (A a.heap.size 0) g) (Q6 _);have l:(e.setCell (A a.heap.size 0) g).cell? (A a.heap.size 0)=some g:=World.cell?_setCell_same' e _ _ (by rw[M];rfl);have r:(e.setCell (A a.heap.size 0) g).cell? (A (a.heap.size+1) 0)=some (I 0):=by rw[World.cell?_setCell_other (h:=by simp)];exact c5
 have E:(e.setCell (A a.heap.size 0) g).frozen? (A a.heap.size 0)=false:=by rw[World.frozen?_setCell];exact z4
 have F:(e.setCell (A a.heap.size 0) g).frozen? (A (a.heap.size+1) 0)=false:=by rw[World.frozen?_setCell];exact z5
 obtain⟨n,q,rfl,hc,_⟩:=Q;have j:=Zd<|mY _ b _ z l1;go_upto_region 3 with fail;generalize ag:e.setCell (A a.heap.size 0) (.slice n b.length q)=v at *
 by_cases D:b.length=40
 .rw[D]at j z l ⊢;rcases i:aL b with _|_
  .rw[i]at j;have k:=Zd λd c gr=>J d c (by unfold kg;rw[i];simp) gr;have y:=Zd<|aG (aG x (aD v (A a.heap.size 0) N) (Q6 _)) (aD _ (A (a.heap.size+1) 0) (I 1)) (by simp);go_wp2_with fail;refine j.mono ?_;rintro m w3 ⟨rfl,rfl⟩;go_wp2_with fail;refine leaves_cons (f:=250) (args:=#[.pointer (S a.heap.size),.pointer (S (a.heap.size+1))]) (by simp) (by simp[go_sem]) ?_;refine(vX _ _ _).mono ?_;rintro m R T ⟨rfl,rfl,rfl⟩;simp[Leaves,settle,results,results226,go_sem,l,r,E,F];exact k _ _ y
  rw[i]at j;have Z:=aG x (aD v (A a.heap.size 0) (.slice n 40 q)) (Q6 _);have IA:=Mj (y:=.slice n 40 q) z l (.inr rfl);have d6:(v.setCell (A a.heap.size 0) (.slice n 40 q)).cell? (A (a.heap.size+1) 0)=some (I 0):=by rw[World.cell?_setCell_other (h:=by simp)];exact r
  have k:=Zd<|YG _ _ (by unfold kg;rw[i,D];rfl) (aG Z (aD _ (A (a.heap.size+1) 0) (I 0)) (by simp)) (Mj (y:=I 0) IA d6 (.inr rfl));go_wp2_with fail;refine j.mono ?_;rintro m w3 ⟨rfl,rfl⟩;go_wp2_with fail;refine leaves_cons (f:=250) (args:=#[.pointer (S a.heap.size),.pointer (S (a.heap.size+1))]) (by simp) (by simp[go_sem]) ?_;refine(vX _ _ _).mono ?_;rintro m R T ⟨rfl,rfl,rfl⟩;simp[Leaves,settle,results,results226,go_sem,l,r,E,F];exact k
 have k:=Zd λd c gr=>J d c (by unfold kg;simp[D]) gr;have Z:¬(b.length:Int)=40:=gO;have y:=Zd<|aG (aG x (aD v (A a.heap.size 0) N) (Q6 _)) (aD _ (A (a.heap.size+1) 0) (I 1)) (by simp);go_wp2_with fail;refine leaves_cons (f:=250) (args:=#[.pointer (S a.heap.size),.pointer (S (a.heap.size+1))]) (by simp) (by simp[go_sem]) ?_;refine(vX _ _ _).mono ?_;rintro m R T ⟨rfl,rfl,rfl⟩;simp[Leaves,settle,results,results226,go_sem,l,r,E,F];exact k _ _ y
def UY (a:Array V)(b:W):(callFunc 225 a).run prog b=.ok (.enter 225 a) b:=by kernel_rfl
def UZ (v u:Nat)(a:L)(D:a.length=80)(F:aL a=true)(d:Nat)(l:Array V)(f:L->L)(b:Nat)(x:20<=b)(y:b<=79)(c:W)(z:bY c v 51 a)(C:c.cell? (A u 0)=some (.func (.func d) #[] l))
 (B:∀e g,(callFunc d e).run prog g=.ok (.enter d e) g) (s:Folds c d l f) :
 Calls prog 225 #[I (b:Int),.pointer (S v),.pointer (S u)] c (Mk c (f (kW a b))):=by
 have k:=Zd<|vG a D (b:Int) c;rw[(uh a b x y).1,(uh a b x y).2]at k;have q:=Zd λ(n:V) (e:W) (m:c.grownBy e none) (Q:aY e n (kW a b)) (T:rD n (kW a b))=>OY d l f n (kW a b) e B (λj i g d=>s j i g (ay m d)) Q T (mR a b) (xP a b F);have o:=Zd z;have t:=Zd λ(e:W) (m:c.grownBy e none)=>aU m C;have E:=mR a b;have K:=Zd E;clear B s z F E C;generalize f (kW a b)=g at *
 generalize kW a b=P at *
 go_enter func225,ntmps225;go_wp2_with (first|refine lA o (by rw[D];exact aki) ?_);refine k.mono ?_;rintro O J ⟨U,rfl,j,i⟩;have p:=Zd<|q U J i j.ints j.xJ;have r:=Zd i;have R:=t J i;clear q k o t i;obtain⟨gb,Z,rfl,_,_,_⟩:=j.form (by rw[K.out];omega);clear j;go_wp2_with fail;refine p.mono ?_;rintro O X ⟨H,rfl,w,G⟩;have M:=Zs (Mk c g (.returned (.tuple #[H,I (if kg g=true then 0 else 1)])) X) (⟨H,rfl,ay r w,G⟩);clear p w G r R;generalize (if kg g=true then(0:Int)else 1)=en at *
 generalize Mk c g=Y at *
 go_wp2_with fail;exact M
def Rz (a b:W)(c:L)(d:V):Prop:=bY b a.heap.size 51 c/\b.heap[a.heap.size+1]?=some (.cells #[d] 45 (0,0))/\a.grownBy b none
def Gq (b:W)(a:L)(c:V):Rz b ((b.alloc (.cells (aF a) 51)).alloc (.cells #[c] 45)) a c:=
 ⟨(bY.new b 51 a).aC (aj _ _ none),by
  have:=dF (b.alloc (.cells (aF a) 51)) (.cells #[c] 45);simpa using this,ay (aj _ _ none) (aj _ _ none)⟩
def Rz.aC (a:Rz w w' l x)(b:w'.grownBy u none):Rz w u l x:=⟨a.1.aC b,(b.block _ (aO a.2.1) (by simp)).trans a.2.1,ay a.2.2 b⟩
def Rz.mE (c:Rz w w' l x)(a:l.length=80):aY w' (.slice (S w.heap.size) 80 80) l:=by refine⟨some (A w.heap.size 0),80,by rw[a],gO,λ_=>⟨_,rfl,λb a=>?_⟩⟩;rw[Addr.add_mid,WT];exact c.1.cell b a
def YQ (a c:L)(O:a.length=80)(g:Nat)(j:Array V)(b:L->L)(y:V)(e:W)(M:∀d f,(callFunc g d).run prog f=.ok (.enter g d) f)(F:Folds e g j b)(Q:aY e y c)(u:c.length=40)(q:aL c=true)(x:aL a=true):Calls prog 182 #[.agg (aF a),.func (.func g) #[] j,y] e λk n=>k=.returned (if kV b a=true then zw (kE (om c b a) (oq b a) 60)else .tuple #[I 0,I 0,I 0,I 1])/\e.grownBy n none:=by
 have aa:∀(J:Fn) (first H:Array V) (e:W),(Instr.makeFunc J first H).run prog e=.ok (.func J first H) e:=λ_ _ _ _=>rfl;have i:=Zd<|Gq e a (.func (.func g) #[] j);have v:=aR Q i.2.2;have p:=Zd<|mY y c _ v gO;have s:=Zd<|mY _ a _ (i.mE O) gO;rw[q]at p;rw[x]at s;have ab:=Dr (.func g) #[] j;obtain⟨ad,Y,rfl,Z,G⟩:=Q;obtain⟨X,rfl,_⟩:=G gO;have r:=Zd<|UW X Y c _ v gO;have l:=Zd (λ(T:V) (z:W) (t:((e.alloc (.cells (aF a) 51)).alloc (.cells #[.func (.func g) #[] j] 45)).grownBy z none) (iv:aY z T c)=>
  YP c 40 u gO q 225 #[.pointer (S e.heap.size),.pointer (S (e.heap.size+1))] (λd=>kg (b (kW a d))) (λd=>b (kW a d)) (om c b a) (oq b a)
   (λd f=>by unfold om;rw[q,show kg (b (kW a d))=true from f];rfl) (λd f=>by unfold oq;rw[Q9 f]) (λd=>by have:=aaL c b a d;omega) (λd=>by have:=aaM b a d;omega) T z UY
   (λd y o w m=>(UZ e.heap.size (e.heap.size+1) a O x g j b d o w y ((i.aC t).aC m).1 ((aI ((i.aC t).aC m).2.1 0).trans rfl) M (λo j g e=>F o j g (ay ((i.aC t).aC m).2.2 e))).mono
    (λk n ⟨m,e,g,j⟩=>⟨m,e,g,λf=>⟨j f,(uE f).1,(uE f).2⟩⟩)) iv)
 have C:(if kV b a=true then zw (kE (om c b a) (oq b a) 60)else .tuple #[I 0,I 0,I 0,I 1])=(if kV b a=true then .tuple #[I ((kE (om c b a) (oq b a) 60).1:Int),I (kE (om c b a) (oq b a) 60).2.1,I (kE (om c b a) (oq b a) 60).2.2,I 0]else .tuple #[I 0,I 0,I 0,I 1]:V):=rfl;rw[C];obtain⟨m,n,o,w,f,P⟩:∃m n o w:Int,Mi (λd=>kg (b (kW a d))) (om c b a) (oq b a)=yE m n o w/\(if kV b a=true then .tuple #[I ((kE (om c b a) (oq b a) 60).1:Int),I (kE (om c b a) (oq b a) 60).2.1,I (kE (om c b a) (oq b a) 60).2.2,I 0]else .tuple #[I 0,I 0,I 0,I 1]:V)=.tuple #[I m,I n,I o,I w]:=by
  unfold Mi;rw[show Ry (λd=>kg (b (kW a d)))=kV b a from rfl];by_cases d:kV b a=true
  .rw[Q9 d,Q9 d];exact⟨_,_,_,_,rfl,rfl⟩
  rw[X9 d,X9 d];exact⟨_,_,_,_,rfl,rfl⟩
 rw[P];rw[f]at l;unfold yE at l;rw[show aF [m,n,o]=#[I m,I n,I o]from rfl]at l;have D:=Zd i.2.2;rw[u]at p r ⊢;clear C f P F M v Z G q x u i;go_enter func182,ntmps182;go_wp2_with fail;refine p.mono ?_;rintro k w1 ⟨rfl,rfl⟩;go_wp2_with fail;refine s.mono ?_;rintro k w1 ⟨rfl,rfl⟩;clear p s ab;go_wp2_with fail;refine r.mono ?_;rintro k w2 ⟨v2,rfl,R,d⟩;have B:=Zd<|l v2 w2 d R;have E:=Zd<|ay D d;clear r l d D;obtain⟨ac,c2,rfl,_,_⟩:=R;go_wp2_with fail;refine B.mono ?_;rintro k w3 ⟨rfl,K⟩;have U:=Zd<|ay E K;clear B E K aa;go_wp2_with fail;go_quiet (fail);go_wp2_with fail;(try simp only[Exit.inBlock,Exit.then]);refine QB (jl rfl _ _ _) rfl ?_;exact⟨rfl,ay (ay U (aj _ _ none)) (dY _ _ none)⟩
def YU (b:L):L:=f_ 40 (λa=>fA (aB b a))
def YV (a:L):(YU a).length=40:=cK _ _
def Ml (s:V)(c:L)(b:W)(o:aY b s c)(j:c.length=40):Calls prog 258 #[s] b λm a=>m=.returned (.slice (S b.heap.size) 40 40)/\bY a b.heap.size 3 (YU c)/\b.grownBy a none:=by
 have g:=Zd λwr (x:b.grownBy wr none)=>aR o x;have l:=Zs (bY (b.alloc (.cells (aF (au 40)) 3)) b.heap.size 3 (au 40)/\b.grownBy (b.alloc (.cells (aF (au 40)) 3)) none) (⟨bY.new b 3 (au 40),aj _ _ none⟩);obtain⟨F,H,rfl,z,_⟩:=o;rw[j]at g ⊢;have r:=gU 40 gO;rw[show((40:Nat):Int)=40 from rfl]at r;have k:=Zd j;clear z j;go_enter func258,ntmps258;go_wp2_with fail;clear r;generalize b.alloc (.cells (aF (au 40)) 3)=D at *
 go_loopw [11] (λd wr=>∃(a:Nat) (e:L),d=I a/\a<=40/\Hid (jF 40 (λd=>fA (aB c d)) a e)/\Hid (bY wr b.heap.size 3 e/\b.grownBy wr none)) (λd _=>40-(intOf d).toNat)
 case atStart=>exact⟨0,au 40,rfl,QN _,iP 40 _,l⟩
 case round=>
  obtain⟨a,e,rfl,P,f,d⟩:=hrel;clear l;by_cases v:a<40
  .have B:e.length=40:=f.1;have C:=g wr d.2;have⟨G,J,n,y,p⟩:=C;simp only[Value.slice.injEq]at n;obtain⟨rfl,w,rfl⟩:=n;clear w;obtain⟨E,rfl,q⟩:=p (by rw[k.out];omega);have M:=q a (by rw[k.out];omega);have K:=d.1.cell a gO;have O:=d.1.free a;have t:=Zd<|eD f v;have u:=Zs (bY (wr.setCell (A b.heap.size a) (I (fA (aB c a)))) b.heap.size 3 (e.set a (fA (aB c a)))/\b.grownBy (wr.setCell (A b.heap.size a) (I (fA (aB c a)))) none) (⟨d.1.set a _,aG d.2 (aD wr (A b.heap.size a) _) (Q6 _)⟩);have Q:(a:Int)<40:=gO;have i:=Zd<|tT (aB c a) wr;clear f d B y p q g;generalize fA (aB c a)=Y at *
   generalize o16 (aB c a)=R at *
   generalize aB c a=X at *
   generalize aB e a=T at *
   go_wp2_with fail;refine i.mono ?_;rintro m U ⟨rfl,rfl⟩;clear i;go_wp2_with fail;go_roundw
   case rel=>exact⟨a+1,_,by go_num,gO,t,u⟩
   case measure=>simp[intOf];omega
  obtain rfl:a=40:=gO;have n:=Zs (e=YU c) (fB f);have i:=Zd d;clear f d g;go_wp2_with fail;go_ret;rw[n.out]at i;exact⟨rfl,i.1,i.2⟩
def EnM (a b:W)(d:L)(c:Nat)(e:L):Prop:=bY b a.heap.size 3 d/\bY b c 257 e/\a.heap.size<c/\a.grownBy b none
def EnM.set (a:EnM w w' l n p)(b:Nat)(c:Int):EnM w (w'.setCell (A n b) (I c)) l n (p.set b c):=
 ⟨a.1.aH (aD w' (A n b) _) (by have:=a.2.2.1;simp;omega),a.2.1.set b c,a.2.2.1,aG a.2.2.2 (aD w' (A n b) _) (by have:=a.2.2.1;simp;omega)⟩
def EnM.aC (a:EnM w w' l n p)(b:w'.grownBy u none):EnM w u l n p:=⟨a.1.aC b,a.2.1.aC b,a.2.2.1,ay a.2.2.2 b⟩
def anH:(prog.info? 257).bind (·.zero)=some (.agg (aF (au 1600))):=by kernel_rfl
def I9 (G:V)(c:L)(p:W)(r:aY p G c)(hl:c.length=40):Calls prog 251 #[G] p λaa g=>∃l,aa=.returned (.pointer (some ⟨l,0,none⟩))/\bY g l 257 (tbl c)/\p.heap.size<=l/\p.grownBy g none:=by
 have Q:=Zd<|Ml G c p r hl;have RB:=Zd λa=>mq (aB c a);have F:=fT anH;clear r hl;go_enter func251,ntmps251;go_wp2_with fail;refine Q.mono ?_;rintro aa u ⟨rfl,D,g1⟩;have M:=Zs (EnM p (u.alloc (.cells (aF (au 1600)) 257)) (YU c) u.heap.size (au 1600)) (⟨D.aC (aj _ _ none),bY.new u _ _,D.lt,ay g1 (aj _ _ none)⟩);clear Q D g1;go_wp2_with fail;clear F;generalize u.alloc _=W0 at *
 generalize u.heap.size=l at *
 go_loopw [5,6] (λa _ wr=>∃(o:Nat) (f:L),a=I ((o:Int)-1)/\o<=40/\Hid (Y_ c o 0 f)/\Hid (EnM p wr (YU c) l f)) (λa _ _=>(intOf a+1).toNat)
 case atStart=>exact⟨40,au 1600,rfl,Q6 _,aew c,M⟩
 case round=>
  obtain⟨o,f,rfl,hn,d,e⟩:=hrel;clear M;by_cases ad:0<o
  .obtain⟨A,rfl⟩:∃A,o=A+1:=⟨o-1,gO⟩;rw[show(((A+1:Nat):Int)-1)=(A:Int) by omega];have hA:A<=39:=gO;have H:=Zd<|agz d;clear d hn ad;go_wp2_with fail;go_loopw [6] (λa wr=>∃(n:Nat) (f:L),a=I ((n:Int)-1)/\n<=40/\Hid (Y_ c A n f)/\Hid (EnM p wr (YU c) l f)) (λa _=>(intOf a+1).toNat)
   case atStart=>exact⟨40,f,rfl,Q6 _,H,e⟩
   case round=>
    obtain⟨n,f,rfl,hm,d,e⟩:=hrel;clear H;by_cases ac:0<n
    .obtain⟨b,rfl⟩:∃b,n=b+1:=⟨n-1,gO⟩;rw[show(((b+1:Nat):Int)-1)=(b:Int) by omega];have hD:b<=39:=gO;clear hm ac;have cx:=e.1.cell (39-A) (by rw[YV];omega);have cy:=e.1.cell (39-b) (by rw[YV];omega);rw[show aB (YU c) (39-A)=fA (aB c (39-A))from dP _ _ _ gO]at cx;rw[show aB (YU c) (39-b)=fA (aB c (39-b))from dP _ _ _ gO]at cy;have rl:=d.1;have y:=e.2.1.cell (A*40+b) gO;have E:=e.2.1.free (A*40+b);have⟨x1,x2⟩:=RB (39-A);have⟨y1,y2⟩:=RB (39-b);have⟨p1,p2⟩:=sF _ _ x1 x2 y1 y2;have s:=Zd<|agw c A b hA hD;have x:=Zd<|agx c A b;have m:=Zd<|e.set (A*40+b) (fA (aB c (39-A))*fA (aB c (39-b)));have w:=Zd<|aex gO gO d (fA (aB c (39-A))*fA (aB c (39-b)));have t:=Zd λa F=>ade gO gO d a F;have v:=Zd λ(r:A<39) (h':b<39)=>d.2 (A+1) (b+1) gO gO (.inl gO);have J1:(39:Int)-(A:Int)=((39-A:Nat):Int):=gO;have K1:(39:Int)-(b:Int)=((39-b:Nat):Int):=gO;have jb:((39-A:Nat):Int)<40:=gO;have kb:((39-b:Nat):Int)<40:=gO;have ab:(A:Int)<40:=gO;have db:(b:Int)<40:=gO;clear d e RB;generalize fA (aB c (39-A))=i at *
     generalize fA (aB c (39-b))=j at *
     generalize 39-A=J at *
     generalize 39-b=K at *
     generalize aB f (A*40+b)=an at *
     have U:=eG (J:Int) gO gO;have X:=eG (K:Int) gO gO;have Y:=eG (i*j) gO gO;go_upto_region 9 with fail;generalize am:wr=wy at *
     clear am;refine bW 17 (λg=>g=wy.drew) 18 (by rfl) _ rfl (by kernel_rfl) λa=>?_;refine eT 0 rfl a λa=>?_;refine eT 1 rfl a λa=>?_;refine eT 2 rfl a λa=>?_;refine eT 3 rfl a λa=>?_;refine eT 4 rfl a λa=>?_;refine iN (hy:=by intro g k;subst k;go_simp;try simp only[U]) (v:=I (J:Int)) 5 rfl a λa=>?_;refine eT 6 rfl a λa=>?_;refine eT (v:=I i) 7 rfl a λa=>?_;refine eT 8 rfl a λa=>?_;refine eT 9 rfl a λa=>?_;refine iN (hy:=by intro g k;subst k;go_simp;try simp only[X]) (v:=I (K:Int)) 10 rfl a λa=>?_;refine eT 11 rfl a λa=>?_;refine eT (v:=I j) 12 rfl a λa=>?_;refine iN (hy:=by intro g k;subst k;go_simp;try simp only[Y]) (v:=I (i*j)) 13 rfl a λa=>?_;refine eT 14 rfl a λa=>?_;refine eT 15 rfl a λa=>?_;refine eT 16 rfl a λa=>?_;refine jY 17 a λu p=>?_;(try simp only[sZ]);go_simp;go_wp2_with fail;refine p.out _ _ (λr=>by cases r) λa=>?_;clear p;(try simp only[sZ]);refine bI _ _ _ _ (by rfl) ?_;refine wm ?_;have q:=Zd<|m.aC (aS _);have z:=oD f (A*40+b) (i*j) gO;have B:=lF f (A*40+b) (i*j) ((A+1)*40+(b+1)) gO;generalize (wy.setCell ⟨l,A*40+b,none⟩ (I (i*j))).drew=wz at *
     clear m cx cy y E J1 K1 jb kb U X Y;by_cases h1:A<39
     .by_cases h2:b<39
      .have y:=q.2.1.cell (A*40+b) (by rw[XB];omega);have E:=q.2.1.free (A*40+b);have cn:=q.2.1.cell ((A+1)*40+(b+1)) (by rw[XB];omega);rw[z]at y;rw[B,v.out h1 h2]at cn;have P:=Zd<|x h1 h2;have⟨s1,s2⟩:=agy c (A+1) (b+1);have O:=Zd<|q.set (A*40+b) (i*j+Tq c (A+1) (b+1));have F2:=Zd<|ade gO gO w (i*j+Tq c (A+1) (b+1)) P.symm;clear v s x q P t w z B;generalize Tq c (A+1) (b+1)=C at *
       have i1:(A:Int)<39:=gO;have i2:(b:Int)<39:=gO;have af:(A:Int)+1<40:=gO;have ai:(b:Int)+1<40:=gO;have ae:(0:Int)<=(A:Int)+1:=gO;have ah:(0:Int)<=(b:Int)+1:=gO;have ag:((A:Int)+1).toNat=A+1:=gO;have al:((b:Int)+1).toNat=b+1:=gO;have R:=eG ((A:Int)+1) gO gO;have T:=eG ((b:Int)+1) gO gO;have Z:=eG (i*j+C) gO gO;go_upto_region 11 with fail;refine bW 20 (λg=>g=wz.drew) 21 (by rfl) _ rfl (by kernel_rfl) λa=>?_;refine eT 0 rfl a λa=>?_;refine eT 1 rfl a λa=>?_;refine eT 2 rfl a λa=>?_;refine eT 3 rfl a λa=>?_;refine eT 4 rfl a λa=>?_;refine eT 5 rfl a λa=>?_;refine eT (v:=I (i*j)) 6 rfl a λa=>?_;refine eT 7 rfl a λa=>?_;refine eT 8 rfl a λa=>?_;refine iN (hy:=by intro g k;subst k;go_simp;try simp only[R]) (v:=I ((A:Int)+1)) 9 rfl a λa=>?_;refine eT 10 rfl a λa=>?_;refine iN (hy:=by intro g k;subst k;go_simp;try simp only[T]) (v:=I ((b:Int)+1)) 11 rfl a λa=>?_;refine eT 12 rfl a λa=>?_;refine eT 13 rfl a λa=>?_;refine eT 14 rfl a λa=>?_;refine eT (v:=I C) 15 rfl a λa=>?_;refine iN (hy:=by intro g k;subst k;go_simp;try simp only[Z]) (v:=I (i*j+C)) 16 rfl a λa=>?_;refine eT 17 rfl a λa=>?_;refine eT 18 rfl a λa=>?_;refine eT 19 rfl a λa=>?_;refine jY 20 a λu p=>?_;(try simp only[sZ]);go_simp;go_wp2_with fail;refine p.out _ _ (λr=>by cases r) λa=>?_;clear p;(try simp only[sZ]);refine bI _ _ _ _ (by rfl) ?_;refine wm ?_;have a:=Zd<|O.aC (aS _);clear O cn y E R T Z ag al af ai ae ah;generalize (wz.setCell ⟨l,A*40+b,none⟩ (I (i*j+C))).drew=wu at *
       go_wp2_with fail;go_roundw
       case rel=>exact⟨b,_,rfl,gO,F2,a⟩
       case measure=>simp[intOf]
      have a:=Zd<|t _ (s (.inr gO)).symm;clear v s x t w z B;have i1:(A:Int)<39:=gO;have i2:¬(b:Int)<39:=gO;go_wp2_with fail;go_roundw
      case rel=>exact⟨b,_,rfl,gO,a,q⟩
      case measure=>simp[intOf]
     have a:=Zd<|t _ (s (.inl gO)).symm;clear v s x t w z B;have i1:¬(A:Int)<39:=gO;go_wp2_with fail;go_roundw
     case rel=>exact⟨b,_,rfl,gO,a,q⟩
     case measure=>simp[intOf]
    obtain rfl:n=0:=gO;have a:=d;have m:=e;clear d e hm ac;rw[show(((0:Nat):Int)-1)=-1 from rfl];go_wp2_with fail;go_roundw
    case rel=>exact⟨A,f,rfl,gO,a,m⟩
    case measure=>simp[intOf]
  obtain rfl:o=0:=gO;have a:=Zd<|ajh d;have m:=e;clear d e hn ad;rw[show(((0:Nat):Int)-1)=-1 from rfl];go_wp2_with fail;go_ret;rw[a.out]at m;exact⟨l,rfl,m.2.1,PN m.2.2.1,m.2.2.2⟩
def Pb {f:Array Oper}{rest:List Oper}(i:o.guard=none)(e:TypeId)(b:Nat)(d:Operand)(j:o.op=.build e #[(b,d)])(c g:V)(l:a.eval d=c)
 (k:Sem.run prog (Instr.build e #[(b,c)]) w=.ok g w) (m:wpList prog f Q rest (a.put o.dst g) w):wpList prog f Q (o::rest) a w:=by
 refine wpList_plain i λ_ e=>?_;unfold Oper.wp execOp;have h:(#[(b,d)]:Array (Nat×Operand)).map (λ(b,d)=>(b,a.eval d))=#[(b,c)]:=by simp[l]
 simp only[j,h,Sem.run_bind,k,Result.andThen_ok,Sem.run_pure];exact e _ _ m
def amr:(prog.info? 249).bind (·.zero)=some (.agg (aF (au 6))):=by kernel_rfl
def U5:(prog.info? 249).map (·.size)=some 6:=by kernel_rfl
def als (e:L)(f:e.length=4):∃a b c d,e=[a,b,c,d]:=by
 match e,f with
 | [a,b,c,d],_=>exact⟨a,b,c,d,rfl⟩
def aiq (a:L)(c:a.length=4)(b:W):Sem.run prog (Instr.build 249 #[(0,.agg (aF a))]) b=.ok (.agg (aF (a++[0,0]))) b:=by obtain⟨d,e,f,g,rfl⟩:=als a c;exact run_build b 249 _ _ (by kernel_rfl)
def air (a:L)(e:a.length=4)(b c d:Int):(a++[b,c]).set 4 d=a++[d,c]/\(a++[b,c]).set 5 d=a++[b,d]/\aB (a++[b,c]) 4=b/\aB (a++[b,c]) 5=c/\(a++[b,c]).length=6:=by obtain⟨f,g,b,h,rfl⟩:=als a e;exact⟨rfl,rfl,rfl,rfl,rfl⟩
def U3 (a b:W)(e:L)(c:Nat)(d:L):Prop:=bY b a.heap.size 74 e/\bY b (a.heap.size+1) 249 (au 6)/\bY b c 249 d/\a.heap.size+1<c/\a.grownBy b none
def U3.aC (a:U3 w w' l n p)(b:w'.grownBy u none):U3 w u l n p:=⟨a.1.aC b,a.2.1.aC b,a.2.2.1.aC b,a.2.2.2.1,ay a.2.2.2.2 b⟩
def U3.set (a:U3 w w' l n p)(b:Nat)(c:Int):U3 w (w'.setCell (A n b) (I c)) l n (p.set b c):=by have e:=a.2.2.2.1;have d:=aD w' (A n b) (I c);exact⟨a.1.aH d (by simp;omega),a.2.1.aH d (by simp;omega),a.2.2.1.set b c,e,aG a.2.2.2.2 d (by simp;omega)⟩
def U3.put {rs':L}(a:U3 w w' l n p)(d:rs'.length=p.length):U3 w (b_ w' n rs') l n rs':=by have c:=a.2.2.2.1;have b:=bF (rs':=rs') a.2.2.1 d;exact⟨a.1.aH b.2 gO,a.2.1.aH b.2 gO,b.1,c,aG a.2.2.2.2 b.2 gO⟩
def Pf (vd:V)(d g a:L)(ac:Nat)(l:W)(hd:aY l vd d)(aa:d.length=40)(hB:bY l ac 257 (tbl g))(u:a.length=4)(hg:gY a=true):Calls prog 254 #[vd,.pointer (S ac),.agg (aF a)] l (uJ l (.agg (aF (a++[cS d a,eS d g a])))):=by
 have b:=Zd<|nI l 74 249 a (au 6);have IX:=Zd λ(ag:Nat) (hk:ag<4)=>gF a underlying74 ag gO u;have PL:=Zd<|FE hg u;have GX:=Zd<|(jf a).1 hg;have DV:=Zd λwr (w:l.grownBy wr none)=>aR hd w;have TB:=Zd λwr (w:l.grownBy wr none)=>hB.aC w;have B:=Zd λ(am v f:Int)=>air a u am v f;have BC:=aiq a u;obtain⟨ad,cp,rfl,ao,_⟩:=hd;have j:=fT amr;have C:=Zd aa;rw[aa];clear hB hg ao aa;go_enter func254,ntmps254;go_upto_region 1 with fail;have L0:=Zs (l.heap.size+1<((l.alloc (.cells (aF a) 74)).alloc (.cells (aF (au 6)) 249)).heap.size) (by simp);generalize (l.alloc (.cells (aF a) 74)).alloc (.cells (aF (au 6)) 249)=m at *
 have O:=Zs (U3 l (m.alloc (.cells (aF (au 6)) 249)) a m.heap.size (au 6)) (⟨b.1.aC (aj _ _ none),b.2.1.aC (aj _ _ none),bY.new m _ _,L0,ay b.2.2 (aj _ _ none)⟩);have X:=Zd<|O.put (rs':=a++[0,0]) (by rw[(B.out 0 0 0).2.2.2.2];rfl);have p:=Zd b.1;clear b L0;go_upto_region 2 with(first|refine lA p (by rw[u];exact kG) ?_|refine Pb rfl 249 0 _ rfl (.agg (aF a)) (.agg (aF (a++[0,0]))) rfl (BC _) ?_|refine sA (a++[0,0]) O.2.2.1 (by rw[(B.out 0 0 0).2.2.2.2];rfl) (by rw[ak];exact U5) ?_);clear O p BC j;(try simp only[Act.put]);generalize b_ (m.alloc _) m.heap.size (a++[0,0])=Y at *
 generalize m.heap.size=K at *
 have p:=Zd X.1;go_wp2_with (first|refine lA p (by rw[u];exact kG) ?_);clear p;go_loopw [17] (λo wr=>∃c:Nat,o=I c/\c<=4/\Hid (U3 l wr a K (a++[Km d a c,Kn d g a c 0]))) (λo _=>4-(intOf o).toNat)
 case atStart=>exact⟨0,rfl,QN _,X⟩
 case round=>
  obtain⟨c,rfl,hm,i⟩:=hrel;clear X;by_cases ae:c<4
  .have ab:=IX c ae;have an:=PL c ae;have⟨F,G⟩:=GX c gO;have r:=Zd<|AO (c:Int) (aB a c) gO gO F G wr;rw[show(c:Int)+4*aB a c=((jO a c:Nat):Int) by unfold jO;omega]at r;have⟨ai,c',E,h1,H⟩:=DV wr i.2.2.2.2;simp only[Value.slice.injEq]at E;obtain⟨rfl,Z,rfl⟩:=E;obtain⟨ah,rfl,y⟩:=H (by rw[C.out];omega);have D:=y (jO a c) (by rw[C.out];omega);have s:=B (Km d a c) (Kn d g a c 0) (Km d a (c+1));have c4:=i.2.2.1.cell 4 gO;rw[s.2.2.1]at c4;have f4:=i.2.2.1.free 4;have k:=Zd<|i.set 4 (Km d a (c+1));rw[s.1]at k;have i1:(c:Int)<4:=gO;have i2:((jO a c:Nat):Int)<40:=gO;rw[show Km d a (c+1)=wrap64 (Km d a c+wrap64 (sg (aB d (jO a c))*aB d (jO a c)))from rfl]at k;have R:=Zs (Km d a (c+1)=wrap64 (Km d a c+wrap64 (sg (aB d (jO a c))*aB d (jO a c)))) (rfl);have ZE:=Zs (aB d (jO a c)=aB d (jO a c)) (rfl);clear Z h1 H y i s;generalize j:aB d (jO a c)=f at D k R;generalize Km d a c=Q at *
   have PE:=Zd (rfl:jO a c=jO a c);generalize hP:jO a c=P at *
   have HP:=Zd hP;have U:=Zd j;clear hP j PE ZE;generalize aB a c=pl at *
   go_wp2_with fail;refine r.mono ?_;rintro v J ⟨rfl,rfl⟩;clear r;go_upto_region 6 with fail;refine bW 14 (λq=>q=J.drew) 15 (by rfl) _ rfl (by kernel_rfl) λb=>?_;refine eT 0 rfl b λb=>?_;refine eT (v:=I Q) 1 rfl b λb=>?_;refine eT 2 rfl b λb=>?_;refine eT 3 rfl b λb=>?_;refine eT 4 rfl b λb=>?_;refine eT (v:=I f) 5 rfl b λb=>?_;refine eT 7 rfl b λb=>?_;refine eT 8 rfl b λb=>?_;refine eT 9 rfl b λb=>?_;refine eT (v:=I f) 10 rfl b λb=>?_;refine jY 6 b λO j=>?_;(try simp only[sZ]);go_simp;refine(vI f _).mono ?_;rintro v wc ⟨rfl,rfl⟩;go_wp2_with fail;refine j.out _ _ (λ_=>rfl) λb=>?_;clear j;(try simp only[sZ]);refine iN (hy:=by intro q n;subst n;go_simp;rw[IntKind.wrap_i64];simp only[wrap64]) (v:=I (wrap64 (sg f*f))) 11 rfl b λb=>?_;refine iN (hy:=by intro q n;subst n;go_simp;rw[IntKind.wrap_i64];simp only[wrap64]) (v:=I (wrap64 (Q+wrap64 (sg f*f)))) 12 rfl b λb=>?_;refine eT 13 rfl b λb=>?_;refine jY 14 b λO j=>?_;(try simp only[sZ]);go_simp;go_wp2_with fail;refine j.out _ _ (λx=>by cases x) λb=>?_;clear j;(try simp only[sZ]);refine bI _ _ _ _ (by rfl) ?_;refine wm ?_;have t:=Zd<|k.aC (aS _);generalize (J.setCell (A K 4) (I (wrap64 (Q+wrap64 (sg f*f))))).drew=wz at *
   rw[<-R.out]at t;clear k R c4 f4 D ab F G;have p:=Zd t.1;go_wp2_with (first|refine lA p (by rw[u];exact kG) ?_);clear p;go_loopw [39] (λo wr=>∃e:Nat,o=I e/\e<=4/\Hid (U3 l wr a K (a++[Km d a (c+1),Kn d g a c e]))) (λo _=>4-(intOf o).toNat)
   case atStart=>exact⟨0,rfl,QN _,t⟩
   case round=>
    obtain⟨e,rfl,hu,i⟩:=hrel;clear t;by_cases af:e<4
    .have ab:=IX e af;have al:=PL e af;have⟨F,G⟩:=GX e gO;have r:=Zd<|AO (e:Int) (aB a e) gO gO F G wr;rw[show(e:Int)+4*aB a e=((jO a e:Nat):Int) by unfold jO;omega]at r;have⟨ai,c',E,h1,H⟩:=DV wr i.2.2.2.2;simp only[Value.slice.injEq]at E;obtain⟨e1,Z,rfl⟩:=E;obtain⟨a',rfl,y⟩:=H (by rw[C.out];omega);obtain rfl:ah=a':=by simpa using e1
     have D:=y P (by rw[C.out];omega);have cy:=y (jO a e) (by rw[C.out];omega);rw[U.out]at D;have ct:=(TB wr i.2.2.2.2).cell (P*40+jO a e) (by rw[ajg];omega);rw[alL g P (jO a e) an al]at ct;have s:=B (Km d a (c+1)) (Kn d g a c e) (Kn d g a c (e+1));have c5:=i.2.2.1.cell 5 gO;rw[s.2.2.2.1]at c5;have f5:=i.2.2.1.free 5;have k:=Zd<|i.set 5 (Kn d g a c (e+1));rw[s.2.1]at k;have T:=Zd (show Kn d g a c (e+1)=Kn d g a c e+sg f*sg (aB d (jO a e))*Tq g P (jO a e) by
      rw[agB];unfold VJ MJ;rw[HP.out,U.out])
     have b1:=aaC d g a c e;rw[show VJ d g a c e=sg f*sg (aB d (jO a e))*Tq g P (jO a e) by unfold VJ MJ;rw[HP.out,U.out]]at b1;have b2:=aaD d g a c (e+1) gO gO;rw[T.out]at b2 k;have b3:-1<=sg f*sg (aB d (jO a e))/\sg f*sg (aB d (jO a e))<=1:=by
      rcases rQ f with⟨_,x⟩|⟨_,x⟩<;>rcases rQ (aB d (jO a e))with⟨_,w⟩|⟨_,w⟩<;>rw[x,w]<;>omega
     have i3:(e:Int)<4:=gO;have i4:((jO a e:Nat):Int)<40:=gO;clear e1 Z h1 H y i s;generalize Kn d g a c e=M at *
     generalize Tq g P (jO a e)=z at *
     generalize aB d (jO a e)=o at *
     generalize jO a e=ap at *
     generalize aB a e=ql at *
     have m:=eG (sg f*sg o) gO gO;have Y:=eG (sg f*sg o*z) gO gO;have W3:=eG (M+sg f*sg o*z) gO gO;go_wp2_with fail;refine r.mono ?_;rintro v J ⟨rfl,rfl⟩;clear r;go_upto_region 11 with fail;refine bW 23 (λq=>q=J.drew) 24 (by rfl) _ rfl (by kernel_rfl) λb=>?_;refine eT 0 rfl b λb=>?_;refine eT (v:=I M) 1 rfl b λb=>?_;refine eT 2 rfl b λb=>?_;refine eT 3 rfl b λb=>?_;refine eT 4 rfl b λb=>?_;refine eT (v:=I f) 5 rfl b λb=>?_;refine eT 7 rfl b λb=>?_;refine eT 8 rfl b λb=>?_;refine eT 9 rfl b λb=>?_;refine eT (v:=I o) 10 rfl b λb=>?_;refine eT 13 rfl b λb=>?_;refine eT 14 rfl b λb=>?_;refine eT 15 rfl b λb=>?_;refine eT 16 rfl b λb=>?_;refine eT 17 rfl b λb=>?_;refine eT 18 rfl b λb=>?_;refine eT (v:=I z) 19 rfl b λb=>?_;refine jY 6 b λO j=>?_;(try simp only[sZ]);go_simp;refine(vI f _).mono ?_;rintro v wc ⟨rfl,rfl⟩;go_wp2_with fail;refine j.out _ _ (λ_=>rfl) λb=>?_;clear j;(try simp only[sZ]);refine jY 11 b λO j=>?_;(try simp only[sZ]);go_simp;refine(vI o _).mono ?_;rintro v wc ⟨rfl,rfl⟩;go_wp2_with fail;refine j.out _ _ (λ_=>rfl) λb=>?_;clear j;(try simp only[sZ]);refine iN (hy:=by intro q n;subst n;go_simp;try simp only[m]) (v:=I (sg f*sg o)) 12 rfl b λb=>?_;refine iN (hy:=by intro q n;subst n;go_simp;try simp only[Y]) (v:=I (sg f*sg o*z)) 20 rfl b λb=>?_;refine iN (hy:=by intro q n;subst n;go_simp;try simp only[W3]) (v:=I (M+sg f*sg o*z)) 21 rfl b λb=>?_;refine eT 22 rfl b λb=>?_;refine jY 23 b λO j=>?_;(try simp only[sZ]);go_simp;go_wp2_with fail;refine j.out _ _ (λx=>by cases x) λb=>?_;clear j;(try simp only[sZ]);refine bI _ _ _ _ (by rfl) ?_;refine wm ?_;have t:=Zd<|k.aC (aS _);generalize (J.setCell (A K 5) (I (M+sg f*sg o*z))).drew=wz at *
     rw[<-T.out]at t;clear k T c5 f5 D cy ct ab F G m Y W3 b1 b2 b3;go_wp2_with fail;go_roundw
     case rel=>exact⟨e+1,by go_num,gO,t⟩
     case measure=>simp[intOf];omega
    obtain rfl:e=4:=gO;have k:=i;rw[agC]at k;clear i;rw[show((4:Nat):Int)=4 from rfl];go_wp2_with fail;go_roundw
    case rel=>exact⟨c+1,by go_num,gO,k⟩
    case measure=>simp[intOf];omega
  obtain rfl:c=4:=gO;have o:=Zd i.2.2.1;have q:=Zd i.2.1;have t:=Zd i.2.2.2.2;have k:=(B (Km d a 4) (Kn d g a 4 0) 0).2.2.2.2;rw[show Km d a 4=cS d a from rfl,show Kn d g a 4 0=eS d g a from rfl]at o k;clear i;generalize a++[cS d a,eS d g a]=n at *
  have e:=Zd k;clear k;rw[show((4:Nat):Int)=4 from rfl];go_wp2_with (first|refine lA o (by rw[e.out];exact U5) ?_|refine sA n q (by rw[e.out,ak]) (by rw[ak];exact U5) ?_);have r:=bF (rs':=n) q (by rw[e.out,ak]);have x:=kU r.1 (by rw[e.out];exact U5);have s:=Zd<|aG t r.2 gO;refine QB (v:=.agg (aF n)) ?_ rfl ⟨rfl,s⟩;simp[results,results254,asAddr,Act.put,x]
structure Ee (base:Nat) (w w':World):Prop where
 os:w'.os=w.os
 tape:w'.tape=w.tape
 output:w'.output=w.output
 size:w.heap.size<=w'.heap.size
 block:∀k,base<=k->k<w.heap.size->w'.heap[k]?=w.heap[k]?
def Ee.refl (b:Nat)(a:W):Ee b a a:=⟨rfl,rfl,rfl,Q6 _,λ_ _ _=>rfl⟩
def Ee.trans (a:Ee n w w')(b:Ee n w' u):Ee n w u:=
 ⟨b.os.trans a.os,b.tape.trans a.tape,b.output.trans a.output,YM a.size b.size,λe c d=>(b.block e c (WK d a.size)).trans (a.block e c d)⟩
def Ee.of {base:Nat}(a:w.grownBy w' none):Ee base w w':=⟨a.os,a.tape,a.output,a.size,λc _ b=>a.block c b (by simp)⟩
def Ee.more (a:Ee n w w')(c:w'.grownBy u z)(f:∀b,z=some b->w.heap.size<=b):Ee n w u:=
 ⟨c.os.trans a.os,c.tape.trans a.tape,c.output.trans a.output,YM a.size c.size,λb e d=>(c.block b (WK d a.size) (λc=>by have:=f b c.symm;omega)).trans (a.block b e d)⟩
def bY.frm (a:bY w b T l)(c:Ee n w w')(d:n<=b):bY w' b T l:=(c.block b d a.lt).trans a
def fK {b:Obj}(a:w.heap[n]?=some b)(c:w.grownBy w' z)(d:some n≠z):w'.heap[n]?=some b:=(c.block n (aO a) d).trans a
def ams (f:Nat)(a:Nat->W->Prop):Prop:=∀c b e d,a c b->b.grownBy e d->(∀b,d=some b->f<=b)->a c e
def Vis (d g:Nat)(e:Array V)(c:Nat->W->Prop)(f:Nat->L)(N:Nat):Prop:=
 ∀a b,a<N->d<=b.heap.size->c a b->Calls prog g (#[.agg (aF (f a))]++e) b λf e=>f=.returned (.tuple #[])/\c (a+1) e/\Ee d b e
def Gs (j:Nat)(p:Array V)(M:∀a b,(callFunc j a).run prog b=.ok (.enter j a) b)(f:Nat)(e:Nat->W->Prop)(r:ams f e)(d:L)(s:d.length=4)(c:Nat)(O:c<4)
 (E:Vis f j p e (λa=>d.set c (a:Int)) 10) (b:W) (F:f<=b.heap.size) (D:e 0 b) :
 Calls prog 234 #[.agg (aF d),I (c:Int),.func (.func j) #[] p] b λg i=>g=.returned (.tuple #[])/\e 10 i/\Ee f b i:=by
 have v:=Zd r;have w:=Zd E;have m:=Zd F;have z:=Zs (bY (b.alloc (.cells (aF d) 74)) b.heap.size 74 d/\e 0 (b.alloc (.cells (aF d) 74))/\Ee f b (b.alloc (.cells (aF d) 74))) (⟨bY.new b _ _,r 0 b _ none D (aj _ _ none) (λn g=>by cases g),Ee.of (aj _ _ none)⟩);go_enter func234,ntmps234;go_wp2_with fail;generalize b.alloc (.cells (aF d) 74)=H at *
 go_loopw [7] (λi wr=>∃(a:Nat) (l:L),i=I a/\a<=10/\Hid (l.length=4/\∀j:Int,l.set c j=d.set c j)/\Hid (bY wr b.heap.size 74 l/\e a wr/\Ee f b wr)) (λi _=>10-(intOf i).toNat)
 case atStart=>exact⟨0,d,rfl,QN _,⟨s,λ_=>rfl⟩,z⟩
 case round=>
  obtain⟨a,l,rfl,hp,t,i⟩:=hrel;by_cases C:a<10
  .have J:=i.1.cell c (by have:=t.1;omega);have K:=i.1.free c;have gs:=aD wr (A b.heap.size c) (I (a:Int));have k:=Zd (show bY (wr.setCell (A b.heap.size c) (I (a:Int))) b.heap.size 74 (d.set c (a:Int))/\e a (wr.setCell (A b.heap.size c) (I (a:Int)))/\Ee f b (wr.setCell (A b.heap.size c) (I (a:Int)))from
    ⟨by have:=i.1.set c (a:Int);rw[t.out.2]at this;exact this,v a wr _ _ i.2.1 gs (λn g=>by have:=m.out;cases g;exact this),i.2.2.more gs (λn g=>by cases g;exact Q6 _)⟩)
   have o:=Zs ((d.set c (a:Int)).length=4/\∀j:Int,(d.set c (a:Int)).set c j=d.set c j) (⟨by simpa using s,λj=>by rw[List.set_set]⟩);have P:(a:Int)<10:=gO;have Q:(c:Int)<4:=gO;generalize aB l c=R at *
   go_upto_region 5 with fail;generalize wr.setCell (A b.heap.size c) (I (a:Int))=B at *
   have u:=Zd k.1;have y:=Zd<|w a B C (YM m k.2.2.size) k.2.1;go_wp2_with (first|refine lA u (by rw[o.out.1];exact kG) ?_);refine y.mono ?_;rintro g n ⟨rfl,G,q⟩;have x:=Zs (bY n b.heap.size 74 (d.set c (a:Int))/\e (a+1) n/\Ee f b n) (⟨k.1.frm q m,G,k.2.2.trans q⟩);go_wp2;go_roundw
   case rel=>exact⟨a+1,_,by go_num,gO,o,x⟩
   case measure=>simp[intOf];omega
  obtain rfl:a=10:=gO;have k:=Zd i.2;rw[show((10:Nat):Int)=10 from rfl];go_wp2_with fail;go_end0;exact⟨rfl,k⟩
def Ee.low (a:Ee n w w')(c:w'.grownBy u (some b))(d:b<n):Ee n w u:=
 ⟨c.os.trans a.os,c.tape.trans a.tape,c.output.trans a.output,YM a.size c.size,λe f d=>(c.block e (WK d a.size) (λc=>by cases c;omega)).trans (a.block e f d)⟩
def ais (a:L×Int×Int):L:=a.1++[a.2.1,a.2.2]
def Ox (a:W)(f:V)(c:Nat)(e:L)(d:Bool)(b:W):Prop:=
 a.grownBy b none/\b.heap[a.heap.size]?=some (.cells #[f] 26 (0,0))/\b.heap[a.heap.size+1]?=some (.cells #[.pointer (S c)] 235 (0,0))/\bY b (a.heap.size+1+1) 74 (au 4)/\bY b (a.heap.size+1+1+1) 249 e/\b.heap[a.heap.size+1+1+1+1]?=some (.cells #[.bool d] 4 (0,0))
def Ox.more {B:Nat}(a:Ox w x B l s w')(b:w'.grownBy u z)(c:∀d,z=some d->w.heap.size+5<=d):Ox w x B l s u:=by have⟨e,f,g,h,i,j⟩:=a;exact⟨gV e b (λd a=>by have:=c d a;omega),fK f b (λa=>by have:=c _ a.symm;omega),fK g b (λa=>by have:=c _ a.symm;omega),fK h b (λa=>by have:=c _ a.symm;omega),fK i b (λa=>by have:=c _ a.symm;omega),fK j b (λa=>by have:=c _ a.symm;omega)⟩
def Ox.aC (b:Ox w x n l s w')(a:w'.grownBy u none):Ox w x n l s u:=b.more a (λa a=>by cases a)
def Ox.put {s':L}(a:Ox w x n l s w')(i:s'.length=l.length):Ox w x n s' s (b_ w' (w.heap.size+1+1+1) s'):=by have⟨c,d,e,f,g,h⟩:=a;have b:=bF (rs':=s') g i;exact⟨aG c b.2 gO,fK d b.2 (λa=>by have:=Option.some.inj a;(try dsimp only at this);omega),fK e b.2 (λa=>by have:=Option.some.inj a;(try dsimp only at this);omega),fK f b.2 (λa=>by have:=Option.some.inj a;(try dsimp only at this);omega),b.1,fK h b.2 (λa=>by have:=Option.some.inj a;(try dsimp only at this);omega)⟩
def Ox.flag (c:Ox w x n l s w')(a:Bool):Ox w x n l a (w'.setCell (A (w.heap.size+1+1+1+1) 0) (.bool a)):=by have⟨d,e,f,g,h,i⟩:=c;have b:=aD w' (A (w.heap.size+1+1+1+1) 0) (.bool a);refine⟨aG d b (by simp;omega),fK e b (λa=>by have:=Option.some.inj a;(try dsimp only at this);omega),fK f b (λa=>by have:=Option.some.inj a;(try dsimp only at this);omega),fK g b (λa=>by have:=Option.some.inj a;(try dsimp only at this);omega),fK h b (λa=>by have:=Option.some.inj a;(try dsimp only at this);omega),?_⟩;rw[heap_setCell i];rfl
def Yy (g:W)(f:V)(b:Nat)(c d:L->Int)(e:Nat->L)(a:Nat)(h:W):Prop:=Ox g f b (ais (uy c d e a)) (decide (a=0)) h
def alu (a b:L):cS a b<=9223372036854775807:=by show wrap64 _<=_;unfold wrap64;omega
def alv (a b c:L):eS a b c<=9223372036854775807:=by have:=aaD a b c 4 0 gO gO;unfold eS;omega
def adS (c d:L->Int)(b:Nat->L)(N:Nat)(f:∀a,a<N->(b a).length=4):∀a,a<=N->(uy c d b a).1.length=4
 | 0,_=>rfl
 | a+1,i=>by
  have⟨g,h,e⟩:=Ag c d b (a+1) gO;rw[e];exact f g gO
def U6 (e:World)(H:Value)(q:Nat)(a d:L)(c:Nat->L)(N:Nat)(hd:aY e H a)(af:a.length=40)(hB:bY e q 257 (tbl d))(ab:∀b,b<N->(c b).length=4/\gY (c b)=true)
 (b:Nat) (y:World) (hm:b<N) (ap:e.heap.size+5<=y.heap.size) (hI:Yy e H q (cS a) (eS a d) c b y) :
 Calls prog 253 #[.agg (aF (c b)),.pointer (S e.heap.size),.pointer (S (e.heap.size+1)),.pointer (S (e.heap.size+1+1+1+1)),.pointer (S (e.heap.size+1+1+1))] y λl f=>l=.returned (.tuple #[])/\Yy e H q (cS a) (eS a d) c (b+1) f/\Ee (e.heap.size+5) y f:=by
 have⟨hx,hg⟩:=ab b hm;have ga:=aj y (.cells (aF (c b)) 74) none;have Q:=Zd<|Ox.aC hI ga;have F1:=Zd<|Ee.of (base:=e.heap.size+5) ga;have BX:=Zd<|bY.new y 74 (c b);have SC:=Zd λW (ae:e.grownBy W none)=>Pf H a d (c b) q W (aR hd ae) af (hB.aC ae) hx hg;have LK:=Zd<|adS (cS a) (eS a d) c N (λag g=>(ab ag g).1) b gO;have E:=Zs (b=0\/Bz (cS a (c b)) (eS a d (c b)) (uy (cS a) (eS a d) c b).2.1 (uy (cS a) (eS a d) c b).2.2=true->uy (cS a) (eS a d) c (b+1)=(c b,cS a (c b),eS a d (c b))) (Tt _ _ _ _);have T:=Zs (¬(b=0\/Bz (cS a (c b)) (eS a d (c b)) (uy (cS a) (eS a d) c b).2.1 (uy (cS a) (eS a d) c b).2.2=true)->uy (cS a) (eS a d) c (b+1)=uy (cS a) (eS a d) c b) (aaF _ _ _ _);have P:=Zd (show 0<b->(uy (cS a) (eS a d) c b).2.1<=9223372036854775807/\(uy (cS a) (eS a d) c b).2.2<=9223372036854775807 from λn=>by
  have⟨ag,_,l⟩:=Ag (cS a) (eS a d) c b n;rw[l];exact⟨alu _ _,alv _ _ _⟩)
 have ah:=alu a (c b);have al:=alv a d (c b);have aa:=Zs (∀f g,uy (cS a) (eS a d) c (b+1)=g->Ox e H q (ais g) false f->Yy e H q (cS a) (eS a d) c (b+1) f) (λf g l n=>by unfold Yy;rw[l];simpa using n);have hz:=fT amr;obtain⟨ad,cp,rfl,ai,_⟩:=hd;have CL:=Zd λj l k=>air (c b) hx j l k;unfold Yy at hI;clear hB ab hg ai af hI ga;generalize Yy e _ q (cS a) (eS a d) c (b+1)=ao at *
 generalize uy (cS a) (eS a d) c b=ks at *
 generalize uy (cS a) (eS a d) c (b+1)=aq at *
 generalize cS a (c b)=f at *
 generalize eS a d (c b)=g at *
 generalize c b=i at *
 have⟨kx,w,x⟩:=ks;dsimp only at E T P LK;have B:=Zd λj l k=>air kx LK j l k;go_enter func253,ntmps253;go_upto_region 1 with fail;generalize y.alloc (.cells (aF i) 74)=W1 at *
 have cd:W1.cell? (A e.heap.size 0)=some (.slice ad a.length cp):=(aI Q.2.1 0).trans rfl;have cb:W1.cell? (A (e.heap.size+1) 0)=some (.pointer (S q)):=(aI Q.2.2.1 0).trans rfl;have SS:=Zd<|SC W1 Q.1;go_wp2_with (first|refine lA BX (by rw[hx];exact kG) ?_);refine SS.mono ?_;rintro l Y ⟨rfl,g2⟩;have hX:=(CL f g 0).2.2.2.2;have x4:=(CL f g 0).2.2.1;have x5:=(CL f g 0).2.2.2.1;have M:=dG Y 249 6 (i++[f,g]) hX;have BZ:=Zd M.1;have k:=Zd<|(Q.aC g2).aC M.2.2;have C:=Zd<|(F1.trans (Ee.of g2)).trans (Ee.of M.2.2);have s:=Zd M.2.1;have EX:=Zs (i++[f,g]=ais (i,f,g)) (rfl);clear SS SC g2 M cd cb Q F1 BX;have m:=Zd hX;clear hX;go_upto_region 2 with(first|refine sA (i++[f,g]) BZ (by rw[m.out,ak]) (by rw[ak];exact U5) ?_);(try simp only[Act.put]);clear BZ hz;generalize b_ (Y.alloc _) Y.heap.size (i++[f,g])=W3 at *
 generalize Y.heap.size=b6 at *
 have U:=s.cell 4 (by rw[m.out];omega);have X:=s.cell 5 (by rw[m.out];omega);rw[x4]at U;rw[x5]at X;clear x4 x5;have r:=(aI k.2.2.2.2.2 0).trans (show(#[Value.bool (decide (b=0))]:Array Value)[0]?=some (.bool (decide (b=0)))from rfl);have F:=bA k.2.2.2.2.2 0;have o:=Zd k.2.2.2.2.1;have G:=(B w x 0).2.2.2.2;rw[show ais (kx,w,x)=kx++[w,x]from rfl]at o k;have j:=Zd<|k.put (s':=i++[f,g]) (by rw[m.out,G]);have t:=Zd<|C.low (bF (rs':=i++[f,g]) o (by rw[m.out,G])).2 gO;have D:=Zd G;by_cases v:b=0
 .rw[KN v]at r k j;have J:=Zd<|E (.inl v);clear E T P B v G;go_upto_region 3 with fail;go_upto_region 4 with(first|refine lA s (by rw[m.out];exact U5) ?_|refine sA (i++[f,g]) o (by rw[m.out,D.out]) (by rw[D.out];exact U5) ?_);(try simp only[Act.put]);clear s o U X r F k C;generalize b_ W3 _ (i++[f,g])=W4 at *
  have r:=(aI j.2.2.2.2.2 0).trans (show(#[Value.bool true]:Array Value)[0]?=some (.bool true)from rfl);have F:=bA j.2.2.2.2.2 0;have R:=Zd<|j.flag false;have O:=Zd<|t.low (aD W4 (A (e.heap.size+1+1+1+1) 0) (.bool false)) (by simp<;>omega);clear j t;go_wp2_with fail;go_end0;exact⟨rfl,aa _ _ J R,O⟩
 rw[KF v]at r k j;have⟨am,an⟩:=P gO;have r4:=o.cell 4 gO;have r5:=o.cell 5 gO;rw[(B.out w x 0).2.2.1]at r4;rw[(B.out w x 0).2.2.2.1]at r5;have z:=Zd<|Ih f g w x ah al am an W3;rcases hb:Bz f g w x with _|_
 .rw[hb]at z;have J:=Zd<|T (λn=>by rcases n with n|n;exact v n;rw[hb]at n;cases n);clear E T P B v G hb j t;go_wp2_with fail;refine z.mono ?_;rintro l w7 ⟨rfl,p⟩;have u:=Zd<|k.aC p;have K:=Zd<|C.trans (Ee.of p);clear p z k C s o U X r4 r5 r F;have r:=(aI u.2.2.2.2.2 0).trans (show(#[Value.bool false]:Array Value)[0]?=some (.bool false)from rfl);have F:=bA u.2.2.2.2.2 0;have R:=Zd<|u.flag false;have O:=Zd<|K.low (aD w7 (A (e.heap.size+1+1+1+1) 0) (.bool false)) (by simp<;>omega);clear u K;go_wp2_with fail;go_end0;exact⟨rfl,aa _ _ J R,O⟩
 rw[hb]at z;have J:=Zd<|E (.inr hb);clear E T P B v G hb j t;go_wp2_with fail;refine z.mono ?_;rintro l w7 ⟨rfl,p⟩;have u:=Zd<|k.aC p;have K:=Zd<|C.trans (Ee.of p);have ac:=Zd<|s.aC p;have Z:=Zd<|o.aC p;have j:=Zd<|u.put (s':=i++[f,g]) (by rw[m.out,D.out]);have t:=Zd<|K.low (bF (rs':=i++[f,g]) Z (by rw[m.out,D.out])).2 gO;clear p z k C s o U X r4 r5 r F u K;go_upto_region 3 with fail;go_upto_region 4 with(first|refine lA ac (by rw[m.out];exact U5) ?_|refine sA (i++[f,g]) Z (by rw[m.out,D.out]) (by rw[D.out];exact U5) ?_);(try simp only[Act.put]);clear ac Z;generalize b_ w7 _ (i++[f,g])=W4 at *
 have r:=(aI j.2.2.2.2.2 0).trans (show(#[Value.bool false]:Array Value)[0]?=some (.bool false)from rfl);have F:=bA j.2.2.2.2.2 0;have R:=Zd<|j.flag false;have O:=Zd<|t.low (aD W4 (A (e.heap.size+1+1+1+1) 0) (.bool false)) (by simp<;>omega);clear j t;go_wp2_with fail;go_end0;exact⟨rfl,aa _ _ J R,O⟩
def U7 (a:Array V)(b:W):(callFunc 253 a).run prog b=.ok (.enter 253 a) b:=by kernel_rfl
def Walks (f:W)(j:Nat)(h:Array V)(i:Nat->L)(N:Nat):Prop:=
 ∀(a:W) (c d:Nat) (e:Array V) (b:Nat->W->Prop),f.grownBy a none->(∀f g,(callFunc d f).run prog g=.ok (.enter d f) g)->ams c b->Vis c d e b i N->c<=a.heap.size->b 0 a->
  Calls prog j (#[.func (.func d) #[] e]++h) a λe d=>e=.returned (.tuple #[])/\b N d/\Ee c a d
def abG {g:Array Oper}{rest:List Oper}(k:o.guard=none)(c h:TypeId)(f:Operand)(n:o.op=.load c f)
 (d:Nat) (q:a.eval f=.pointer (S d)) (b s:L) (i:bY w d h (b++s)) (e:TypeDesc) (p:prog.underlying c=some e) (j:e.isRow=true) (l:(prog.info? c).map (·.size)=some b.length)
 (r:wpList prog g Q rest (a.put o.dst (.agg (aF b))) w):wpList prog g Q (o::rest) a w:=by
 refine wpList_load_mid k c f n d 0 q (b.map (Value.int .i64)) e (λd e c=>i.range d e ?_) p j (by simpa using l) r;rw[List.map_append,BQ]
 .exact c
 by_cases m:d<(b.map (Value.int .i64)).length
 .exact m
 rw[U8 gO]at c;cases c
def YW:(prog.info? 74).bind (·.zero)=some (.agg (aF (au 4))):=by kernel_rfl
def YX (j:V)(c:Nat)(b e:List Int)(d:Nat->List Int)(N:Nat)(a:W)(M:aY a j b)(O:b.length=40)(J:bY a c 257 (tbl e))(u:∀g,g<N->(d g).length=4/\gY (d g)=true)
 (n:Nat) (B:Array V) (Z:∀f i,(callFunc n f).run prog i=.ok (.enter n f) i) (K:Walks a n B d N) :
 Calls prog 232 #[j,.pointer (S c),.func (.func n) #[] B] a (uJ a (.agg (aF (uy (cS b) (eS b e) d N).1))):=by
 have aa:∀(D:Fn) (first C:Array V) (a:W),(Instr.makeFunc D first C).run prog a=.ok (.func D first C) a:=λ_ _ _ _=>rfl;have ag:=fT YW;have ah:=fT amr;have k:=Zd<|adS (cS b) (eS b e) d N (λi f=>(u i f).1) N (Q6 _);have y:=Zd (show Vis (a.heap.size+5) 253 #[.pointer (S a.heap.size),.pointer (S (a.heap.size+1)),.pointer (S (a.heap.size+1+1+1+1)),.pointer (S (a.heap.size+1+1+1))] (Yy a j c (cS b) (eS b e) d) d N from
  λg f i v t=>U6 a j c b e d N M O J u g f i v t)
 have x:=Zs (ams (a.heap.size+5) (Yy a j c (cS b) (eS b e) d)) (λg f g e g r i=>Ox.more g r i);have z:=Zd λf (r:a.grownBy f none) (v:a.heap.size+5<=f.heap.size) (t:Yy a j c (cS b) (eS b e) d 0 f)=>K f (a.heap.size+5) 253 _ _ r U7 x y v t;obtain⟨f,g,rfl,Y,_⟩:=M;have L:=Zd (show Yy a (.slice f b.length g) c (cS b) (eS b e) d 0 (((((a.alloc (.cells #[.slice f b.length g] 26)).alloc (.cells #[.pointer (S c)] 235)).alloc (.cells (aF (au 4)) 74)).alloc (.cells (aF (au 6)) 249)).alloc (.cells #[.bool true] 4))/\a.heap.size+5<=(((((a.alloc (.cells #[.slice f b.length g] 26)).alloc (.cells #[.pointer (S c)] 235)).alloc (.cells (aF (au 4)) 74)).alloc (.cells (aF (au 6)) 249)).alloc (.cells #[.bool true] 4)).heap.size from by
  have U:=aj a (.cells #[.slice f b.length g] 26) none;have X:=dF a (.cells #[.slice f b.length g] 26);generalize ab:a.alloc (.cells #[.slice f b.length g] 26)=o at *
  have P:o.heap.size=a.heap.size+1:=by rw[<-ab];simp
  have w:=aj o (.cells #[.pointer (S c)] 235) none;have E:=dF o (.cells #[.pointer (S c)] 235);generalize ac:o.alloc (.cells #[.pointer (S c)] 235)=m at *
  have Q:m.heap.size=a.heap.size+1+1:=by rw[<-ac];simp[P]
  have s:=aj m (.cells (aF (au 4)) 74) none;have F:=bY.new m 74 (au 4);generalize ae:m.alloc (.cells (aF (au 4)) 74)=p at *
  have R:p.heap.size=a.heap.size+1+1+1:=by rw[<-ae];simp[Q]
  have l:=aj p (.cells (aF (au 6)) 249) none;have G:=bY.new p 249 (au 6);generalize af:p.alloc (.cells (aF (au 6)) 249)=q at *
  have T:q.heap.size=a.heap.size+1+1+1+1:=by rw[<-af];simp[R]
  have i:=aj q (.cells #[.bool true] 4) none;have H:=dF q (.cells #[.bool true] 4);have s5:(q.alloc (.cells #[.bool true] 4)).heap.size=a.heap.size+1+1+1+1+1:=by simp[T]
  rw[P]at E;rw[Q]at F;rw[R]at G;rw[T]at H;refine⟨⟨ay (ay (ay (ay U w) s) l) i,?_,?_,?_,G.aC i,H⟩,gO⟩
  .exact fK (fK (fK (fK X w (by simp)) s (by simp)) l (by simp)) i (by simp)
  .exact fK (fK (fK E s (by simp)) l (by simp)) i (by simp)
  exact(F.aC l).aC i)
 clear y x K u Y J O;go_enter func232,ntmps232;go_upto_region 3 with fail;generalize ((((a.alloc _).alloc _).alloc _).alloc _).alloc _=H at *
 go_wp2_with fail;refine(z H L.1.1 L.2 L.1).mono ?_;rintro T m ⟨rfl,E,P⟩;have l:=Zd E;unfold Yy at l;clear E P z L aa ag ah Z;generalize uy (cS b) (eS b e) d N=R at *
 have⟨i,o,p⟩:=R;dsimp only at k ⊢;have q:=Zd l.2.2.2.2.1;rw[show ais (i,o,p)=i++[o,p]from rfl]at q;have s:=Zd l.2.2.2.1;have G:=Zd l.1;clear l;go_wp2_with (first|refine abG rfl 74 249 _ rfl _ rfl i [o,p] q _ underlying74 rfl (by rw[k.out];exact kG) ?_|refine sA i s (by rw[k.out,ak]) (by rw[ak];exact kG) ?_);have w:=bF (rs':=i) s (by rw[k.out,ak]);have Q:=kU w.1 (by rw[k.out];exact kG);have F:=Zd<|aG G w.2 gO;refine QB (v:=.agg (aF i)) ?_ rfl ⟨rfl,F⟩;simp[results,results232,asAddr,Act.put,Q]
def Finds (f:W)(nF:Nat)(d:Array V)(e c:L):Prop:=
 ∀(a:W) (b:Nat),f.grownBy a none->bY a b 257 (tbl e)->Calls prog nF (#[.pointer (S b)]++d) a (uJ a (.agg (aF c)))
def U9 (a:Array V)(b:W):(callFunc 233 a).run prog b=.ok (.enter 233 a) b:=by kernel_rfl
def Mq (e:W)(b:L)(i:b.length=4)(a:Nat)(y:a<4)(c d:Nat)(u:bY e c 74 b)(v:e.cell? (A d 0)=some (I (a:Int))):Walks e 233 #[.pointer (S c),.pointer (S d)] (λB=>b.set a (B:Int)) 10:=by
 intro k p j f o g w x s t r;have m:=Zd<|Gs j f w p o x b i a y s k t r;have C:=aU g v;have l:=Zd<|u.aC g;show Calls prog 233 #[.func (.func j) #[] f,.pointer (S c),.pointer (S d)] k _;go_enter func233,ntmps233;go_wp2_with (first|refine lA l (by rw[i];exact kG) ?_);refine m.mono ?_;rintro D E ⟨rfl,z,q⟩;have n:=Zd<|And.intro z q;go_wp2_with fail
 first|go_end0|refine QB (results_none rfl _ _ _) rfl ?_
 exact⟨rfl,n⟩
def Y1 (a:Array V)(b:W):(callFunc 231 a).run prog b=.ok (.enter 231 a) b:=by kernel_rfl
def FwM (a b:W)(c:L):Prop:=jc a b 74 74 (au 4) c
def FwM.put {x':L}(b:FwM w w' l)(c:x'.length=l.length):FwM w (b_ w' (w.heap.size+1) x') x':=by have a:=bF (rs':=x') b.2.1 c;exact⟨b.1.aH a.2 gO,a.1,aG b.2.2 a.2 gO⟩
def Pg (z:World)(y:Value)(b d:L)(E:Nat)(Q:aY z y b)(R:b.length=40)(P:z.cell? (A E 0)=some y):Finds z 231 #[.pointer (S E)] d (mJ b d):=by
 intro e Z w M;have ac:∀(H:Fn) (first F:Array Value) (X:World),(Instr.makeFunc H first F).run prog X=.ok (.func H first F) X:=λ_ _ _ _=>rfl;have af:=fT YW;have D:=Zs (FwM e ((e.alloc (.cells (aF (au 4)) 74)).alloc (.cells (aF (au 4)) 74)) (au 4)) (nI e 74 74 (au 4) (au 4));have n:=Zd (λW (l:e.grownBy W none) (k:L) (U:k.length=4) (gx:gY k=true) (a:Nat) (T:a<4) (u v:Nat) (aa:bY W u 74 k) (ab:W.cell? (A v 0)=some (I (a:Int)))=>
  YX y Z b d (λx=>k.set a (x:Int)) 10 W (aR Q (ay w l)) R (M.aC l) (λc c=>⟨by simpa using U,FH gx _ _ gO gO⟩) 233 #[.pointer (S u),.pointer (S v)] U9 (Mq W k U a T u v aa ab))
 have o:=Zd λW (l:e.grownBy W none)=>aU (ay w l) P;have g:=Zd<|tN (cS b) (eS b d);have s:=Zd λc=>(show rR (cS b) (eS b d) (c+1)=(uy (cS b) (eS b d) (λx=>(rR (cS b) (eS b d) c).set (c % 4) (x:Int)) 10).1 from rfl);obtain⟨ad,cp,rfl,_,_⟩:=Q;rw[show mJ b d=rR (cS b) (eS b d) 8 from rfl];clear M w P R;go_enter func231,ntmps231;go_wp2_with fail;generalize (e.alloc _).alloc _=W0 at *
 clear af;go_loopw [6,8] (λi _ W=>∃c:Nat,i=I c/\c<=2/\Hid (FwM e W (rR (cS b) (eS b d) (4*c)))) (λi _ _=>2-(intOf i).toNat)
 case atStart=>exact⟨0,rfl,QN _,D⟩
 case round=>
  obtain⟨c,rfl,hn,f⟩:=hrel;clear D;by_cases ah:c<2
  .have i1:(c:Int)<2:=gO;go_wp2_with fail;go_loopw [8] (λi W=>∃a:Nat,i=I a/\a<=4/\Hid (FwM e W (rR (cS b) (eS b d) (4*c+a)))) (λi _=>4-(intOf i).toNat)
   case atStart=>exact⟨0,rfl,QN _,f⟩
   case round=>
    obtain⟨a,rfl,T,f⟩:=hrel;by_cases ae:a<4
    .have i2:(a:Int)<4:=gO;have K:=aj wr (.cells #[I (a:Int)] 3) none;have i:=Zs (FwM e (wr.alloc (.cells #[I (a:Int)] 3)) (rR (cS b) (eS b d) (4*c+a))) (jc.aC f K);have G:=(aI (dF wr (.cells #[I (a:Int)] 3)) 0).trans (show(#[Value.int .i64 (a:Int)]:Array Value)[0]?=some (I (a:Int))from rfl);have m:=Zd<|n _ i.2.2 _ (g (4*c+a)).1 (g (4*c+a)).2 a ae (e.heap.size+1) wr.heap.size i.2.1 G;have cd:=o _ i.2.2;have p:=s (4*c+a);rw[show(4*c+a) % 4=a by omega]at p;rw[<-p]at m;have q:=Zd (g (4*c+a)).1;have C:=Zd (g (4*c+a+1)).1;clear p G f n o g s K;generalize rR (cS b) (eS b d) (4*c+a)=j at *
     generalize O:rR (cS b) (eS b d) (4*c+a+1)=t at *
     have EY:=Zd O;clear O;go_upto_region 7 with fail;generalize wr.alloc (.cells #[I (a:Int)] 3)=W1 at *
     go_wp2_with fail;refine m.mono ?_;rintro ag Y ⟨rfl,J⟩;have r:=Zs (FwM e Y j) (jc.aC i J);have B:=Zd r.2.1;have M3:=Zd<|r.put (x':=t) (by rw[q.out,C.out]);clear J i r m cd;go_upto_region 8 with(first|refine sA t B (by rw[q.out,C.out]) (by rw[q.out];exact kG) ?_);(try simp only[Act.put]);clear B;generalize b_ Y _ t=W3 at *
     go_wp2_with fail;go_roundw
     case rel=>exact⟨a+1,by go_num,gO,by rw[show 4*c+(a+1)=4*c+a+1 from rfl,EY.out];exact M3⟩
     case measure=>simp[intOf];omega
    obtain rfl:a=4:=gO;have i:=f;rw[show 4*c+4=4*(c+1) by omega]at i;clear f;rw[show((4:Nat):Int)=4 from rfl];go_wp2_with fail;go_roundw
    case rel=>exact⟨c+1,by go_num,gO,i⟩
    case measure=>simp[intOf];omega
  obtain rfl:c=2:=gO;have q:=Zd f.2.1;have m:=Zd f.1;have t:=Zd f.2.2;have i:=Zd (g (4*2)).1;clear f n o g s ac;rw[show 4*2=8 from rfl]at *
  generalize rR (cS b) (eS b d) 8=j at *
  rw[show((2:Nat):Int)=2 from rfl];go_wp2_with (first|refine lA q (by rw[i.out];exact kG) ?_|refine sA j m (by rw[i.out,ak]) (by rw[ak];exact kG) ?_);have p:=bF (rs':=j) m (by rw[i.out,ak]);have B:=kU p.1 (by rw[i.out];exact kG);have r:=Zd<|aG t p.2 (Q6 _);refine QB (v:=.agg (aF j)) ?_ rfl ⟨rfl,r⟩;simp[results,results231,asAddr,Act.put,B]
def Mr (e:W)(a:L)(d c:Int)(b:Ending)(f:W):Prop:=b=.returned (.tuple #[.agg (aF a),I d,I c])/\e.grownBy f none
def ait (c:¬(l.length=40/\p.length=40))(b:L):yU l p=1/\Kr l p b=au 4/\N8 l p b=0:=by
 have a:yU l p=1:=X9 c;refine⟨a,?_,?_⟩
 .unfold Kr;rw[a];rfl
 unfold N8;rw[a];rfl
def amt (c:l.length=40/\p.length=40)(d:AY l=false)(b:L):yU l p=2/\Kr l p b=au 4/\N8 l p b=0:=by
 have a:yU l p=2:=by unfold yU;rw[Q9 c,d];rfl
 refine⟨a,?_,?_⟩
 .unfold Kr;rw[a];rfl
 unfold N8;rw[a];rfl
def akE (c:l.length=40/\p.length=40)(d:AY l=true)(a:L):yU l p=0/\Kr l p a=a/\N8 l p a=Ko l a 4:=by
 have b:yU l p=0:=by unfold yU;rw[Q9 c,d];rfl
 refine⟨b,?_,?_⟩
 .unfold Kr;rw[b];rfl
 unfold N8;rw[b];rfl
def aiu (a c:L)(b:Nat):Ko a c (b+1)=Ko a c b+Tv a c b:=rfl
def RQ (b c:L):∀a:Nat,0<=Ko b c a/\Ko b c a<2^a
 | 0=>by show(0:Int)<=0/\(0:Int)<1;omega
 | a+1=>by
  have d:=RQ b c a;have e:=Kq b c a;rw[aiu,Int.pow_succ];omega
def akF:∀a:Fin 4,∀b:Fin 8,b.val<2^a.val->bits BinOp.or IntKind.i64 (b.val:Int) (wrap64 ((2:Int)^a.val))=(b.val:Int)+2^a.val:=by decide +kernel
def amu (a:Nat)(d:a<4)(b:Int)(f:0<=b)(g:b<2^a):bits BinOp.or IntKind.i64 b (wrap64 ((2:Int)^a))=b+2^a:=by
 have hp:(2:Nat)^a<=2^3:=WM gO gO;have e:((2^a:Nat):Int)=(2:Int)^a:=by simp
 have c:b.toNat<2^a:=gO;have:=akF ⟨a,d⟩ ⟨b.toNat,gO⟩ c;simp only at this;rw[show((b.toNat:Nat):Int)=b by omega]at this;exact this
def Ms (m n:V)(d e:L)(a:W)(r:aY a m d)(s:aY a n e)(p:V)(q:¬(d.length=40/\e.length=40))(B:d.length<=1000000000000000000)(C:e.length<=1000000000000000000):Calls prog 230 #[m,n,p] a (Mr a (au 4) 0 1):=by
 have D:=fT YW;have z:=ah2;have c:=Zd<|bY.new a 74 (au 4);have i:=Zd<|aj a (.cells (aF (au 4)) 74) none;obtain⟨t,w,rfl,_,_⟩:=r;obtain⟨u,x,rfl,_,_⟩:=s;generalize d.length=k at *
 generalize e.length=l at *
 by_cases j:k=40
 .have y:¬l=40:=λb=>q ⟨j,b⟩;have v:((l:Int) != 40)=true:=by simp;omega
  subst j;go_enter func230,ntmps230;go_upto_region 1 with fail;generalize a.alloc (.cells (aF (au 4)) 74)=o at *
  go_wp2_with (first|refine sA (au 4) c rfl (by rw[ak];exact kG) ?_);have b:=bF (rs':=au 4) c rfl;have g:=kU b.1 (by rw[ak];exact kG);have f:=Zd<|aG i b.2 (Q6 _);refine QB (v:=.tuple #[.agg (aF (au 4)),I 0,I 1]) ?_ rfl ⟨rfl,f⟩;simp[results,results230,asAddr,Act.put,g]
 have v:((k:Int) != 40)=true:=by simp;omega
 go_enter func230,ntmps230;go_upto_region 1 with fail;generalize a.alloc (.cells (aF (au 4)) 74)=o at *
 go_wp2_with (first|refine sA (au 4) c rfl (by rw[ak];exact kG) ?_);have b:=bF (rs':=au 4) c rfl;have g:=kU b.1 (by rw[ak];exact kG);have f:=Zd<|aG i b.2 (Q6 _);refine QB (v:=.tuple #[.agg (aF (au 4)),I 0,I 1]) ?_ rfl ⟨rfl,f⟩;simp[results,results230,asAddr,Act.put,g]
def Ja (vd vr:V)(a f:L)(g:W)(hd:aY g vd a)(hr:aY g vr f)(nF:Nat)(ai:Array V)(aA:∀b c,(callFunc nF b).run prog c=.ok (.enter nF b) c)(b:L)(hX:b.length=4)(gX:gY b=true)(HF:AY a=true->Finds g nF ai f b)(l:a.length=40)(i:f.length=40):Calls prog 230 #[vd,vr,.func (.func nF) #[] ai] g (Mr g (Kr a f b) (N8 a f b) (yU a f)):=by
 have aw:=fT YW;have aq:=ah2;have B:=Zd<|bY.new g 74 (au 4);have r:=Zd<|aj g (.cells (aF (au 4)) 74) none;have NO:=Zd (λc (y:c<40) (hb:¬(-1099511627776<=aB a c/\aB a c<=1099511627776))=>amt ⟨l,i⟩ (by
  rcases m:AY a with _|_
  .rfl
  exact absurd ((wQ a).1 m c gO) hb) b)
 have Z:=Zd λ(hh:∀c,c<40->-1099511627776<=aB a c/\aB a c<=1099511627776)=>(show AY a=true from(wQ a).2 (λc y=>hh c gO));have SY:=Zd λm=>akE ⟨l,i⟩ m b;have C:=Zd λwr (k:g.grownBy wr none)=>aR hd k;have E:=Zd λwr (k:g.grownBy wr none)=>I9 vr f wr (aR hr k) i;have U:=Zd HF;have ag:=Zd gX;have j:=Zd hX;obtain⟨ad,cp,rfl,_,_⟩:=hd;obtain⟨ar,cr,rfl,_,_⟩:=hr;have F:=Zd l;rw[i]at E;rw[l,i];clear l i HF gX hX;have Q:=Zd (λc (y:c<40) (hb:¬(-1099511627776<=aB a c/\aB a c<=1099511627776)) d (k:g.grownBy d none)=>(show Mr g (Kr a f b) (N8 a f b) (yU a f) (.returned (.tuple #[.agg (aF (au 4)),I 0,I 2])) d from by
  have⟨e1,p,e3⟩:=NO c y hb;rw[e1,p,e3];exact⟨rfl,k⟩))
 have aa:=Zd (λ(m:AY a=true) d (k:g.grownBy d none)=>(show Mr g (Kr a f b) (N8 a f b) (yU a f) (.returned (.tuple #[.agg (aF b),I (Ko a b 4),I 0])) d from by
  have⟨e1,p,e3⟩:=SY m;rw[e1,p,e3];exact⟨rfl,k⟩))
 clear NO SY;generalize Mr g (Kr a f b) (N8 a f b) (yU a f)=ax at *
 go_enter func230,ntmps230;go_upto_region 1 with fail;generalize g.alloc (.cells (aF (au 4)) 74)=X at *
 go_wp2_with fail;go_loop [26] (λc=>∃e:Nat,c=I e/\e<=40/\Hid (∀c,c<e->-1099511627776<=aB a c/\aB a c<=1099511627776)) (λc=>40-(intOf c).toNat)
 case atStart=>exact⟨0,rfl,QN _,λc y=>gO⟩
 case round=>
  obtain⟨e,rfl,hk,G⟩:=hrel;by_cases av:e<40
  .have⟨ap,c',w,l,i⟩:=C X r;simp only[Value.slice.injEq]at w;obtain⟨rfl,p,rfl⟩:=w;obtain⟨ao,rfl,x⟩:=i (by rw[F.out];omega);have D:=x e (by rw[F.out];omega);have s:=Zd<|Q e av;have q:=Zd (λ(hh:-1099511627776<=aB a e/\aB a e<=1099511627776)=>(show ∀c,c<e+1->-1099511627776<=aB a c/\aB a c<=1099511627776 from λc y=>by
    rcases WZ c e with k|k
    .exact G c k
    obtain rfl:c=e:=gO;exact hh))
   clear p l i x Q aa Z G U E C;generalize aB a e=z at *
   have H:(e:Int)<40:=gO;have d:=Zd<|kQ z (-1099511627776) 1099511627776 X;by_cases n:-1099511627776<=z/\z<=1099511627776
   .have t:=Zd<|q n;rw[KN n]at d;clear s q n;go_wp2_with fail;refine d.mono ?_;rintro v u ⟨rfl,rfl⟩;clear d;go_wp2_with fail;go_round
    case rel=>exact⟨e+1,by go_num,gO,t⟩
    case measure=>simp[intOf];omega
   rw[KF n]at d;have o:=bF (rs':=au 4) B rfl;have t:=Zd<|s n _ (aG r o.2 (Q6 _));clear s q n;go_wp2_with fail;refine d.mono ?_;rintro v u ⟨rfl,rfl⟩;clear d;have ab:=Zd<|kU o.1 (by rw[ak];exact kG);clear o;go_wp2_with (first|refine sA (au 4) B rfl (by rw[ak];exact kG) ?_);(try simp only[Exit.inBlock,Exit.then]);refine QB (v:=.tuple #[.agg (aF (au 4)),I 0,I 2]) ?_ rfl t;simp[results,results230,asAddr,Act.put,ab.out]
  obtain rfl:e=40:=gO;have m:=Z G;have af:=Zd<|U m;have R:=Zd<|aa m;clear Z aa U Q G m;have E1:=Zd<|E X r;clear E;rw[show((40:Nat):Int)=40 from rfl];go_wp2_with fail;refine E1.mono ?_;rintro v w2 ⟨an,rfl,b2,_,s⟩;have FN:=Zd<|af w2 an (ay r s) b2;have ae:=Zd<|ay r s;have ac:=Zd<|B.aC s;clear E1 af b2 s r B;go_wp2_with fail;refine FN.mono ?_;rintro v H ⟨rfl,g3⟩;have u:=dG H 74 4 b j;have BF:=Zd u.1;have K:=Zd u.2.1;have M:=Zd<|(ac.aC g3).aC u.2.2;have T:=Zd<|ay (ay ae g3) u.2.2;clear FN g3 u ac ae;go_upto_region 11 with(first|refine sA b BF (by rw[j.out,ak]) (by rw[ak];exact kG) ?_);(try simp only[Act.put]);clear BF aw aq;generalize b_ (H.alloc _) H.heap.size b=Y at *
  generalize H.heap.size=bX at *
  go_wp2_with (first|refine lA K (by rw[j.out];exact kG) ?_);go_loop [12,40] (λq c=>∃d:Nat,c=I d/\d<=4/\q=I (Ko a b d)) (λ_ c=>4-(intOf c).toNat)
  case atStart=>exact⟨0,rfl,QN _,rfl⟩
  case round=>
   obtain⟨d,rfl,hm,rfl⟩:=hrel;by_cases al:d<4
   .have aE:=gF b underlying74 d (by rw[j.out];omega) j;have az:=FE ag j d al;have⟨g1,s⟩:=(jf b).1 ag d (by rw[j.out];omega);have J:=Zd<|AO (d:Int) (aB b d) gO gO g1 s Y;rw[show(d:Int)+4*aB b d=((jO b d:Nat):Int) by unfold jO;omega]at J;have⟨ap,c',w,l,i⟩:=C Y T;simp only[Value.slice.injEq]at w;obtain⟨rfl,p,rfl⟩:=w;obtain⟨ao,rfl,x⟩:=i (by rw[F.out];omega);have cz:=x (jO b d) (by rw[F.out];omega);have D:=Zs (Ko a b (d+1)=Ko a b d+(if aB a (jO b d)<0 then 0 else 2^d)) (rfl);have⟨s1,s2⟩:=RQ a b d;have SI:=Zd<|vI (aB a (jO b d)) Y;have i1:(d:Int)<4:=gO;have i2:((jO b d:Nat):Int)<40:=gO;clear p l i x C R M T K;generalize aB a (jO b d)=z at *
    generalize jO b d=P at *
    generalize aB b d=pl at *
    generalize am:Ko a b (d+1)=s' at *
    have ah:=Zd am;clear am;generalize Ko a b d=q at *
    go_wp2_with fail;refine J.mono ?_;rintro v wy ⟨rfl,rfl⟩;clear J;go_wp2_with fail;refine SI.mono ?_;rintro v wz ⟨rfl,rfl⟩;clear SI;rcases rQ z with⟨n,c⟩|⟨n,c⟩
    .rw[c];have O:=Zs (s'=q) (by rw[D.out,Q9 n];omega);clear D c;go_wp2_with fail;go_round
     case rel=>exact⟨d+1,by go_num,gO,by rw[ah.out,O.out]⟩
     case measure=>simp[intOf];omega
    rw[c];have O:=Zs (s'=q+2^d) (by rw[D.out,X9 gO]);clear D c;have OP:=Zd<|amu d al q s1 s2;go_wp2_with fail;go_round
    case rel=>exact⟨d+1,by go_num,gO,by rw[ah.out,O.out,OP.out]⟩
    case measure=>simp[intOf];omega
   obtain rfl:d=4:=gO;have o:=bF (rs':=b) M (by rw[j.out,ak]);have ab:=Zd<|kU o.1 (by rw[j.out];exact kG);have t:=Zd<|R _ (aG T o.2 (Q6 _));clear o R;generalize Ko a b 4=q at *
   rw[show((4:Nat):Int)=4 from rfl];go_wp2_with (first|refine lA K (by rw[j.out];exact kG) ?_|refine sA b M (by rw[j.out,ak]) (by rw[ak];exact kG) ?_);refine QB (v:=.tuple #[.agg (aF b),I q,I 0]) ?_ rfl t;simp[results,results230,asAddr,Act.put,ab.out]
def akG (b d a:L)(c:a.length=4):(Kr b d a).length=4:=by unfold Kr;split;exact c;rfl
def Gt (a b:L):(mJ a b).length=4/\gY (mJ a b)=true:=tN (cS a) (eS a b) 8
def Ph (f g:V)(a b:L)(d:W)(i:aY d f a)(j:aY d g b)(nF:Nat)(h:Array V)(q:∀c e,(callFunc nF c).run prog e=.ok (.enter nF c) e)(c:L)(p:c.length=4)(o:gY c=true)(k:a.length=40->Finds d nF h b c)(r:a.length<=1000000000000000000)(s:b.length<=1000000000000000000):Calls prog 230 #[f,g,.func (.func nF) #[] h] d (Mr d (Kr a b c) (N8 a b c) (yU a b)):=by
 by_cases e:a.length=40/\b.length=40
 .exact Ja f g a b d i j nF h q c p o (λ_=>k e.1) e.1 e.2
 have⟨l,m,n⟩:=ait e c;rw[l,m,n];exact Ms f g a b d i j _ e r s
def ab_ (d k:V)(a b:L)(c:W)(j:aY c d a)(p:aY c k b)(C:a.length<=1000000000000000000)(D:b.length<=1000000000000000000):Calls prog 187 #[d,k] c (Mr c (Kr a b (mJ a b)) (N8 a b (mJ a b)) (yU a b)):=by
 have O:∀(o:Fn) (first n:Array V) (c:W),(Instr.makeFunc o first n).run prog c=.ok (.func o first n) c:=λ_ _ _ _=>rfl;have P:=fT YW;have z:=aj c (.cells #[d] 26) none;have B:=dF c (.cells #[d] 26);have e:=aj (c.alloc (.cells #[d] 26)) (.cells (aF (au 4)) 74) none;have w:=bY.new1 c (.cells #[d] 26) 74 (au 4);have x:=(aI (fK B e (by simp)) 0).trans (show(#[d]:Array V)[0]?=some d from rfl);have f:=ay z e;have v:=Zd<|Ph d k a b _ (aR j f) (aR p f) 231 #[.pointer (S c.heap.size)] Y1 (mJ a b) (Gt a b).1 (Gt a b).2 (λg=>Pg _ d a b c.heap.size (aR j f) g x) C D;have g:=Zd<|akG a b (mJ a b) (Gt a b).1;have q:=Zd w;have u:=Zd f;obtain⟨G,J,rfl,_,_⟩:=j;obtain⟨H,K,rfl,_,_⟩:=p;generalize Kr a b (mJ a b)=i at *
 generalize N8 a b (mJ a b)=r at *
 generalize yU a b=y at *
 go_enter func187,ntmps187;go_upto_region 1 with fail;generalize (c.alloc _).alloc _=F at *
 go_wp2_with fail;refine v.mono ?_;rintro M Q ⟨rfl,e⟩;have l:=Zd<|q.aC e;have s:=Zd<|ay u e;go_wp2_with (first|refine sA i l (by rw[g.out,ak]) (by rw[ak];exact kG) ?_);have m:=bF (rs':=i) l (by rw[g.out,ak]);have E:=kU m.1 (by rw[g.out];exact kG);have t:=Zd<|aG s m.2 gO;refine QB (v:=.tuple #[.agg (aF i),I r,I y]) ?_ rfl ⟨rfl,t⟩;simp[results,results187,asAddr,Act.put,E]
def m_ (a:Nat)(d:W)(c:V)(b:Nat)(A:List V):Prop:=d.ownsRow a 203 3 c b A
def m_.aC {A:List V}(c:m_ n w x b A)(a:w.grownBy w' none):m_ n w' x b A:=World.ownsRow.kept c a (by rcases x.ownBlock with _|d<;>simp)
def m_.lt {A:List V}(c:m_ n w x b A)(a:Nat)(d:x.ownBlock=some a):n<=a/\a<w.heap.size:=World.ownsRow.lt c a d
def m_.base {b':Nat}{A:List V}(a:m_ n w x b A)(i:b'<=n):m_ b' w x b A:=by
 refine⟨a.1,?_⟩;rcases a.2 with a|⟨f,c,d,e,h,g⟩
 .exact .inl a
 exact .inr ⟨f,c,d,e,gO,g⟩
def aln:(prog.info? 203).map (λa=>(a.zero,a.size,a.bytes))=some (some (.agg #[.pointer none,I 0,I 0]),3,24):=by kernel_rfl
def Rt {n:Nat->Option Bool}{l:Act->W->Prop}{p:Prop}(x:o.guard=none)(j k:Operand)
 (z:o.op=Op.call { callee:=Callee.builtin Builtin.append,args:=#[j,k],argTypes:=#[198,198] }) (e:Nat) (h:V) (f:Nat) (A:List V) (B:a.eval j=h) (u:m_ e w h f A) (i:Addr) (c m:Nat) (b:List V) (D:a.eval k=.slice (some i) c m)
 (t:b.length=c*3) (v:∀g d,b[g]?=some d->w.cell? (i.add g)=some d) (s:∀d∈b,d.oneCell'=true) (d:f+c<=1000) (q:e<=w.heap.size)
 (r:∀g d,m_ e d g (f+c) (A++b)->w.grownBy d h.ownBlock->l (a.put o.dst g) d):if Region.wanted o n=true then Oper.wp prog o a w l Q else p:=by
 have C:Region.wanted o n=true:=by simp[Region.wanted,x]
 rw[Q9 C];have⟨H,y,E,F,G⟩:=info_parts aln;exact wp_append_own w j k 198 z e 203 H _ 3 24 underlying198 y E F G rfl (by decide) h f A B u i c m b D t v s (by unfold maxLen;omega) gO q (λg d b c _=>r g d b c)
def Ib {m:Array Oper}{rest:List Oper}(u:o.guard=none)(j k:Operand)
 (x:o.op=Op.call { callee:=Callee.builtin Builtin.append,args:=#[j,k],argTypes:=#[198,198] }) (e:Nat) (h:V) (f:Nat) (A:List V) (y:a.eval j=h) (s:m_ e w h f A) (i:Addr) (c l:Nat) (b:List V) (z:a.eval k=.slice (some i) c l)
 (r:b.length=c*3) (t:∀g d,b[g]?=some d->w.cell? (i.add g)=some d) (q:∀d∈b,d.oneCell'=true) (d:f+c<=1000) (n:e<=w.heap.size)
 (p:∀g d,m_ e d g (f+c) (A++b)->w.grownBy d h.ownBlock->wpList prog m Q rest (a.put o.dst g) d):wpList prog m Q (o::rest) a w:=by
 have⟨E,v,B,C,D⟩:=info_parts aln;exact wpList_append_own (P:=prog) (w:=w) u j k 198 x e 203 E _ 3 24 underlying198 v B C D rfl (by decide) h f A y s i c l b z r t q (by unfold maxLen;omega) gO n (λg d b c _=>p g d b c)
def Gh (a:W)(L:List V)(b:Nat)(c:V)(d:L[b]?=some c):(a.alloc (.cells L.toArray 203)).cell? (((A a.heap.size 0):Addr).add b)=some c:=by rw[Addr.add_mid,WT,aI (dF a _)];simpa using d
def am0 (b:W)(c:Nat)(e:c<=b.heap.size)(L:List V)(a:Nat)(d:L.length=a*3)(f:a<=1000):m_ c (b.alloc (.cells L.toArray 203)) (.slice (S b.heap.size) a a) a L:=
 ⟨d,.inr ⟨b.heap.size,a,L.toArray,rfl,e,dF b _,Q6 _,by unfold maxLen;omega,by simpa using d,by simp;exact K3 gO⟩⟩
def sK (a b:Nat)(c d:Int):List V:=[.pointer (some (A a b)),I c,I d]
def akn (b a:Nat):List V:=sK b a (lX a:Int) (wo a)
def Gi (a:Nat):Nat->List V
 | 0=>[]
 | b+1=>Gi a b++akn a b
def adN (b:Nat):∀a,(Gi b a).length=a*3
 | 0=>rfl
 | a+1=>by
  show(Gi b a++akn b a).length=_;rw[ZB,adN b a];show a*3+3=_;omega
def adO (d:Nat):∀c a b,a<c->b<3->(Gi d c)[a*3+b]?=(akn d a)[b]?
 | 0,a,b,f,_=>gO
 | c+1,a,b,f,g=>by
  show(Gi d c++akn d c)[a*3+b]?=_;have h:=adN d c;by_cases e:a=c
  .subst e;rw[BK gO,h,show a*3+b-a*3=b by omega]
  rw[BQ gO];exact adO d c a b gO g
def Ea (c d:Nat)(e f:Int):∀b∈sK c d e f,b.oneCell'=true:=by intro b a;simp[sK]at a;rcases a with rfl|rfl|rfl<;>rfl
def haF (a b:Nat):List V:=(((((((sK a b 6 59++sK a (b+1) 3 7)++sK a (b+2) 4 9)++sK a (b+3) 4 9)++sK a (b+4) 4 9)++sK a (b+5) 4 9)++(sK a (b+6) 4 15++sK a (b+7) 5 31)))
def ako (c d:Nat):∀b∈haF c d,b.oneCell'=true:=by intro b a;simp only[haF,List.mem_append]at a;rcases a with(((((a|a)|a)|a)|a)|a)|(a|a)<;>exact Ea _ _ _ _ b a
def ah5 (a b:Nat)(c:b<2):Gi a (9+8*b+8)=Gi a (9+8*b)++haF a (9+8*b):=by
 match b,c with
 | 0,_=>show _=Gi a 9++haF a 9;simp only[Gi,haF,WJ,List.nil_append];rfl
 | 1,_=>show _=Gi a 17++haF a 17;simp only[Gi,haF,WJ,List.nil_append];rfl
def widq:L:=[6,6,5,5,4,4,3,3]
def adP (a:Nat)(b:a<8):widq.getD a 0=(lX (a+1):Int)/\wo (a+1)=2^lX (a+1)-1/\lX (a+1)<=6:=by
 have:∀a:Fin 8,widq.getD a.val 0=(lX (a.val+1):Int)/\wo (a.val+1)=2^lX (a.val+1)-1/\lX (a.val+1)<=6:=by decide
 exact this ⟨a,b⟩
def ah6 (a b c:Int)(e:b<=a)(f:a<=c)(d:W):Calls prog 214 #[I a,I b,I c] d λa b=>a=.returned (.bool true)/\b=d:=by go_enter func214,ntmps214;go_wp2;go_ret;exact⟨rfl,rfl⟩
def ab3 (b:Nat)(d:b<8)(c:W):Calls prog 213 #[I b] c λa b=>a=.returned (.bool true)/\b=c:=by go_enter func213,ntmps213;go_wp2_with fail;refine(ah6 _ _ _ gO gO _).mono ?_;rintro a e ⟨rfl,rfl⟩;go_wp2_with fail;go_ret;exact⟨rfl,rfl⟩
def ab4 (a:Nat)(b:a<8)(c:W)(e:TabA c 4 widq 8):Calls prog 198 #[I a] c λd f=>d=.returned (I (lX (a+1):Int))/\f=c:=by
 have f:=e a b;rw[(adP a b).1]at f;generalize lX (a+1)=g at *
 go_enter func198,ntmps198;go_wp2_with fail;refine(ab3 a b _).mono ?_;rintro d i ⟨rfl,rfl⟩;go_wp2_with fail;go_ret;exact⟨rfl,rfl⟩
def ah7 (a:Nat)(b:a<=6):IntKind.i64.wrap ((2:Int)^a)=2^a/\(2:Int)^a<=64/\0<(2:Int)^a:=by
 have:∀a:Fin 7,IntKind.i64.wrap ((2:Int)^a.val)=2^a.val/\(2:Int)^a.val<=64/\0<(2:Int)^a.val:=by decide +kernel
 exact this ⟨a,gO⟩
def yx (b c:Nat)(a:Nat)(d:a<=6)(e:W):Calls prog 197 #[.pointer (some (A b c)),I (a:Int)] e λf g=>f=.returned (.agg (sK b c (a:Int) (2^a-1)).toArray)/\e.grownBy g none:=by
 unfold sK;have hp:=(ah7 a d).1;have f:=(ah7 a d).2;go_enter func197,ntmps197;go_wp2;refine QB (v:=.agg #[.pointer (some (A b c)),I (a:Int),I (2^a-1)]) (by simp[results,results197,go_sem]) rfl ⟨rfl,?_⟩
 first|exact aj _ _ none|done
def haP (a b:Nat):Nat->List V
 | 0=>sK a b 6 59++sK a (b+1) 3 7
 | c+1=>haP a b c++sK a (b+2+c) 4 9
def ab5 (b c:Nat)(e:W):Calls prog 199 #[.pointer (some ⟨b,c,none⟩)] e λn a=>∃g,n=.returned g/\m_ e.heap.size a g 8 (haF b c)/\e.grownBy a none:=by
 go_enter func199,ntmps199;go_upto_region 1 with fail;refine wp_region_held_drew (S:=dB e) (by kernel_rfl) (aS _) λa=>?_;refine aV 0 a ?_;refine aV 1 a ?_;refine aV 2 a ?_;refine aV 3 a ?_;refine aV 4 a ?_;refine aV 5 a ?_;refine aV 6 a ?_;refine eU 7 λl d=>?_;(try simp only[sZ]);go_simp;refine(yx b (c+1) 3 gO _).mono ?_;rintro n k ⟨rfl,s⟩;have o:=Zd s;clear s;unfold sK;go_wp2_with fail;refine d.out _ _ (aX a o) λa=>?_;clear d;(try simp only[sZ]);refine eU 8 λl d=>?_;(try simp only[sZ]);go_simp;go_wp2_with fail;refine d.out _ _ (dZ a _) λa=>?_;clear d;(try simp only[sZ]);refine aV 9 a ?_;refine jX ?_;have r:=Zs (m_ e.heap.size (k.alloc (.cells (haP b c 0).toArray 203)) (.slice (some ⟨k.heap.size,0,none⟩) 2 2) 2 (haP b c 0)/\dB e (k.alloc (.cells (haP b c 0).toArray 203))) (⟨am0 k _ (by have:=o.size;exact this) (haP b c 0) 2 rfl gO,a⟩);simp only[haP,sK,List.cons_append,List.nil_append]at r;clear o a;generalize k.alloc _=B at *
 generalize Value.slice (some ⟨k.heap.size,0,none⟩) 2 2=E at *
 go_wp2_with fail;go_loopw [3,14] (λg i wr=>∃f:Nat,i=I f/\f<=4/\Hid (m_ e.heap.size wr g (2+f) (haP b c f)/\dB e wr)) (λ_ i _=>4-(intOf i).toNat)
 case atStart=>exact⟨0,rfl,QN _,r⟩
 case round=>
  obtain⟨f,rfl,C,i⟩:=hrel;clear r;by_cases D:f<4
  .have u:(f:Int)<4:=gO;go_upto_region 5 with fail;go_wp2_with (refine Ib rfl _ _ rfl e.heap.size _ (2+f) (haP b c f) rfl (i.1.aC (aj _ _ none)) _ 1 1 (sK b (c+2+f) 4 9) rfl rfl (λs k j=>Gh wr _ s k j) (Ea _ _ _ _) gO (by have:=i.2.size;simp;omega) ?_);intro q t g m;have p:=Zs (m_ e.heap.size t q (2+(f+1)) (haP b c (f+1))/\dB e t) (⟨g,gV (dZ i.2 _) m (λo r=>(i.1.lt o r).1)⟩);clear g m i;go_wp2_with fail;go_roundw
   case rel=>exact⟨f+1,by go_num,gO,p⟩
   case measure=>simp[intOf];omega
  obtain rfl:f=4:=gO;rw[show((4:Nat):Int)=4 from rfl];go_upto_region 7 with fail;refine wp_region_held_drew (S:=dB e) (by kernel_rfl) (aX i.2 (bB (aM _ none))) λa=>?_;have g:=Zd<|i.1.aC (bB (aM wr none));clear i;generalize wr.drew=F at *
  refine aV 0 a ?_;refine aV 1 a ?_;refine aV 2 a ?_;refine aV 3 a ?_;refine aV 5 a ?_;refine aV 6 a ?_;refine aV 7 a ?_;refine eU 4 λl d=>?_;(try simp only[sZ]);go_simp;refine(yx b (c+6) 4 gO _).mono ?_;rintro n t ⟨rfl,m⟩;have p:=Zd m;clear m;unfold sK;go_wp2_with fail;refine d.out _ _ (aX a p) λa=>?_;clear d;(try simp only[sZ]);replace g:=Zd<|g.aC p;clear p;refine eU 8 λl d=>?_;(try simp only[sZ]);go_simp;refine(yx b (c+7) 5 gO _).mono ?_;rintro n x ⟨rfl,u⟩;have q:=Zd u;clear u;unfold sK;go_wp2_with fail;refine d.out _ _ (aX a q) λa=>?_;clear d;(try simp only[sZ]);replace g:=Zd<|g.aC q;clear q;refine eU 9 λl d=>?_;(try simp only[sZ]);go_simp;go_wp2_with fail;refine d.out _ _ (dZ a _) λa=>?_;clear d;(try simp only[sZ]);replace g:=Zd<|g.aC (aj x (.cells #[.pointer (some ⟨b,c+6,none⟩),I 4,I 15,.pointer (some ⟨b,c+7,none⟩),I 5,I 31] 203) none);refine eU 10 λl d=>?_;(try simp only[sZ]);refine Rt rfl _ _ rfl e.heap.size _ (2+4) (haP b c 4) rfl g _ 2 2 (sK b (c+6) 4 15++sK b (c+7) 5 31) rfl rfl (λs k j=>Gh x _ s k j) (λk j=>by rcases List.mem_append.1 j with j|j<;>exact Ea _ _ _ _ k j) gO (by have:=a.size;simpa using this) ?_;intro z y w v;have l:=Zd w;clear w;refine d.out _ _ (gV a v (λo r=>(g.lt o r).1)) λa=>?_;clear d;(try simp only[sZ]);clear v g;refine aV 11 a ?_;refine jX ?_;have d:=Zs (m_ e.heap.size y z 8 (haF b c)/\e.grownBy y none) (⟨l,a⟩);clear l a;go_wp2_with fail;go_ret;exact⟨_,rfl,d.1,d.2⟩
def akp {A:List V}(c:m_ n w x b A)(a:0<b):∃e a,x=.slice (some e) b a/\∀a d,A[a]?=some d->w.cell? (e.add a)=some d:=by
 rcases id c.2 with⟨_,i⟩|⟨f,e,h,g,j,k,_⟩
 .omega
 subst g;refine⟨⟨f,0,none⟩,e,rfl,λa d e=>?_⟩;have d:a<b*3:=by
  by_cases d:a<b*3
  .exact d
  rw[U8 (by rw[c.1];omega)]at e;cases e
 rw[Addr.add_mid,WT,World.ownsRow.cellAt c a d];exact e
def yB (d:Nat)(b:W)(x:TabA b 4 widq 8):Calls prog 149 #[.pointer (some ⟨d,0,none⟩)] b λo a=>∃j,o=.returned j/\m_ b.heap.size a j 25 (Gi d 25)/\b.grownBy a none:=by
 have v:=Zd x;clear x;have q:=Zs (m_ b.heap.size (b.alloc (.cells (Gi d 1).toArray 203)) (.slice (some ⟨b.heap.size,0,none⟩) 1 1) 1 (Gi d 1)/\dB b (b.alloc (.cells (Gi d 1).toArray 203))) (⟨am0 b _ (Q6 _) (Gi d 1) 1 rfl gO,aj _ _ none⟩);rw[show(Gi d 1).toArray=#[.pointer (some ⟨d,0,none⟩),I 2,I 2]from rfl]at q;go_enter func149,ntmps149;go_wp2_with fail;generalize b.alloc _=D at *
 generalize Value.slice (some ⟨b.heap.size,0,none⟩) 1 1=H at *
 go_loopw [3,11] (λj g wr=>∃a:Nat,g=I a/\a<=8/\Hid (m_ b.heap.size wr j (a+1) (Gi d (a+1))/\dB b wr)) (λ_ g _=>8-(intOf g).toNat)
 case atStart=>exact⟨0,rfl,QN _,q⟩
 case round=>
  obtain⟨a,rfl,F,l⟩:=hrel;clear q;by_cases y:a<8
  .have c:(a:Int)<8:=gO;have s:=Zd<|adP a y;go_upto_region 5 with fail;refine wp_region_held_drew (S:=dB b) (by kernel_rfl) (aX l.2 (bB (aM _ none))) λc=>?_;have f:=Zd<|l.1.aC (bB (aM wr none));clear l;generalize wr.drew=B at *
   refine aV 0 c ?_;refine aV 1 c ?_;refine aV 2 c ?_;refine aV 3 c ?_;refine aV 4 c ?_;refine aV 5 c ?_;refine aV 6 c ?_;refine eU 7 λk e=>?_;(try simp only[sZ]);go_simp;refine(ab4 a y _ (eY v c)).mono ?_;rintro o z ⟨rfl,rfl⟩;go_wp2_with fail;refine e.out _ _ c λc=>?_;clear e;(try simp only[sZ]);refine eU 8 λk e=>?_;(try simp only[sZ]);go_simp;refine(yx d (1+a) (lX (a+1)) (by have:=s.out;omega) _).mono ?_;rintro o u ⟨rfl,i⟩;have p:=Zd i;clear i;unfold sK;go_wp2_with fail;refine e.out _ _ (aX c p) λc=>?_;clear e;(try simp only[sZ]);replace f:=Zd<|f.aC p;clear p;refine eU 9 λk e=>?_;(try simp only[sZ]);go_simp;go_wp2_with fail;refine e.out _ _ (dZ c _) λc=>?_;clear e;(try simp only[sZ]);replace f:=Zd<|f.aC (aj u (.cells #[.pointer (some ⟨d,1+a,none⟩),I (lX (a+1):Int),I (2^lX (a+1)-1)] 203) none);refine eU 10 λk e=>?_;(try simp only[sZ]);refine Rt rfl _ _ rfl b.heap.size _ (a+1) (Gi d (a+1)) rfl f _ 1 1 (sK d (1+a) (lX (a+1):Int) (2^lX (a+1)-1)) rfl rfl (λm n k=>Gh u _ m n k) (Ea _ _ _ _) gO (by have:=c.size;simpa using this) ?_;intro t n m k;have w:=Zd m;clear m;refine e.out _ _ (gV c k (λp q=>(f.lt p q).1)) λc=>?_;clear e;(try simp only[sZ]);clear k f;refine aV 11 c ?_;refine jX ?_;have r:=Zs (m_ b.heap.size n t (a+1+1) (Gi d (a+1+1))/\dB b n) (⟨by have e:=w.out;rw[<-s.out.2.1,Nat.add_comm 1 a]at e;exact e,c⟩);clear w c s;go_wp2_with fail;go_roundw
   case rel=>exact⟨a+1,by go_num,gO,r⟩
   case measure=>simp[intOf];omega
  obtain rfl:a=8:=gO;rw[show((8:Nat):Int)=8 from rfl];clear v;go_wp2_with fail;go_loopw [3,26] (λj g wr=>∃c:Nat,g=I c/\c<=2/\Hid (m_ b.heap.size wr j (9+8*c) (Gi d (9+8*c))/\dB b wr)) (λ_ g _=>2-(intOf g).toNat)
  case atStart=>exact⟨0,rfl,QN _,l⟩
  case round=>
   obtain⟨c,rfl,E,e⟩:=hrel;clear l;by_cases C:c<2
   .have G:(c:Int)<2:=gO;go_wp2_with fail;refine(ab5 d (9+c*8) wr).mono ?_;rintro o u ⟨J,rfl,j,i⟩;rw[Nat.mul_comm c 8]at j;obtain⟨z,B,rfl,w⟩:=akp j gO;have g:=Zd<|e.1.aC i;have f:=Zd<|aX e.2 i;have s:=Zd w;clear j i e w;go_wp2_with (refine Ib rfl _ _ rfl b.heap.size _ (9+8*c) (Gi d (9+8*c)) rfl g z 8 B (haF d (9+8*c)) rfl rfl s (ako _ _) gO f.size ?_);intro t n m k;have r:=Zs (m_ b.heap.size n t (9+8*(c+1)) (Gi d (9+8*(c+1)))/\dB b n) (⟨by rw[show 9+8*(c+1)=9+8*c+8 by omega,ah5 d c C];exact m,gV f k (λp q=>(g.lt p q).1)⟩);clear m k g f s;go_wp2_with fail;go_roundw
    case rel=>exact⟨c+1,by go_num,gO,r⟩
    case measure=>simp[intOf];omega
   obtain rfl:c=2:=gO;rw[show((2:Nat):Int)=2 from rfl];go_wp2_with fail;go_ret;exact⟨_,rfl,e.1,e.2⟩
def Ma (a d c b:Nat)(h:b<256)(e:d=256*c+b):a &&& d=256*(a / 256 &&& c)+(a % 256 &&& b):=by
 have f:(a &&& d) / 256=(a / 256 &&& c):=by
  have:=Nat.and_div_two_pow (a:=a) (b:=d) (n:=8);rw[show(2:Nat)^8=256 from rfl]at this;rw[this,e,show(256*c+b) / 256=c by omega]
 have g:(a &&& d) % 256=(a % 256 &&& b):=by
  have:=Nat.and_mod_two_pow (a:=a) (b:=d) (n:=8);rw[show(2:Nat)^8=256 from rfl]at this;rw[this,e,show(256*c+b) % 256=b by omega]
 omega
def UH (a:Nat):Nat->Nat
 | 0=>0
 | b+1=>256*UH a b+a
def stA (a b:Nat):Nat:=(b / 2 &&& UH 85 a)+(b &&& UH 85 a)
def VU (a b:Nat):Nat:=(b / 4 &&& UH 51 a)+(b &&& UH 51 a)
def stC (b a:Nat):Nat:=a / 16+a &&& UH 15 b
def a8 (a:Nat):Nat:=(a / 2 &&& 85)+(a &&& 85)
def b8 (a:Nat):Nat:=(a / 4 &&& 51)+(a &&& 51)
def c8 (a:Nat):Nat:=a / 16+a &&& 15
def YE (a:Nat):Nat:=a % 2+a / 2 % 2+a / 4 % 2+a / 8 % 2+a / 16 % 2+a / 32 % 2+a / 64 % 2+a / 128 % 2
def am1 (a:Nat)(b:a<256):a8 a<256:=by
 have:∀a:Fin 256,a8 a.val<256:=by decide +kernel
 exact this ⟨a,b⟩
def alo (a:Nat)(b:a<256):b8 a<112/\b8 a % 16<=6:=by
 have:∀a:Fin 256,b8 a.val<112/\b8 a.val % 16<=6:=by decide +kernel
 exact this ⟨a,b⟩
def Eb (a:Nat)(b:a<256):c8 (b8 (a8 a))=YE a/\YE a<=8:=by
 have:∀a:Fin 256,c8 (b8 (a8 a.val))=YE a.val/\YE a.val<=8:=by decide +kernel
 exact this ⟨a,b⟩
def am2 (a:Nat)(b:a<256):a &&& 85=a % 128 &&& 85:=by
 have:∀a:Fin 256,a.val &&& 85=a.val % 128 &&& 85:=by decide +kernel
 exact this ⟨a,b⟩
def am3 (a:Nat)(b:a<256):a &&& 51=a % 64 &&& 51:=by
 have:∀a:Fin 256,a.val &&& 51=a.val % 64 &&& 51:=by decide +kernel
 exact this ⟨a,b⟩
def alp (a:Nat)(b:a<256):a &&& 15=a % 16:=by
 have:∀a:Fin 256,a.val &&& 15=a.val % 16:=by decide +kernel
 exact this ⟨a,b⟩
def ah8 (b a:Nat):stA (b+1) a=256*stA b (a / 256)+a8 (a % 256):=by unfold stA a8;rw[Ma (a / 2) (UH 85 (b+1)) (UH 85 b) 85 (by decide) rfl,Ma a (UH 85 (b+1)) (UH 85 b) 85 (by decide) rfl];rw[show a / 2 / 256=a / 256 / 2 by omega,am2 (a / 2 % 256) gO,show a / 2 % 256 % 128=a % 256 / 2 by omega];omega
def YF (b a:Nat):VU (b+1) a=256*VU b (a / 256)+b8 (a % 256):=by unfold VU b8;rw[Ma (a / 4) (UH 51 (b+1)) (UH 51 b) 51 (by decide) rfl,Ma a (UH 51 (b+1)) (UH 51 b) 51 (by decide) rfl];rw[show a / 4 / 256=a / 256 / 4 by omega,am3 (a / 4 % 256) gO,show a / 4 % 256 % 64=a % 256 / 4 by omega];omega
def ah9 (c b a:Nat)(h:a<112)(f:a % 16<=6)(g:b % 16<=6):stC (c+1) (256*b+a)=256*stC c b+c8 a:=by unfold stC c8;rw[Ma _ (UH 15 (c+1)) (UH 15 c) 15 (by decide) rfl];have d:((256*b+a) / 16+(256*b+a)) / 256=b / 16+b:=gO;rw[d,alp _ gO,alp (a / 16+a) gO];have e:((256*b+a) / 16+(256*b+a)) % 256 % 16=(a / 16+a) % 16:=gO;omega
def onF:Nat->Nat->Nat
 | 0,_=>0
 | b+1,a=>256*onF b (a / 256)+YE (a % 256)
def anD (b a:Nat):VU b a % 16<=6:=by
 cases b with
 | zero=>show((a / 4 &&& 0)+(a &&& 0)) % 16<=6;simp
 | succ b=>
  rw[YF];have:=alo (a % 256) gO;omega
def ah_:∀b a,stC b (VU b (stA b a))=onF b a
 | 0,a=>by show _ &&& 0=0;simp
 | b+1,a=>by
  have d:=am1 (a % 256) gO;have c:=alo (a8 (a % 256)) d;have e:=Eb (a % 256) gO;rw[ah8,YF];rw[show(256*stA b (a / 256)+a8 (a % 256)) / 256=stA b (a / 256) by omega,show(256*stA b (a / 256)+a8 (a % 256)) % 256=a8 (a % 256) by omega];rw[ah9 b _ _ c.1 c.2 (anD b _),ah_ b,e.1];rfl
def onS:Nat->Nat->Nat
 | 0,_=>0
 | b+1,a=>onS b (a / 256)+YE (a % 256)
def amh (a:Nat):∃c b d,onF 8 a+onF 8 a / 256=c/\c+c / 65536=b/\b+b / 4294967296=d/\onF 8 a<2^62/\c<2^62/\b<2^62/\d<2^62/\d % 128=onS 8 a:=by
 have j:=(Eb (a % 256) gO).2;have k:=(Eb (a / 256 % 256) gO).2;have l:=(Eb (a / 256 / 256 % 256) gO).2;have m:=(Eb (a / 256 / 256 / 256 % 256) gO).2;have n:=(Eb (a / 256 / 256 / 256 / 256 % 256) gO).2;have o:=(Eb (a / 256 / 256 / 256 / 256 / 256 % 256) gO).2;have p:=(Eb (a / 256 / 256 / 256 / 256 / 256 / 256 % 256) gO).2;have q:=(Eb (a / 256 / 256 / 256 / 256 / 256 / 256 / 256 % 256) gO).2;simp only[onF,onS];generalize YE (a % 256)=i at *
 generalize YE (a / 256 % 256)=h at *
 generalize YE (a / 256 / 256 % 256)=g at *
 generalize YE (a / 256 / 256 / 256 % 256)=f at *
 generalize YE (a / 256 / 256 / 256 / 256 % 256)=e at *
 generalize YE (a / 256 / 256 / 256 / 256 / 256 % 256)=d at *
 generalize YE (a / 256 / 256 / 256 / 256 / 256 / 256 % 256)=c at *
 generalize YE (a / 256 / 256 / 256 / 256 / 256 / 256 / 256 % 256)=b at *
 refine⟨_,_,_,rfl,rfl,rfl,?_⟩;rw[show(256*(256*(256*(256*(256*(256*(256*(256*0+b)+c)+d)+e)+f)+g)+h)+i) / 256=256*(256*(256*(256*(256*(256*b+c)+d)+e)+f)+g)+h by omega];rw[show(256*(256*(256*(256*(256*(256*(256*(256*0+b)+c)+d)+e)+f)+g)+h)+i+(256*(256*(256*(256*(256*(256*b+c)+d)+e)+f)+g)+h)) / 65536=256*(256*(256*(256*(256*b+(c+b))+(d+c))+(e+d))+(f+e))+(g+f) by omega];rw[show(256*(256*(256*(256*(256*(256*(256*(256*0+b)+c)+d)+e)+f)+g)+h)+i+(256*(256*(256*(256*(256*(256*b+c)+d)+e)+f)+g)+h)+(256*(256*(256*(256*(256*b+(c+b))+(d+c))+(e+d))+(f+e))+(g+f))) / 4294967296=256*(256*(256*b+(c+b))+(d+c+b))+(e+d+c+b) by omega];refine⟨gO,gO,gO,gO,?_⟩;omega
def alq (a:Nat):rT (a:Int) 8=(YE (a % 256):Int):=by show 0+(a:Int) / 1 % 2+(a:Int) / 2 % 2+(a:Int) / 4 % 2+(a:Int) / 8 % 2+(a:Int) / 16 % 2+(a:Int) / 32 % 2+(a:Int) / 64 % 2+(a:Int) / 128 % 2=_;unfold YE;omega
def rZ (a:Nat):∀b:Nat,rT (a:Int) (b+8)=(YE (a % 256):Int)+rT ((a / 256:Nat):Int) b
 | 0=>by rw[WT,alq];show _=_+(0:Int);omega
 | b+1=>by
  show rT (a:Int) (b+8)+(a:Int) / 2^(b+8) % 2=_+(rT ((a / 256:Nat):Int) b+((a / 256:Nat):Int) / 2^b % 2);rw[rZ a b,Nat.add_comm b 8,Int.pow_add,<-WR (by decide)];rw[show(a:Int) / 2^8=((a / 256:Nat):Int) by rw[show(2:Int)^8=256 by decide];omega];omega
def akq (a:Nat):rT (a:Int) 64=(onS 8 a:Int):=by rw[show 64=56+8 from rfl,rZ,show 56=48+8 from rfl,rZ,show 48=40+8 from rfl,rZ,show 40=32+8 from rfl,rZ,show 32=24+8 from rfl,rZ,show 24=16+8 from rfl,rZ,show 16=8+8 from rfl,rZ,alq];simp only[onS];omega
def akr (a:Int)(b:0<=a)(c:a<9223372036854775808):rT a 64=rT a 63:=by show rT a 63+a / 2^63 % 2=rT a 63;rw[show(2:Int)^63=9223372036854775808 by decide];omega
def Mc (b:Nat)(N:Int)(a:Nat):Int:=if 8*(a+1)<=b then N / 2^(b-8*(a+1)) % 256 else if 8*a<=b then N % 2^(b-8*a)*2^(8-(b-8*a))else 0
def Lay (c:Nat)(N:Int)(b:L):Prop:=b.length=15/\∀a,a<15->aB b a=Mc c N a
def aia:Lay 0 0 (au 15):=⟨ak 15,λa a=>by
 rw[jU];unfold Mc;rw[nO];split
 .simp
 rfl⟩
def aks (N a:Int)(c:0<=a)(d:a<2)(b:Nat):(2*N+a) / 2^(b+1)=N / 2^b:=by rw[Int.pow_succ,V7 (2^b) 2,<-WR (by decide),show(2*N+a) / 2=N by omega]
def UJ (N a:Int)(h:0<=a)(i:a<2)(b:Nat):(2*N+a) % 2^(b+1)=2*(N % 2^b)+a:=by
 have hp:=jP b;have c:=Int.mul_ediv_add_emod N (2^b);have f:=FT N (Int.ne_of_gt hp);have g:=H7 N hp;rw[Int.pow_succ];generalize (2:Int)^b=P at *
 generalize N % P=e at *
 generalize N / P=d at *
 rw[show 2*N+a=2*e+a+(P*2)*d by rw[<-c,Int.mul_add,V7 P 2,FP];omega];rw[Int.add_mul_emod_self_left];exact Int.emod_eq_of_lt gO gO
def ami (a:Nat)(N:Int)(b:a<120):∃b,Mc a N (a / 8)=b*2^(8-a % 8)/\0<=b/\b<2^(a % 8):=by unfold Mc;rw[nO,pO,show a-8*(a / 8)=a % 8 by omega];exact⟨_,rfl,FT _ (Int.ne_of_gt (jP _)),H7 _ (jP _)⟩
def aib {N:Int}(b:Lay n N l)(k:n<120)(a:Int)(c:0<=a)(d:a<2):Lay (n+1) (2*N+a) (l.set (n / 8) (aB l (n / 8)+a*2^(7-n % 8))):=by
 have⟨i,h⟩:=b;refine⟨by rw[XB,i],λb f=>?_⟩;rw[Dn _ _ _ gO];by_cases e:b=n / 8
 .subst e;rw[Q9 rfl,h _ f];unfold Mc;rw[nO,pO,show n-8*(n / 8)=n % 8 by omega];by_cases g:n % 8=7
  .rw[pO,g,show n+1-8*(n / 8+1)=0 by omega];rw[show(2:Int)^0=1 from rfl,Int.ediv_one,show(256:Int)=2^(7+1)from rfl,UJ N a c d];rw[show(2:Int)^(8-7)=2 from rfl];omega
  rw[nO,pO,show n+1-8*(n / 8)=n % 8+1 by omega,UJ N a c d];rw[show 8-n % 8=(7-n % 8)+1 by omega,show 8-(n % 8+1)=7-n % 8 by omega,Int.pow_succ,GL];rw[V7 (2^(7-n % 8)) 2,<-FP,V7 (N % 2^(n % 8)) 2]
 rw[X9 e,h _ f];unfold Mc;by_cases f:8*(b+1)<=n
 .rw[Q9 f,pO,show n+1-8*(b+1)=n-8*(b+1)+1 by omega,aks N a c d]
 rw[X9 f,nO,nO];by_cases j:8*(b+1)<=n+1
 .omega
 by_cases g:8*b<=n+1
 .rw[Q9 g,show n+1-8*b=0 by omega,show(2:Int)^0=1 from rfl,Int.emod_one,Int.zero_mul]
 rw[X9 g]
def OI (N:Int)(b:Nat)(c:Int)(a:Nat):Int:=N*2^a+c / 2^(b-a)
def afh (N:Int)(b:Nat)(a:Int)(c:0<=a)(d:a<2^b):OI N b a 0=N:=by unfold OI;rw[show(2:Int)^0=1 from rfl,Nat.sub_zero,Int.ediv_eq_zero_of_lt c d];omega
def afi (N:Int)(b:Nat)(c:Int)(a:Nat)(d:a<b):OI N b c (a+1)=2*OI N b c a+c / 2^(b-1-a) % 2:=by unfold OI;rw[Int.pow_succ,show b-a=(b-1-a)+1 by omega,show b-(a+1)=b-1-a by omega,Int.pow_succ,<-WR (VR (jP _)),Int.mul_add];rw[<-FP,V7 (N*2^a) 2,<-FP];generalize c / 2^(b-1-a)=e;omega
def aic (N:Int)(a:Nat)(b:Int):OI N a b a=N*2^a+b:=by unfold OI;rw[Nat.sub_self,show(2:Int)^0=1 from rfl,Int.ediv_one]
def zL (b:Int)(c a:Nat):Int:=b / 2^(112-c-a) % 2^a
def afj (a:Int)(b:Nat):zL a b 0=0:=by unfold zL;rw[show(2:Int)^0=1 from rfl,Int.emod_one]
def akt (b:Int)(c a:Nat):0<=zL b c a/\zL b c a<2^a:=⟨FT _ (Int.ne_of_gt (jP _)),H7 _ (jP _)⟩
def afk (d:Int)(b a:Nat)(e:b+a<112):zL d b (a+1)=2*zL d b a+d / 2^(111-(b+a)) % 2:=by unfold zL;rw[show 112-b-(a+1)=111-(b+a) by omega,show 112-b-a=111-(b+a)+1 by omega,Int.pow_succ 2 (111-(b+a)),<-WR (VR (jP _))];generalize d / 2^(111-(b+a))=c;have:=UJ (c / 2) (c % 2) gO gO a;rw[show 2*(c / 2)+c % 2=c by omega]at this;exact this
def amj (a:Int)(b:Nat)(c:b<8):a % 256 / 2^b % 2=a / 2^b % 2:=by
 match b,c with
 | 0,_=>show a % 256 / 1 % 2=a / 1 % 2;omega
 | 1,_=>show a % 256 / 2 % 2=a / 2 % 2;omega
 | 2,_=>show a % 256 / 4 % 2=a / 4 % 2;omega
 | 3,_=>show a % 256 / 8 % 2=a / 8 % 2;omega
 | 4,_=>show a % 256 / 16 % 2=a / 16 % 2;omega
 | 5,_=>show a % 256 / 32 % 2=a / 32 % 2;omega
 | 6,_=>show a % 256 / 64 % 2=a / 64 % 2;omega
 | 7,_=>show a % 256 / 128 % 2=a / 128 % 2;omega
def aie (b:Int)(a:Nat)(c:a<112):b / 256^(13-a / 8) % 256 / 2^(7-a % 8) % 2=b / 2^(111-a) % 2:=by rw[amj _ _ gO,show(256:Int)=2^8 from rfl,<-Int.pow_mul,WR (VR (jP _)),<-Int.pow_add,show 8*(13-a / 8)+(7-a % 8)=111-a by omega]
def aku (b:Nat)(N:Int)(a:Nat):0<=Mc b N a/\Mc b N a<256:=by
 unfold Mc;split
 .omega
 split
 .next h1 h2=>
  have hp:=jP (b-8*a);have d:=FT N (Int.ne_of_gt hp);have e:=H7 N hp;have c:=jP (8-(b-8*a));have f:(2:Int)^(b-8*a)*2^(8-(b-8*a))=256:=by
   rw[<-Int.pow_add,show b-8*a+(8-(b-8*a))=8 by omega];rfl
  refine⟨ZA d (VR c),?_⟩;rw[<-f];exact Int.mul_lt_mul_of_pos_right e c
 omega
def Lay.bd {N:Int}(b:Lay n N l)(a:Nat):0<=aB l a/\aB l a<256:=by
 by_cases c:a<15
 .rw[b.2 a c];exact aku n N a
 rw[dI _ a (by rw[b.1];omega)];omega
def orF:∀a:Fin 8,∀b:Fin 256,∀c:Fin 2,(b.val:Int) % 2^(8-a.val)=0->bits BinOp.or IntKind.u8 (b.val:Int) ((c.val:Int)*2^(7-a.val))=(b.val:Int)+(c.val:Int)*2^(7-a.val):=by decide +kernel
def aif {N:Int}(b:Lay n N l)(f:n<120)(a:Int)(c:0<=a)(h:a<2):bits BinOp.or IntKind.u8 (aB l (n / 8)) (a*2^(7-n % 8))=aB l (n / 8)+a*2^(7-n % 8):=by
 have e:=b.bd (n / 8);have g:aB l (n / 8) % 2^(8-n % 8)=0:=by
  rw[b.2 _ gO];have⟨i,d,_,_⟩:=ami n N f;rw[d,Int.mul_emod_left]
 have:=orF ⟨n % 8,gO⟩ ⟨(aB l (n / 8)).toNat,gO⟩ ⟨a.toNat,gO⟩;simp only[BR e.1,BR c]at this;exact this g
def anE:∀b:Fin 8,∀a:Fin 2,(a.val:Int)*2^b.val % 256=(a.val:Int)*2^b.val/\(a.val:Int)*2^b.val<=128:=by decide +kernel
def akv (b:Nat)(d:b<8)(a:Int)(c:0<=a)(e:a<2):a*2^b % 256=a*2^b/\0<=a*2^b/\a*2^b<=128:=by have:=anE ⟨b,d⟩ ⟨a.toNat,gO⟩;simp only[BR c]at this;exact⟨this.1,ZA c (VR (jP b)),this.2⟩
def am4:∀a:Fin 256,bits BinOp.and IntKind.i64 (a.val:Int) 1=(a.val:Int) % 2:=by decide +kernel
def am5:∀a:Fin 256,bits BinOp.and IntKind.u8 (a.val:Int) 1=(a.val:Int) % 2:=by decide +kernel
def akw:∀b:Fin 16,∀a:Fin 256,bits BinOp.and IntKind.i64 (256*(b.val:Int)+(a.val:Int)) 255=(a.val:Int):=by decide +kernel
def anF:∀b:Fin 64,∀a:Fin 2,bits BinOp.or IntKind.i64 (2*(b.val:Int)) (a.val:Int)=2*(b.val:Int)+(a.val:Int):=by decide +kernel
def am6 (a:Int)(b:0<=a)(c:a<256):bits BinOp.and IntKind.i64 a 1=a % 2:=by have:=am4 ⟨a.toNat,gO⟩;simpa only[BR b] using this
def am7 (a:Int)(b:0<=a)(c:a<256):bits BinOp.and IntKind.u8 a 1=a % 2:=by have:=am5 ⟨a.toNat,gO⟩;simpa only[BR b] using this
def akx (a:Int)(b:0<=a)(c:a<4096):bits BinOp.and IntKind.i64 a 255=a % 256:=by have:=akw ⟨(a / 256).toNat,gO⟩ ⟨(a % 256).toNat,gO⟩;simp only[BR (show 0<=a / 256 by omega),BR (show 0<=a % 256 by omega)]at this;rw[show 256*(a / 256)+a % 256=a by omega]at this;exact this
def anG (b a:Int)(d:0<=b)(f:b<64)(c:0<=a)(e:a<2):bits BinOp.or IntKind.i64 (2*b) a=2*b+a:=by have:=anF ⟨b.toNat,gO⟩ ⟨a.toNat,gO⟩;simpa only[BR d,BR c] using this
def aii (b:Int)(c:0<=b)(d:b<256)(a:Nat):0<=b / 2^a/\b / 2^a<256:=by have hp:=jP a;refine⟨F7 c (VR hp),?_⟩;have:=Int.ediv_le_self (2^a) c;omega
def amk {N:Int}(b:Lay 112 N l)(a:Nat)(c:a<14):aB l a=Q7 N a:=by rw[b.2 a gO];unfold Mc Q7;rw[pO,show(256:Int)=2^8 from rfl,<-Int.pow_mul,show 112-8*(a+1)=8*(13-a) by omega]
def aky {N:Int}(b:Lay 112 N l):qJ l 14=qJ (Dl N) 14:=by unfold qJ;rw[oI l (Dl N) 14 (λc a=>by rw[amk b c a,Dm _ _ a])]
def akz (b:Lay 120 (oH l*2^8+qJ (Dl (oH l)) 14) p):p=GJ l:=by
 have f:0<=qJ (Dl (oH l)) 14/\qJ (Dl (oH l)) 14<256:=by unfold qJ;omega
 have e:=dL (p:=aB (GJ l)) b.1 (λa c=>by
  rw[b.2 a c];unfold Mc;rw[pO];by_cases c:a=14
  .subst c;rw[show 120-8*(14+1)=0 from rfl,show(2:Int)^0=1 from rfl,Int.ediv_one,show(2:Int)^8=256 from rfl,alP];have d:qJ (GJ l) 14=qJ (Dl (oH l)) 14:=by
    unfold qJ;rw[oI (GJ l) (Dl (oH l)) 14 (λc b=>by rw[aaI l c b,Dm _ _ b])]
   rw[d];omega
  rw[aaI l a gO,show 120-8*(a+1)=8+8*(13-a) by omega,Int.pow_add,<-WR (by decide),show(2:Int)^8=256 from rfl,show(oH l*256+qJ (Dl (oH l)) 14) / 256=oH l by omega];unfold Q7;rw[show(256:Int)=2^8 from rfl,<-Int.pow_mul])
 have a:=dL (p:=aB (GJ l)) (ajm l) (λc _=>rfl);rw[e,<-a]
def UM (a:Nat):sW (a+1)=sW a+lX a:=rfl
def afl (b:Int)(a:Nat):zL b (sW a) (lX a)=fI b a:=by unfold zL fI;rw[UM,Nat.sub_sub]
def akA (a:Int):zL a 106 1=pB a:=by show a / 2^5 % 2^1=a / 32 % 2;rw[show(2:Int)^5=32 from rfl,show(2:Int)^1=2 from rfl]
def afm (a:Int):zL a 107 5=a % 32:=by show a / 2^0 % 2^5=a % 32;rw[show(2:Int)^5=32 from rfl,show(2:Int)^0=1 from rfl,Int.ediv_one]
def aml (b:L)(c:yP b)(a:Nat)(d:a<112):aB b (a / 8) / 2^(7-a % 8) % 2=xB b 14 / 2^(111-a) % 2:=by rw[<-aie (xB b 14) a d,<-alQ b c (a / 8) gO];rfl
def akB (f:Int)(h:0<=f)(o:f<9223372036854775808):∃b a g d c e:Int,
 bits BinOp.and IntKind.u64 (f / 2) 6148914691236517205+bits BinOp.and IntKind.u64 f 6148914691236517205=b/\0<=b/\b<18446744073709551616/\
 bits BinOp.and IntKind.u64 (b / 4) 3689348814741910323+bits BinOp.and IntKind.u64 b 3689348814741910323=a/\0<=a/\a<18446744073709551616/\
 a / 16+a<18446744073709551616/\bits BinOp.and IntKind.u64 (a / 16+a) 1085102592571150095=g/\g+g / 256=d/\d+d / 65536=c/\c+c / 4294967296=e/\0<=g/\g<4611686018427387904/\0<=d/\d<4611686018427387904/\0<=c/\c<4611686018427387904/\0<=e/\e<4611686018427387904/\e % 128=rT f 63:=by
 obtain⟨a,rfl⟩:=Int.eq_ofNat_of_zero_le h;have p:UH 85 8=6148914691236517205:=by decide
 have q:UH 51 8=3689348814741910323:=by decide
 have r:UH 15 8=1085102592571150095:=by decide
 have s:(a / 2 &&& 6148914691236517205)<=6148914691236517205:=Nat.and_le_right;have t:(a &&& 6148914691236517205)<=6148914691236517205:=Nat.and_le_right;have l:stA 8 a=(a / 2 &&& 6148914691236517205)+(a &&& 6148914691236517205):=by unfold stA;rw[p]
 have u:(stA 8 a / 4 &&& 3689348814741910323)<=3689348814741910323:=Nat.and_le_right;have v:(stA 8 a &&& 3689348814741910323)<=3689348814741910323:=Nat.and_le_right;have m:VU 8 (stA 8 a)=(stA 8 a / 4 &&& 3689348814741910323)+(stA 8 a &&& 3689348814741910323):=by unfold VU;rw[q]
 have n:stC 8 (VU 8 (stA 8 a))=(VU 8 (stA 8 a) / 16+VU 8 (stA 8 a) &&& 1085102592571150095):=by unfold stC;rw[r]
 have⟨d,c,e,j,z,B,i,w,x,y,k⟩:=amh a;rw[<-akr _ h o,akq,<-k];rw[<-ah_]at j i;refine⟨(stA 8 a:Int),(VU 8 (stA 8 a):Int),(stC 8 (VU 8 (stA 8 a)):Int),(d:Int),(c:Int),(e:Int),?_,gO,gO,?_,gO,gO,gO,?_,gO,gO,gO,gO,gO,gO,gO,gO,gO,gO,gO,gO⟩
 .have b:=u64_and_nat (a / 2) 6148914691236517205 gO (by decide);have g:=u64_and_nat a 6148914691236517205 gO (by decide);rw[l];rw[show((a / 2:Nat):Int)=(a:Int) / 2 by omega]at b;show bits BinOp.and IntKind.u64 ((a:Int) / 2) ((6148914691236517205:Nat):Int)+bits BinOp.and IntKind.u64 (a:Int) ((6148914691236517205:Nat):Int)=_;rw[b,g];omega
 .have b:=u64_and_nat (stA 8 a / 4) 3689348814741910323 gO (by decide);have g:=u64_and_nat (stA 8 a) 3689348814741910323 gO (by decide);rw[m];rw[show((stA 8 a / 4:Nat):Int)=(stA 8 a:Int) / 4 by omega]at b;show bits BinOp.and IntKind.u64 ((stA 8 a:Int) / 4) ((3689348814741910323:Nat):Int)+bits BinOp.and IntKind.u64 (stA 8 a:Int) ((3689348814741910323:Nat):Int)=_;rw[b,g];omega
 have b:=u64_and_nat (VU 8 (stA 8 a) / 16+VU 8 (stA 8 a)) 1085102592571150095 gO (by decide);rw[n];rw[show((VU 8 (stA 8 a) / 16+VU 8 (stA 8 a):Nat):Int)=(VU 8 (stA 8 a):Int) / 16+(VU 8 (stA 8 a):Int) by omega]at b;exact b
structure zM (f:Nat->Prop) (w w':World):Prop where
 os:w'.os=w.os
 tape:w'.tape=w.tape
 output:w'.output=w.output
 size:w.heap.size<=w'.heap.size
 block:∀k,k<w.heap.size->¬f k->w'.heap[k]?=w.heap[k]?
def zM.refl (b:Nat->Prop)(a:W):zM b a a:=⟨rfl,rfl,rfl,Q6 _,λ_ _ _=>rfl⟩
def zM.of {f:Nat->Prop}(b:w.grownBy w' z)(d:∀a,z=some a->a<w.heap.size->f a):zM f w w':=
 ⟨b.os,b.tape,b.output,b.size,λa c e=>b.block a c (λb=>e (d a b.symm c))⟩
def zM.trans (a:zM Z w w')(b:zM Z w' u):zM Z w u:=
 ⟨b.os.trans a.os,b.tape.trans a.tape,b.output.trans a.output,YM a.size b.size,λe c d=>by
  rw[b.block e (WK c a.size) d,a.block e c d]⟩
def zM.none (a:w.grownBy w' none)(c:zM Z w' u)(e:∀b,Z b->w.heap.size<=b):w.grownBy u none:=
 ⟨c.os.trans a.os,c.tape.trans a.tape,c.output.trans a.output,YM a.size c.size,λb d _=>by
  rw[c.block b (WK d a.size) (λc=>by have:=e b c;omega),a.block b d (by simp)]⟩
def YH (c:W)(a:Nat)(b:L):Prop:=c.heap[a]?=some (.cells (nR b) 5 (0,0))
def YH.cell (b:YH w n l)(a:Nat)(c:a<l.length):w.cell? (A n a)=some (.int .u8 (aB l a)):=(aI b a).trans (Wz l a c)
def YH.free (b:YH w n l)(a:Nat):w.frozen? (A n a)=false:=bA b a
def YH.set (c:YH w n l)(a:Nat)(b:Int):YH (w.setCell (A n a) (.int .u8 b)) n (l.set a b):=by unfold YH;rw[heap_setCell c,WC]
def YH.aC (a:YH w n l)(b:w.grownBy w' none):YH w' n l:=(b.block _ (aO a) (by simp)).trans a
def YH.aay (d:YH w n l)(a:Nat)(f:a<=l.length)(b:Nat)(e:a<=b):jI w (.slice (S n) a b) (l.take a):=by
 have c:(l.take a).length=a:=by simp;omega
 refine⟨some (A n 0),b,by rw[c],gO,λ_=>⟨_,rfl,λb a=>?_⟩⟩;rw[c]at a;rw[Addr.add_mid,WT,d.cell b gO];simp[aB,List.getD,KC,a]
def Md (c:w.cell? (A n b)=some x):n<w.heap.size:=by
 rcases WZ n w.heap.size with a|a
 .exact a
 simp[World.cell?,Array.getElem?_eq_none a]at c
def tZ (c:w.cell? (A n b)=some x)(d:w.grownBy w' z)(e:z≠some n):w'.cell? (A n b)=some x:=by have f:=Md c;have a:=d.block n f (λa=>e a.symm);simp only[World.cell?]at c ⊢;rw[a];exact c
structure yC (cb ca bb n:Nat) (B:L) (w:World):Prop where
 var:w.cell? ⟨cb,0,none⟩=some (.slice (some ⟨bb,0,none⟩) 15 15)
 at':w.heap[ca]?=some (.cells #[.int .i64 (n:Int)] 3 (0,0))
 byt:YH w bb B
 ne1:ca≠bb
 ne2:cb≠bb
 ne3:cb≠ca
def yC.aC (a:yC n b k j l w)(c:w.grownBy w' none):yC n b k j l w':=
 ⟨aU c a.var,(c.block _ (aO a.at') (by simp)).trans a.at',a.byt.aC c,a.ne1,a.ne2,a.ne3⟩
def yC.set (a:yC n b k j l w)(c:Nat)(d:Int):yC n b k j (l.set c d) (w.setCell (A k c) (.int .u8 d)):=by have f:=aD w (A k c) (.int .u8 d);exact⟨tZ a.var f (λe=>a.ne2 (by cases e;rfl)),(f.block _ (aO a.at') (λe=>a.ne1 (by cases e;rfl))).trans a.at',a.byt.set c d,a.ne1,a.ne2,a.ne3⟩
def yC.next (a:yC n b k j l w)(c:Nat):yC n b k c l (w.setCell (A b 0) (I (c:Int))):=by have d:=aD w (A b 0) (I (c:Int));exact⟨tZ a.var d (λc=>a.ne3 (by cases c;rfl)),by rw[heap_setCell a.at'];rfl,(d.block _ (aO a.byt) (λc=>a.ne1 (by cases c;rfl))).trans a.byt,a.ne1,a.ne2,a.ne3⟩
def yC.cat (a:yC n b k j l w):w.cell? (A b 0)=some (I (j:Int)):=by rw[aI a.at'];rfl
def Ic (a:Nat)(g:a<1000)(b:W):Calls prog 196 #[I (a:Int)] b λc d=>c=.returned (I ((7-a % 8:Nat):Int))/\d=b:=by
 have d:(a:Int).tmod 8=((a % 8:Nat):Int):=by rw[V3 gO];omega
 have e:(a:Int) % 8=((a % 8:Nat):Int):=gO;have c:((7-a % 8:Nat):Int)=7-((a % 8:Nat):Int):=gO;have f:a % 8<8:=gO;rw[c];generalize a % 8=i at *
 go_enter func196,ntmps196;go_wp2_with fail;go_ret
 first|exact⟨rfl,rfl⟩|(constructor<;>first|rfl|(congr 2;omega)|simp_all)
def AQ (q i j b d:Nat)(N e:Int)(f:L)(p:W)(hk:d<=8)(hn:b+d<=120)(D:0<=e)(u:e<2^d)(hx:e<256)(G:yC q i j b f p)(F:Lay b N f):Calls prog 195 #[.int .i64 e,.int .i64 (d:Int),.pointer (S q),.pointer (S i)] p λn m=>n=.returned (.tuple #[])/\∃a,Lay (b+d) (N*2^d+e) a/\yC q i j (b+d) a m/\zM (λc=>c=i\/c=j) p m:=by
 have w:=Zs (Lay (b+0) (OI N d e 0) f/\yC q i j (b+0) f p/\zM (λc=>c=i\/c=j) p p) (⟨by rw[afh N d e D u];exact F,G,zM.refl _ _⟩);have P:=Zd u;clear F G u;go_enter func195,ntmps195;go_wp2_with fail;go_loopw [6] (λc wr=>∃(a:Nat) (f:L),c=.int .i64 ((d:Int)-1-(a:Int))/\a<=d/\Hid (Lay (b+a) (OI N d e a) f/\yC q i j (b+a) f wr/\zM (λc=>c=i\/c=j) p wr)) (λc _=>(intOf c+1).toNat)
 case atStart=>exact⟨0,f,by simp,QN _,w⟩
 case round=>
  obtain⟨a,f,rfl,hj,g⟩:=hrel;clear w;by_cases ab:a<d
  .obtain⟨I,E⟩:∃I:Nat,d-1-a=I:=⟨_,rfl⟩;rw[show(d:Int)-1-(a:Int)=(I:Int) by omega];have ai:(I:Int)<8:=gO;have Q:=Zd E;have y:=Zd<|Ic (b+a) gO;have x:=Zd (show Lay (b+(a+1)) (OI N d e (a+1)) (f.set ((b+a) / 8) (aB f ((b+a) / 8)+e / 2^I % 2*2^(7-(b+a) % 8)))from by
    have:=aib g.1 gO (e / 2^I % 2) gO gO;rw[afi N d e a ab,E];exact this)
   have NB:=g.1.bd ((b+a) / 8);have hz:=aif g.1 gO (e / 2^I % 2) gO gO;have an:=akv (7-(b+a) % 8) gO (e / 2^I % 2) gO gO;have J:=aii e D hx I;have hc:=am6 (e / 2^I) J.1 J.2;have al:0<=e / 2^I % 2/\e / 2^I % 2<2:=gO;have aa:=g.1.1;have Z:=g.2.1.var;have Y:=g.2.1.cat;have cy:=g.2.1.byt.cell ((b+a) / 8) gO;have fy:=g.2.1.byt.free ((b+a) / 8);have ac:((b+a:Nat):Int).tdiv 8=(((b+a) / 8:Nat):Int):=by rw[YS gO];omega
   have ad:((b+a:Nat):Int) / 8=(((b+a) / 8:Nat):Int):=gO;have af:(((b+a) / 8:Nat):Int)<15:=gO;have z:=Zd λ(k:Int)=>g.2.1.set ((b+a) / 8) k;have C:=Zd λ(k:Int)=>zM.trans g.2.2 (zM.of (aD wr ⟨j,(b+a) / 8,none⟩ (.int .u8 k)) (λd n _=>by cases n;exact .inr rfl));have ao:b+a<=120:=gO;rw[show b+(a+1)=b+a+1 by omega]at x;clear g aa P;generalize aB f ((b+a) / 8)=O at *
   generalize (b+a) / 8=s at *
   generalize hp:7-(b+a) % 8=K at *
   generalize H:b+a=o at *
   have R:=Zd H;clear H;generalize e / 2^I % 2=r at *
   have ap:K<=7:=gO;clear hp;generalize am:r*2^K=t at *
   generalize aq:O+t=k at *
   have X:=eG (s:Int) gO gO;have hu:IntKind.u8.wrap r=r:=by rw[IntKind.wrap_u8];omega
   have hd:IntKind.u8.wrap t=t:=by rw[IntKind.wrap_u8];omega
   go_upto_region 3 with fail;generalize ae:wr=M at *
   clear ae;refine bW 15 (λm=>m=M.drew) 16 (by rfl) _ rfl (by kernel_rfl) λc=>?_;refine eT 0 rfl c λc=>?_;refine eT (v:=.int .i64 (o:Int)) 1 rfl c λc=>?_;refine iN (hy:=by intro m l;subst l;go_simp;try simp only[ac,ad,X]) (v:=.int .i64 (s:Int)) 2 rfl c λc=>?_;refine eT 3 rfl c λc=>?_;refine eT (v:=.int .u8 O) 4 rfl c λc=>?_;refine eT 5 rfl c λc=>?_;refine eT 6 rfl c λc=>?_;refine eT (v:=.int .i64 (e / 2^I)) 7 rfl c λc=>?_;refine iN (hy:=by intro m l;subst l;go_simp;try simp only[hc]) (v:=.int .i64 r) 8 rfl c λc=>?_;refine iN (hy:=by intro m l;subst l;go_simp;try simp only[hu]) (v:=.int .u8 r) 9 rfl c λc=>?_;refine eT (v:=.int .i64 (o:Int)) 10 rfl c λc=>?_;refine jY 11 c λp e=>?_;(try simp only[sZ]);go_simp;refine(y _).mono ?_;rintro n w1 ⟨rfl,rfl⟩;go_wp2_with fail;refine e.out _ _ (λ_=>rfl) λc=>?_;clear e;(try simp only[sZ]);refine iN (hy:=by intro m l;subst l;go_simp;try simp only[hd]) (v:=.int .u8 t) 12 rfl c λc=>?_;refine iN (hy:=by intro m l;subst l;go_simp;try simp only[hz]) (v:=.int .u8 k) 13 rfl c λc=>?_;refine eT 14 rfl c λc=>?_;refine jY 15 c λp e=>?_;(try simp only[sZ]);go_simp;go_wp2_with fail;refine e.out _ _ (λl=>by cases l) λc=>?_;clear e;(try simp only[sZ]);refine bI _ _ _ _ (by rfl) ?_;refine wm ?_;have c:=Zd<|(z k).aC (aS _);have B:=Zd<|zM.trans (C k) (zM.of (aS _) (λd n _=>by cases n));generalize (M.setCell (A j s) (.int .u8 k)).drew=v at *
   have ag:=c.cat;have ah:v.frozen? (A i 0)=false:=bA c.at' 0;have T:=Zs (yC q i j (o+1) (f.set s k) (v.setCell (A i 0) (.int .i64 ((o:Int)+1)))) (c.next (o+1));have U:=Zd<|zM.trans B (zM.of (aD v (A i 0) (.int .i64 ((o:Int)+1))) (λd n _=>by cases n;exact .inl rfl));clear z C Z Y cy fy y c B;go_wp2_with fail;go_roundw
   case rel=>exact⟨a+1,f.set s k,by rw[show(d:Int)-1-((a+1:Nat):Int)=(I:Int)-1 by have:=Q.out;omega],gO,by rw[show b+(a+1)=o+1 by have:=R.out;omega];exact⟨x,T,U⟩⟩
   case measure=>first|(simp[intOf];done)|(simp[intOf];omega)
  obtain rfl:a=d:=gO;rw[show(a:Int)-1-(a:Int)=-1 by omega];go_wp2_with fail;go_end0;exact⟨rfl,f,by have:=g.1;rw[aic]at this;exact this,g.2⟩
structure Ba (w0:World) (cb ca n:Nat) (v:Value) (w:World):Prop where
 var:w.cell? ⟨cb,0,none⟩=some v
 at':w.heap[ca]?=some (.cells #[.int .i64 (n:Int)] 3 (0,0))
 Ie:w0.grownBy w none
 le:w0.heap.size<=ca
 ne:cb≠ca
def Ba.cat (a:Ba w n b k x w'):w'.cell? (A b 0)=some (I (k:Int)):=by rw[aI a.at'];rfl
def Ba.aC (a:Ba w n b k x w')(c:w'.grownBy u none):Ba w n b k x u:=
 ⟨aU c a.var,(c.block _ (aO a.at') (by simp)).trans a.at',ay a.Ie c,a.le,a.ne⟩
def Ba.next (a:Ba w n b k x w')(c:Nat):Ba w n b c x (w'.setCell (A b 0) (I (c:Int))):=by have d:=aD w' (A b 0) (I (c:Int));exact⟨tZ a.var d (λc=>a.ne (by cases c;rfl)),by rw[heap_setCell a.at'];rfl,aG a.Ie d a.le,a.le,a.ne⟩
def Cn (p:W)(m d b e:Nat)(l:Addr)(n:Nat)(c:L)(j:W)(D:jI p (.slice (some l) 15 n) c)(F:yP c)(hk:e<=6)(hn:b+e<=112)(E:Ba p m d b (.slice (some l) 15 n) j):Calls prog 201 #[I (e:Int),.pointer (some ⟨m,0,none⟩),.pointer (some ⟨d,0,none⟩)] j λo k=>o=.returned (I (zL (xB c 14) b e))/\Ba p m d (b+e) (.slice (some l) 15 n) k/\zM (λf=>f=d) j k:=by
 have z:=Zs (Ba p m d (b+0) (.slice (some l) 15 n) j/\zM (λf=>f=d) j j) (⟨E,zM.refl _ _⟩);have y:=Zd D;have u:=Zd F;clear D F E;go_enter func201,ntmps201;go_wp2_with fail;go_loopw [5,7] (λg f wr=>∃a:Nat,f=I (a:Int)/\a<=e/\g=I (zL (xB c 14) b a)/\Hid (Ba p m d (b+a) (.slice (some l) 15 n) wr/\zM (λf=>f=d) j wr)) (λ_ f _=>e-(intOf f).toNat)
 case atStart=>exact⟨0,rfl,QN _,by rw[afj],z⟩
 case round=>
  obtain⟨a,rfl,hj,rfl,g⟩:=hrel;clear z;by_cases am:a<e
  .have i1:(a:Int)<(e:Int):=gO;have B:=Zd<|Ic (b+a) gO;have R:=Zs (zL (xB c 14) b (a+1)=2*zL (xB c 14) b a+aB c ((b+a) / 8) / 2^(7-(b+a) % 8) % 2) (by rw[afk _ b a gO,aml c u.out (b+a) gO]);have⟨t0,t1⟩:=akt (xB c 14) b a;have t6:(2:Int)^a<=32:=by
    have:∀a:Fin 6,(2:Int)^a.val<=32:=by decide
    exact this ⟨a,gO⟩
   have⟨y0,y1⟩:=u ((b+a) / 8);have⟨e1,_,H⟩:=wO (jy y g.1.Ie);have Z:=H ((b+a) / 8) gO;have K:=aii (aB c ((b+a) / 8)) y0 y1 (7-(b+a) % 8);have hc:=am7 (aB c ((b+a) / 8) / 2^(7-(b+a) % 8)) K.1 K.2;have G:0<=aB c ((b+a) / 8) / 2^(7-(b+a) % 8) % 2/\aB c ((b+a) / 8) / 2^(7-(b+a) % 8) % 2<2:=gO;have hz:=anG (zL (xB c 14) b a) (aB c ((b+a) / 8) / 2^(7-(b+a) % 8) % 2) t0 gO G.1 G.2;have Y:=g.1.var;have X:=g.1.cat;have aa:((b+a:Nat):Int).tdiv 8=(((b+a) / 8:Nat):Int):=by rw[YS gO];omega
   have ab:((b+a:Nat):Int) / 8=(((b+a) / 8:Nat):Int):=gO;have ag:(((b+a) / 8:Nat):Int)<15:=gO;have an:b+a<=112:=gO;have t:=Zd g;clear g H e1 y u;generalize zL (xB c 14) b a=q at *
   generalize aB c ((b+a) / 8)=x at *
   generalize (b+a) / 8=M at *
   generalize hp:7-(b+a) % 8=v at *
   have ao:v<=7:=gO;clear hp;generalize J:b+a=i at *
   have P:=Zd J;clear J;generalize al:x / 2^v % 2=s at *
   have U:=eG (M:Int) gO gO;have ae:=eG (2*q) gO gO;have af:=eG (q*2) gO gO;have hu:=eG s gO gO;go_upto_region 4 with fail;generalize ac:wr=O at *
   clear ac;refine wp_region_held_drew (S:=λc=>c=O.drew) (by kernel_rfl) rfl λc=>?_;refine aV 0 c ?_;refine aV (hy:=by intro k f;subst f;go_simp;exact V7 q 2) (v:=I (2*q)) 1 c ?_;refine mH 2 c ?_;refine mH (v:=I (i:Int)) 3 c ?_;refine aV (hy:=by intro k f;subst f;go_simp;try simp only[aa,ab,U]) (v:=I (M:Int)) 4 c ?_;refine mH 5 c ?_;refine mH (v:=.int .u8 x) 6 c ?_;refine mH (v:=I (i:Int)) 7 c ?_;refine eU 8 λj j=>?_;(try simp only[sZ]);go_simp;refine(B _).mono ?_;rintro o w1 ⟨rfl,rfl⟩;go_wp2_with fail;refine j.out _ _ rfl λc=>?_;clear j;(try simp only[sZ]);refine mH (v:=.int .u8 (x / 2^v)) 9 c ?_;refine aV (hy:=by intro k f;subst f;go_simp;try simp only[hc]) (v:=.int .u8 s) 10 c ?_;refine aV (hy:=by intro k f;subst f;go_simp;try simp only[hu]) (v:=I s) 11 c ?_;refine aV (hy:=by intro k f;subst f;go_simp;try simp only[hz]) (v:=I (2*q+s)) 12 c ?_;refine aV 13 c ?_;refine jX ?_;have r:=Zd<|t.1.aC (aS _);have C:=Zd<|zM.trans t.2 (zM.of (aS _) (λe o _=>by cases o));clear t Y X Z B c;generalize O.drew=w at *
   have ah:=r.cat;have ai:w.frozen? ⟨d,0,none⟩=false:=bA r.at' 0;have Q:=Zs (Ba p m d (i+1) (.slice (some l) 15 n) (w.setCell ⟨d,0,none⟩ (I ((i:Int)+1)))) (r.next (i+1));have T:=Zd<|zM.trans C (zM.of (aD w ⟨d,0,none⟩ (I ((i:Int)+1))) (λe o _=>by cases o;rfl));clear r C;go_wp2_with fail;go_roundw
   case rel=>exact⟨a+1,by go_num,gO,by rw[R.out],by rw[show b+(a+1)=i+1 by have:=P.out;omega];exact⟨Q,T⟩⟩
   case measure=>first|(simp[intOf];done)|(simp[intOf];omega)
  obtain rfl:a=e:=gO;go_wp2_with fail;go_ret;exact⟨rfl,g.1,g.2⟩
def Gj (g:Addr)(i:Nat)(b:L)(d:W)(k:jI d (.slice (some g) 14 i) b)(l:yP b):Calls prog 151 #[.slice (some g) 14 i] d λa c=>a=.returned (I (qJ b 14))/\c=d:=by
 have⟨j,r,m⟩:=wO k;have e:=Zd m;have c:=Zd l;have f:=Zd j;clear k l m j;go_enter func151,ntmps151;go_wp2_with fail;go_loopw [3,8] (λi g wr=>∃a:Nat,g=I (a:Int)/\a<=14/\i=I (90+uU b a)/\wr=d) (λ_ g _=>14-(intOf g).toNat)
 case atStart=>exact⟨0,rfl,QN _,rfl,rfl⟩
 case round=>
  obtain⟨a,rfl,s,rfl,rfl⟩:=hrel;have⟨v,w⟩:=TD b c a;by_cases p:a<14
  .have u:(a:Int)<14:=gO;have q:=e.out a (by have:=f.out;omega);have⟨x,y⟩:=c a;have n:=Zs (uU b (a+1)=uU b a+aB b a) (rfl);clear e c f;generalize uU b a=S at *
   generalize aB b a=o at *
   have t:=eG o gO gO;go_wp2_with fail;go_roundw
   case rel=>exact⟨a+1,by go_num,gO,by rw[n.out,Int.add_assoc],trivial⟩
   case measure=>first|(simp[intOf];done)|(simp[intOf];omega)
  obtain rfl:a=14:=gO;rw[show((14:Nat):Int)=14 from rfl];have o:=akx (90+uU b 14) gO gO;have n:=Zs (qJ b 14=(90+uU b 14) % 256) (rfl);clear e c f;go_wp2_with fail;go_ret;rw[n.out]
  first|exact⟨rfl,rfl⟩|(rw[<-o];exact⟨rfl,rfl⟩)
def YI (a:Int)(b:0<=a)(c:a<18446744073709551616):IntKind.u64.wrap a=a:=by rw[IntKind.wrap_u64];omega
def Me (a:Int)(d:0<=a)(e:a<9223372036854775808)(b:W):Calls prog 200 #[.int .u64 a] b λc f=>c=.returned (I (rT a 63))/\f=b:=by have⟨f,j,z,D,t,w,n,g,i,o,k,l,m,p,q,r,s,B,C,E,F,u,v,x,y,c⟩:=akB a d e;rw[<-c];go_enter func200,ntmps200;go_wp2_with fail;go_ret;rw[<-i64_and127];exact⟨rfl,rfl⟩
def xD (a:L):L:=[aB a 0,aB a 9,aB a 17]
def Gl (a:L):Nat->Int
 | 0=>0
 | b+1=>Gl a b+pS (aB (xD a) b)
def adQ (b:L):∀a:Nat,0<=Gl b a/\Gl b a<=63*(a:Int)
 | 0=>⟨DC _,DC _⟩
 | a+1=>by
  have c:=adQ b a;have d:=agF (aB (xD b) a);show 0<=Gl b a+pS (aB (xD b) a)/\Gl b a+pS (aB (xD b) a)<=63*((a+1:Nat):Int);omega
def am8 (a:L):Gl a 3 % 2=nE a:=by show(0+pS (aB a 0)+pS (aB a 9)+pS (aB a 17)) % 2=_;unfold nE;rw[Int.zero_add]
def Ec (a:L)(D:a.length=25)(g:iI a)(c:W):Calls prog 150 #[.agg (aF a)] c (ajM c (I (nE a))):=by
 have z:=(bY.new c 79 a).cell 0 gO;have C:=(bY.new c 79 a).cell 9 gO;have B:=(bY.new c 79 a).cell 17 gO;have e:=Zd<|aj c (.cells (aF a) 79) none;have q:=Zd (show ∀b,aB (xD a) b<=9223372036854775807 from λb=>by
  match b with
  | 0=>exact(g 0).2
  | 1=>exact(g 9).2
  | 2=>exact(g 17).2
  | b+3=>show(0:Int)<=_;omega)
 have i:=Zd λ(b:Nat) (n:b<3) (v:W)=>gF (T:=168) (xD a) underlying168 b n rfl v;have k:=Zd<|am8 a;have p:=Zd<|adQ a;obtain⟨l,m⟩:∃l:Ending->W->Prop,ajM c (I (nE a))=l:=⟨_,rfl⟩;rw[m];have o:=Zd m;rw[show aF (xD a)=#[I (aB a 0),I (aB a 9),I (aB a 17)]from rfl]at i;go_enter func150,ntmps150;go_upto_region 2 with fail;generalize c.alloc (.cells (aF a) 79)=r at *
 go_wp2_with fail;generalize Value.agg #[I (aB a 0),I (aB a 9),I (aB a 17)]=y at *
 go_loopw [3,17] (λd c wr=>∃b:Nat,c=I (b:Int)/\b<=3/\d=I (Gl a b)/\wr=r) (λ_ c _=>3-(intOf c).toNat)
 case atStart=>exact⟨0,rfl,QN _,rfl,rfl⟩
 case round=>
  obtain⟨b,rfl,n,rfl,rfl⟩:=hrel;have⟨u,O⟩:=p b;by_cases s:b<3
  .have H:(b:Int)<3:=gO;have J:=i b s;have j:=Zs (Gl a (b+1)=Gl a b+pS (aB (xD a) b)) (rfl);have⟨K,M⟩:=agF (aB (xD a) b);have G:=q b;by_cases F:aB (xD a) b<0
   .have d:=Zd<|Me 0 gO gO;rw[show rT 0 63=pS (aB (xD a) b) by unfold pS;rw[nO];decide +kernel]at d;generalize pS (aB (xD a) b)=t at *
    generalize Gl a b=S at *
    generalize aB (xD a) b=x at *
    go_wp2_with fail;refine(d _).mono ?_;rintro f w ⟨rfl,rfl⟩;go_wp2;go_roundw
    case rel=>exact⟨b+1,by go_num,gO,by rw[j.out],trivial⟩
    case measure=>first|(simp[intOf];done)|(simp[intOf];omega)
   have d:=Zd<|Me (aB (xD a) b) gO gO;rw[show rT (aB (xD a) b) 63=pS (aB (xD a) b) by
    unfold pS;split
    .rfl
    obtain f:aB (xD a) b=0:=gO;rw[f];decide +kernel]at d
   have E:=YI (aB (xD a) b) gO gO;generalize pS (aB (xD a) b)=t at *
   generalize Gl a b=S at *
   generalize aB (xD a) b=x at *
   go_wp2_with fail;refine(d _).mono ?_;rintro f w ⟨rfl,rfl⟩;go_wp2;go_roundw
   case rel=>exact⟨b+1,by go_num,gO,by rw[j.out],trivial⟩
   case measure=>first|(simp[intOf];done)|(simp[intOf];omega)
  obtain rfl:b=3:=gO;rw[show((3:Nat):Int)=3 from rfl];have d:=Zs ((Gl a 3).tmod 2=nE a) (by rw[V3 u];exact k);have f:=Zs ((Gl a 3) % 2=nE a) (k);go_wp2_with fail;rw[<-o.out]
  first|exact⟨rfl,e⟩|exact⟨by(rw[d.out];rfl),e⟩|exact⟨by(rw[f.out];rfl),e⟩
def m_.trp {A:List V}(c:m_ n w x b A)(k:zM Z w w')(j:∀a,n<=a->¬Z a):m_ n w' x b A:=by
 refine⟨c.1,?_⟩;rcases c.2 with c|⟨a,f,g,h,d,e,i⟩
 .exact .inl c
 exact .inr ⟨a,f,g,h,d,(k.block a (aO e) (j a d)).trans e,i⟩
def bY.trp (a:bY w n T l)(c:zM Z w w')(b:¬Z n):bY w' n T l:=(c.block n a.lt b).trans a
def zN (e:zM Z w w')(a:w.cell? (A n b)=some x)(d:¬Z n):w'.cell? (A n b)=some x:=by have c:=e.block n (Md a) d;simp only[World.cell?]at a ⊢;rw[c];exact a
def m_.form {A:List V}(d:m_ n w x b A)(j:0<b):∃a c,x=.slice (some ⟨a,0,none⟩) b c/\n<=a/\a<w.heap.size:=by
 rcases id d.2 with⟨_,i⟩|⟨a,c,h,g,e,f,_⟩
 .omega
 exact⟨a,c,g,e,aO f⟩
def m_.fld (c:m_ n w (.slice (S b) 25 k) 25 (Gi j 25))(a:Nat)(g:a<25):w.cell? (A b (a*3))=some (.pointer (some (A j a)))/\w.cell? (A b (a*3+1))=some (I (lX a:Int))/\w.cell? (A b (a*3+2))=some (I (wo a)):=by have d:=World.ownsRow.cellAt c (a*3+0) gO;have e:=World.ownsRow.cellAt c (a*3+1) gO;have f:=World.ownsRow.cellAt c (a*3+2) gO;rw[adO j 25 a _ g gO]at d e f;exact⟨d,e,f⟩
def Co (d:L)(hl:d.length=25)(Y:iI d)(c:W)(Z:TabA c 4 widq 8):Calls prog 147 #[.agg (aF d)] c (ajM c (.bool (jC d))):=by
 have O:=Zd hl;have M:=Zd Y;have Q:=Zd<|bY.new c 79 d;have a:=Zd<|aj c (.cells (aF d) 79) none;have P:=Zd Z;obtain⟨z,F⟩:∃z:Ending->W->Prop,ajM c (.bool (jC d))=z:=⟨_,rfl⟩;rw[F];have r:=Zd F;go_enter func147,ntmps147;go_upto_region 1 with fail;generalize c.alloc (.cells (aF d) 79)=B at *
 go_wp2_with fail;refine(yB c.heap.size B (eY P a)).mono ?_;rintro D n ⟨ab,rfl,J,E⟩;obtain⟨X,T,rfl,_,_⟩:=J.form gO;have l:=Zs (bY n c.heap.size 79 d/\m_ B.heap.size n (.slice (some ⟨X,0,none⟩) 25 T) 25 (Gi c.heap.size 25)/\c.grownBy n none) (⟨Q.aC E,J,ay a E⟩);go_wp2_with fail;go_loopw [7] (λe wr=>∃b:Nat,e=I (b:Int)/\b<=25/\Hid (∀a,a<b->0<=aB d a/\aB d a<=wo a)/\Hid (n.grownBy wr none)) (λe _=>25-(intOf e).toNat)
 case atStart=>exact⟨0,rfl,QN _,λa f=>gO,aM _ _⟩
 case round=>
  obtain⟨b,rfl,hm,t,o⟩:=hrel;by_cases s:b<25
  .have i1:(b:Int)<25:=gO;have⟨c0,c1,c2⟩:=(l.2.1.aC o).fld b s;have U:=(l.1.aC o).cell b (by rw[O.out];exact s);have gx:=M b;have v:=Zd<|dF wr (.cells #[.pointer (some ⟨c.heap.size,b,none⟩),I (lX b:Int),I (wo b)] 203);have w:=Zd<|aj wr (.cells #[.pointer (some ⟨c.heap.size,b,none⟩),I (lX b:Int),I (wo b)] 203) none;have aa:=aU w U;have K:=Zd<|ay o w;have hI:=t.out;have y:=Zd<|adf d b s;have R:=Zd (λ(e:0<=aB d b/\aB d b<=wo b)=>(show ∀a,a<b+1->0<=aB d a/\aB d a<=wo a from λa f=>by
    by_cases D:a=b
    .subst D;exact e
    exact t a gO))
   go_upto_region 4 with fail;generalize wr.alloc (.cells #[.pointer (some ⟨c.heap.size,b,none⟩),I (lX b:Int),I (wo b)] 203)=j at *
   have f0:j.cell? ⟨wr.heap.size,0,none⟩=some (.pointer (some ⟨c.heap.size,b,none⟩)):=aI v 0;have f2:j.cell? ⟨wr.heap.size,2,none⟩=some (I (wo b)):=aI v 2;have x:=Zd<|bB K;have m:=Zd<|ay l.2.2 x;generalize wr.heap.size=fb at *
   generalize aB d b=f at *
   generalize wo b=k at *
   refine wp_region_held_drew (S:=λa=>a=j.drew) (by kernel_rfl) rfl λa=>?_;by_cases G:f<0
   .have p:decide (f<0)=true:=KN G;have g:=Zd<|y gO;refine mH 0 a ?_;refine mH (v:=.pointer (some ⟨c.heap.size,b,none⟩)) 1 a ?_;refine mH 2 a ?_;refine mH (v:=I f) 3 a ?_;refine aV (hy:=by intro q i;subst i;go_simp;(try simp only[p])) (v:=.bool true) 4 a ?_;refine mH 5 a ?_;refine wpAnyH_take (i:=6) (v:=undef) rfl (by kernel_rfl) (by kernel_rfl) (by kernel_rfl) (λ_ _ _ e=>e) (Or.inr ⟨by rfl,rfl⟩) a ?_;simp only[sZ];refine wpAnyH_take (i:=7) (v:=undef) rfl (by kernel_rfl) (by kernel_rfl) (by kernel_rfl) (λ_ _ _ e=>e) (Or.inr ⟨by rfl,rfl⟩) a ?_;simp only[sZ];refine wpAnyH_take (i:=8) (v:=undef) rfl (by kernel_rfl) (by kernel_rfl) (by kernel_rfl) (λ_ _ _ e=>e) (Or.inr ⟨by rfl,rfl⟩) a ?_;simp only[sZ];refine wpAnyH_take (i:=9) (v:=undef) rfl (by kernel_rfl) (by kernel_rfl) (by kernel_rfl) (λ_ _ _ e=>e) (Or.inr ⟨by rfl,rfl⟩) a ?_;simp only[sZ];refine wpAnyH_take (i:=10) (v:=undef) rfl (by kernel_rfl) (by kernel_rfl) (by kernel_rfl) (λ_ _ _ e=>e) (Or.inr ⟨by rfl,rfl⟩) a ?_;simp only[sZ];refine wpAnyH_take (i:=11) (v:=undef) rfl (by kernel_rfl) (by kernel_rfl) (by kernel_rfl) (λ_ _ _ e=>e) (Or.inr ⟨by rfl,rfl⟩) a ?_;simp only[sZ];refine wpAnyH_take (i:=12) (v:=undef) rfl (by kernel_rfl) (by kernel_rfl) (by kernel_rfl) (λ_ _ _ e=>e) (Or.inr ⟨by rfl,rfl⟩) a ?_;simp only[sZ];refine mH (v:=.bool true) 13 a ?_;refine jX ?_;generalize j.drew=C at *
    go_wp2_with fail;rw[<-r.out];exact⟨by first|(rw[g.out];done)|(rw[g.out];rfl),m⟩
   have p:decide (f<0)=false:=KF G;by_cases H:k<f
   .have u:decide (k<f)=true:=KN H;have g:=Zd<|y gO;refine mH 0 a ?_;refine mH (v:=.pointer (some ⟨c.heap.size,b,none⟩)) 1 a ?_;refine mH 2 a ?_;refine mH (v:=I f) 3 a ?_;refine aV (hy:=by intro q i;subst i;go_simp;(try simp only[p])) (v:=.bool false) 4 a ?_;refine mH 5 a ?_;refine mH 6 a ?_;refine mH (v:=.pointer (some ⟨c.heap.size,b,none⟩)) 7 a ?_;refine mH 8 a ?_;refine mH (v:=I f) 9 a ?_;refine mH 10 a ?_;refine mH (v:=I k) 11 a ?_;refine aV (hy:=by intro q i;subst i;go_simp;(try simp only[u])) (v:=.bool true) 12 a ?_;refine mH (v:=.bool true) 13 a ?_;refine jX ?_;generalize j.drew=C at *
    go_wp2_with fail;rw[<-r.out];exact⟨by first|(rw[g.out];done)|(rw[g.out];rfl),m⟩
   have u:decide (k<f)=false:=KF H;have g:=Zd<|R gO;refine mH 0 a ?_;refine mH (v:=.pointer (some ⟨c.heap.size,b,none⟩)) 1 a ?_;refine mH 2 a ?_;refine mH (v:=I f) 3 a ?_;refine aV (hy:=by intro q i;subst i;go_simp;(try simp only[p])) (v:=.bool false) 4 a ?_;refine mH 5 a ?_;refine mH 6 a ?_;refine mH (v:=.pointer (some ⟨c.heap.size,b,none⟩)) 7 a ?_;refine mH 8 a ?_;refine mH (v:=I f) 9 a ?_;refine mH 10 a ?_;refine mH (v:=I k) 11 a ?_;refine aV (hy:=by intro q i;subst i;go_simp;(try simp only[u])) (v:=.bool false) 12 a ?_;refine mH (v:=.bool false) 13 a ?_;refine jX ?_;generalize j.drew=C at *
   go_wp2;go_roundw
   case rel=>exact⟨b+1,by go_num,gO,g,x⟩
   case measure=>first|(simp[intOf];done)|(simp[intOf];omega)
  obtain rfl:b=25:=gO;rw[show((25:Nat):Int)=25 from rfl];have g:=Zd<|(lY d).2 t;have m:=Zd<|ay l.2.2 o;go_wp2_with fail;rw[<-r.out];exact⟨by first|(rw[g.out];done)|(rw[g.out];rfl),m⟩
def YH.own (b:YH w n l)(base:Nat)(c:base<=n)(a:l.length=15):iT base w (.slice (S n) 15 15) l:=
 ⟨by simp[a],.inr ⟨n,15,nR l,by rw[a],c,b,gO,by unfold maxLen;omega,by simp[nR,a],by simp[nR,a];exact K3 (by simp[a])⟩⟩
def Va (b:Addr)(d c:Nat)(a:W):Calls prog 148 #[.slice (some b) d c] a λf e=>f=.returned (.func (.func 195) #[] #[.pointer (S a.heap.size),.pointer (S (a.heap.size+1))])/\e.cell? (A a.heap.size 0)=some (.slice (some b) d c)/\e.heap[a.heap.size+1]?=some (.cells #[I 0] 3 (0,0))/\a.grownBy e none:=by have j:=aI (dF a (.cells #[.slice (some b) d c] 32)) 0;have i:=Zs (a.grownBy ((a.alloc (.cells #[.slice (some b) d c] 32)).alloc (.cells #[I 0] 3)) none) (ay (aj _ _ none) (aj _ _ none));have k:=aU (aj (a.alloc (.cells #[.slice (some b) d c] 32)) (.cells #[I 0] 3) none) j;have e:=dF (a.alloc (.cells #[.slice (some b) d c] 32)) (.cells #[I 0] 3);rw[show(a.alloc (.cells #[.slice (some b) d c] 32)).heap.size=a.heap.size+1 by simp]at e;have f:=Zd k;have g:=Zd e;go_enter func148,ntmps148;go_wp2_with fail;go_ret;exact⟨rfl,f,g,i⟩
structure YT (w:World) (l:L) (bb cb ca base g cap m:Nat) (N:Int) (B:L) (wr:World):Prop where
 pk:bY wr w.heap.size 79 l
 fl:m_ base wr (.slice (some ⟨g,0,none⟩) 25 cap) 25 (Gi w.heap.size 25)
 pu:yC cb ca bb m B wr
 ly:Lay m N B
 gr:w.grownBy wr none
 o1:w.heap.size<bb
 o2:bb<cb
 o3:cb<ca
 o4:ca<base
def YT.aC {e d f:Nat}{N:Int}(a:YT w l n b k j e d f N p w')(c:w'.grownBy u none):YT w l n b k j e d f N p u:=
 ⟨a.pk.aC c,a.fl.aC c,a.pu.aC c,a.ly,ay a.gr c,a.o1,a.o2,a.o3,a.o4⟩
def YT.put {c g d e:Nat}{N:Int}(a:YT w l n b k j c g d N p w')(f:zM (λd=>d=k\/d=n) w' u)(h:yC b k n e r u)(t:Lay e i r):YT w l n b k j c g e i r u:=by have m:=a.o1;have o:=a.o2;have q:=a.o3;have s:=a.o4;exact⟨a.pk.trp f gO,a.fl.trp f (λc c=>gO),h,t,zM.none a.gr f (λd a=>gO),m,o,q,s⟩
def acg (a:L)(D:a.length=25)(R:iI a)(c:W)(T:TabA c 4 widq 8)(X:jC a=true):Calls prog 124 #[.agg (aF a)] c (PkP c a):=by
 have O:=Zd<|bY.new c 79 a;have F:=Zd<|aj c (.cells (aF a) 79) none;have Z0:=Zs ((c.alloc (.cells (aF a) 79)).heap.size=c.heap.size+1) (by simp);have J:=Zd<|Co a D R (c.alloc (.cells (aF a) 79)) (eY T F);rw[X]at J;have M:=Zd X;have HL:=Zd D;have af:=Zd R;have HT:=Zd T;have aa:=Zs ((prog.info? 79).map (·.size)=some a.length) (by rw[D];exact dS);have ae:=Kc 15 gO gO;rw[show(15:Int).toNat=15 from rfl,show List.replicate 15 (0:Int)=au 15 from rfl]at ae;obtain⟨ab,U⟩:∃ab:Ending->W->Prop,PkP c a=ab:=⟨_,rfl⟩;rw[U];have ag:=Zd U;clear U D R T X;go_enter func124,ntmps124;go_upto_region 1 with fail;generalize c.alloc (.cells (aF a) 79)=W0 at *
 go_wp2_with (refine lA O aa ?_);refine J.mono ?_;rintro d f ⟨rfl,z⟩;have GR:=Zd<|ay F z;have P1:=Zd<|O.aC z;have Z1:=Zs (c.heap.size<f.heap.size) (by have:=z.size;have:=Z0.out;omega);clear J z O F Z0;go_upto_region 4 with fail;clear ae;have B2:=Zs (YH (f.alloc (.cells (nR (au 15)) 5)) f.heap.size (au 15)) (dF _ _);have G:=Zd<|aj f (.cells (nR (au 15)) 5) none;have w:=Zs ((f.alloc (.cells (nR (au 15)) 5)).heap.size=f.heap.size+1) (by simp);generalize f.alloc (.cells (nR (au 15)) 5)=j at *
 go_wp2_with fail;refine(Va _ 15 15 j).mono ?_;rintro d v ⟨rfl,y,s,B⟩;have PU:=Zs (yC j.heap.size (j.heap.size+1) f.heap.size 0 (au 15) v) (⟨y,s,B2.out.aC B,by have:=w.out;omega,by have:=w.out;omega,gO⟩);have K:=Zd<|ay GR (ay G B);have P3:=Zd<|P1.aC (ay G B);have Z3:=Zd<|aO s;clear y s B P1 GR G B2;go_wp2_with fail;refine(yB c.heap.size v (eY HT K)).mono ?_;rintro d W4 ⟨al,rfl,Y,C⟩;obtain⟨u,t,rfl,_,_⟩:=Y.form gO;have M0:=Zs (YT c a f.heap.size j.heap.size (j.heap.size+1) v.heap.size u t (sW 0) (nF a 0) (au 15) W4) (⟨P3.out.aC C,Y,PU.out.aC C,aia,ay K.out C,Z1.out,by have:=w.out;omega,gO,Z3⟩);clear P3 PU K Z1 w Z3 Y C HT;generalize v.heap.size=x at *
 generalize j.heap.size=k at *
 generalize f.heap.size=g at *
 go_wp2_with fail;generalize ai:k+1=i at *
 clear ai;go_loopw [16] (λj wr=>∃(b:Nat) (p:L),j=I (b:Int)/\b<=25/\Hid (YT c a g k i x u t (sW b) (nF a b) p wr)) (λj _=>25-(intOf j).toNat)
 case atStart=>exact⟨0,au 15,rfl,QN _,M0⟩
 case round=>
  obtain⟨b,p,rfl,hm,e⟩:=hrel;clear M0;by_cases r:b<25
  .have i1:(b:Int)<25:=gO;have⟨c0,y,s⟩:=e.fl.fld b r;have cx:=e.pk.cell b (by rw[HL.out];exact r);have E:=Zd<|dF wr (.cells #[.pointer (some ⟨c.heap.size,b,none⟩),I (lX b:Int),I (wo b)] 203);have H:=Zd<|aj wr (.cells #[.pointer (some ⟨c.heap.size,b,none⟩),I (lX b:Int),I (wo b)] 203) none;have ac:=aU H cx;have q:=Zs (i<wr.heap.size/\g<wr.heap.size/\c.heap.size<g/\g<i) (⟨aO e.pu.at',aO e.pu.byt,e.o1,Nat.lt_trans e.o2 e.o3⟩);have l:=Zd<|e.aC (bB H);have⟨x0,x1⟩:=(lY a).1 M b r;have⟨_,x2,x3⟩:=FJ b r;have PC:=Zd λf (ad:YT c a g k i x u t (sW b) (nF a b) p f)=>AQ k i g (sW b) (lX b) (nF a b) (aB a b) p f (by have:=Tx b r;omega) (by have:=Kt (b+1) gO;rw[UM]at this;omega) x0 gO gO ad.pu ad.ly;clear e x1 x2 x3;go_upto_region 8 with fail;generalize wr.alloc (.cells #[.pointer (some ⟨c.heap.size,b,none⟩),I (lX b:Int),I (wo b)] 203)=P at *
   have f0:P.cell? ⟨wr.heap.size,0,none⟩=some (.pointer (some ⟨c.heap.size,b,none⟩)):=aI E 0;have f1:P.cell? ⟨wr.heap.size,1,none⟩=some (I (lX b:Int)):=aI E 1;clear c0 y s cx E H;generalize wr.heap.size=fb at *
   refine wp_region_held_drew (S:=λf=>f.cell? ⟨fb,0,none⟩=some (.pointer (some ⟨c.heap.size,b,none⟩))/\f.cell? ⟨fb,1,none⟩=some (I (lX b:Int))/\f.cell? ⟨c.heap.size,b,none⟩=some (I (aB a b))) (by kernel_rfl) ⟨f0,f1,ac⟩ λf=>?_;clear f0 f1 ac;generalize P.drew=ah at *
   refine aV 0 f ?_;refine aV 1 f ?_;refine aV (hy:=by intro w' m;have⟨q0,q1,q2⟩:=m;go_simp;(try with_reducible rfl)) (v:=.pointer (some ⟨c.heap.size,b,none⟩)) 2 f ?_;refine aV 3 f ?_;refine aV (hy:=by intro w' m;have⟨q0,q1,q2⟩:=m;go_simp;(try with_reducible rfl)) (v:=I (aB a b)) 4 f ?_;refine aV 5 f ?_;refine aV (hy:=by intro w' m;have⟨q0,q1,q2⟩:=m;go_simp;(try with_reducible rfl)) (v:=I (lX b:Int)) 6 f ?_;refine eU 7 λm m=>?_;(try simp only[sZ]);go_simp;refine(PC ah l).mono ?_;rintro d Q ⟨rfl,Z,y',p',n⟩;go_wp2_with fail;refine m.out _ _ ⟨zN n f.1 (by have:=q.out;rintro(d|d)<;>omega),zN n f.2.1 (by have:=q.out;rintro(d|d)<;>omega),zN n f.2.2 (by have:=q.out;rintro(d|d)<;>omega)⟩ λf=>?_;clear m;(try simp only[sZ]);refine jX ?_;have o:=Zs (YT c a g k i x u t (sW (b+1)) (nF a (b+1)) Z Q) (l.put n p' y');clear l n p' y' PC f q;go_wp2_with fail;go_roundw
   case rel=>exact⟨b+1,Z,by go_num,gO,o⟩
   case measure=>first|(simp[intOf];done)|(simp[intOf];omega)
  obtain rfl:b=25:=gO;rw[show((25:Nat):Int)=25 from rfl];rw[agD]at e;go_wp2_with (refine lA e.pk aa ?_);refine(Ec a HL af wr).mono ?_;rintro d W5 ⟨rfl,g5⟩;have l:=Zd<|e.aC g5;have⟨p0,p1⟩:=TA a;clear e g5;go_wp2_with fail;refine(AQ k i g 106 1 (nF a 25) (nE a) p W5 gO gO p0 gO gO l.pu l.ly).mono ?_;rintro d Q ⟨rfl,B6,y6,p6,t6⟩;have o:=Zd<|l.put t6 p6 y6;clear l y6 p6 t6;go_wp2_with fail;refine(AQ k i g 107 5 (nF a 25*2^1+nE a) 0 B6 Q gO gO gO (by decide) gO o.pu o.ly).mono ?_;rintro d W7 ⟨rfl,n,P,p7,t7⟩;rw[show(nF a 25*2^1+nE a)*2^5+0=oH a by unfold oH;rw[show(2:Int)^1=2 from rfl,show(2:Int)^5=32 from rfl,Int.add_zero]]at P;have m:=Zs (YT c a g k i x u t 112 (oH a) n W7) (o.put t7 p7 P);clear o P p7 t7;have Z:=Zd λj=>m.ly.bd j;have CE:=Zs (qJ (n.take 14) 14=qJ (Dl (oH a)) 14) (by rw[<-aky m.out.ly];unfold qJ;rw[oI (n.take 14) n 14 (λj E=>by simp[aB,List.getD,KC,E])]);have BY:=Zd<|m.pu.byt.aay 14 (by rw[m.out.ly.1];omega) 15 gO;have YB:=Zd (show yP (n.take 14)from λj=>by
   by_cases E:j<14
   .have:=Z j;simpa [aB,List.getD,KC,E] using this
   rw[dI _ j (by simp;omega)];omega)
  go_wp2_with fail;refine(Gj _ 15 (n.take 14) W7 BY YB).mono ?_;rintro d W8 ⟨rfl,rfl⟩;rw[CE.out];clear CE BY YB Z;have H:0<=qJ (Dl (oH a)) 14/\qJ (Dl (oH a)) 14<256:=by unfold qJ;omega
  go_wp2_with fail;refine(AQ k i g 112 8 (oH a) (qJ (Dl (oH a)) 14) n W8 gO gO H.1 (by rw[show(2:Int)^8=256 from rfl];exact H.2) H.2 m.pu m.ly).mono ?_;rintro d W9 ⟨rfl,B9,y9,p9,t9⟩;have q:=Zd<|m.put t9 p9 y9;clear m y9 p9 t9;go_wp2_with fail;rw[<-ag.out];refine⟨.slice (some ⟨g,0,none⟩) 15 15,by rw[(adD M.out).2];rfl,?_,q.gr⟩;rw[(adD M.out).1,<-akz q.out.ly];exact q.pu.byt.own _ (PN q.o1) q.ly.1
end Go.Proofs.YtmpfdogdinhhcaaGreatDoor
