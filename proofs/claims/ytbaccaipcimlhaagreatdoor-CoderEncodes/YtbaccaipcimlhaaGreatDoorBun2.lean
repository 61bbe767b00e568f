/- Texts put together: PikMath, ChoMath, RefWt, CorrMath, BigMem, BigA, BigB, BigC, TabF, QuantA, QuantB, RefQuant, RefOne, LQuantR, QuantC, QuaMath, LpcB, LpcC, LpcD, PitA, PitG, AppL, PartL, GaiF, OrderF, PulA, PulI, Dual, Pow, GaiA, BytL, PkW, PlyS. -/
import Derived.Test.YtbaccaipcimlhaaGreatDoorBun1
import Derived.Test.YtbaccaipcimlhaaGreatDoorProg
import Derived.WalkKit
import Derived.WalkSpells
import Derived.WalkLawsBesides
import Derived.Laws.BitsAllLaws
import Derived.Deep.QuietTactic
import Derived.BigQuiet
import Derived.Deep.RegionHeld3
import Derived.Laws.CopyOwn
import Derived.Deep.Cut
import Derived.RowKit3
namespace Go.Proofs.YtbaccaipcimlhaaGreatDoor
open Go.RowKit
open Tryz
set_option linter.unusedSimpArgs false
set_option linter.unusedVariables false
set_option maxHeartbeats 1000000
set_option maxRecDepth 100000
def jl (f:List Int):Bool:=decide (f.length=40)&&aL f
def mD (t:List Int)(F:List Int→List Int)(h:List Int)(k:Nat):Int:=if aL t&&jl (F (jV h k))then fE t (F (jV h k)) 40 else 0
def mE (F:List Int→List Int)(h:List Int)(k:Nat):Int:=if jl (F (jV h k))then fE (F (jV h k)) (F (jV h k)) 40 else 0
def jT (F:List Int→List Int)(h:List Int):Bool:=(List.range 60).all fun j=>jl (F (jV h (20+j)))
def vX (p:Nat×Int×Int):Value:=.tuple #[.int .i64 (p.1:Int),.int .i64 p.2.1,.int .i64 p.2.2,.int .i64 0]
def pX (h t:List Int)(F:List Int→List Int):Value:=
 if t.length=40 then(if(aL t&&aL h)=true then(if jT F h=true then vX (jy (mD t F h) (mE F h) 60)else .tuple #[.int .i64 0,.int .i64 0,.int .i64 0,.int .i64 1])else .tuple #[.int .i64 0,.int .i64 0,.int .i64 0,.int .i64 2])
 else .tuple #[.int .i64 0,.int .i64 0,.int .i64 0,.int .i64 1]
theorem qW {f:List Int}(h:jl f=true):f.length=40∧aL f=true:=by unfold jl at h;simpa using h
theorem Vk (t:List Int)(F:List Int→List Int)(h:List Int)(k:Nat):mD t F h k≤42949672960:=by
 unfold mD
 split
 ·rename_i c
  simp only[Bool.and_eq_true]at c
  have:=mq t (F (jV h k)) c.1 (qW c.2).2 40
  omega
 omega
theorem Vl (F:List Int→List Int)(h:List Int)(k:Nat):mE F h k≤42949672960:=by
 unfold mE
 split
 ·rename_i c
  have:=mq (F (jV h k)) (F (jV h k)) (qW c).2 (qW c).2 40
  omega
 omega
theorem Vm (F:List Int→List Int)(h:List Int)(m:Nat)(hm:m<60)(hb:jl (F (jV h (20+m)))=false):jT F h=false:=by
 unfold jT
 rw[List.all_eq_false]
 exact⟨m,List.mem_range.2 hm,by rw[hb];simp⟩
theorem Ch (F:List Int→List Int)(h:List Int)(hg:∀j,j<60→jl (F (jV h (20+j)))=true):jT F h=true:=by
 unfold jT
 rw[List.all_eq_true]
 exact fun j hj=>hg j (List.mem_range.1 hj)
def Folds (w:World)(n:Nat)(iN:Array Value)(F:List Int→List Int):Prop:=
 ∀wr v l,w.grownBy wr none→aS wr v l→rR v l→l.length=40→aL l=true→
  Calls prog n (#[v]++iN) wr fun e w'=>∃v',e=.returned v'∧aS w' v' (F l)∧(F l).length≤1000000000000000000∧wr.grownBy w' none
theorem zL (fn:Fn)(first iN:Array Value)(u:World):Sem.run prog (binOp BinOp.eql 37 (.func fn first iN) .nilFunc) u=.ok (.bool false) u:=by kernel_rfl
theorem iF {fn:Func}{t u v x:Tmp}(h:fn.results=#[.tmp t,.tmp u,.tmp v,.tmp x])(tmps:Array Value)(P:Program)(w:World) :
 (results fn tmps).run P w=.ok (.tuple #[tmps.getD t undef,tmps.getD u undef,tmps.getD v undef,tmps.getD x undef]) w:=by
 simp[results,h]
def om (a:List Int):List Int:=rgL a 40
def chF (a v:List Int):List Int:=Es (om a) v
def Vn (m a:List Int):List Int:=xQ a (bP m 8 8) (ay 40)
def Fh (m a x:List Int):List Int:=fM 40 (fun i=>eU (aC x i-aC (Vn m a) i))
def vE (m a x:List Int):Nat×Int×Int:=jy (mD (Fh m a x) (chF a) (bP m 16 80)) (mE (chF a) (bP m 16 80)) 60
def Fj (m a x:List Int):Int:=Ym (vE m a x).2.1 (vE m a x).2.2
def OY (m a x:List Int):List Int:=chF a (mJ (bP m 16 80) ((vE m a x).1:Int))
def Vo (m a x:List Int)(i:Nat):Int:=eU (aC (Fh m a x) i-eU ((aC (OY m a x) i*Aq (Fj m a x)+8192) / 16384))
def yL (m a x:List Int):List Int:=fM 40 (Vo m a x)
def Au (m a x:List Int):List Int:=Jb (yL m a x) (om a)
def oq (m a x:List Int):List Int:=Fe (Au m a x) (om a) (kR (Au m a x) (om a))
def vF (m a x:List Int):Int:=Jc (Au m a x) (om a) (kR (Au m a x) (om a))
def chO (m a x:List Int):List Int:=Vd (oq m a x) (vF m a x) 4096
def tV (m a x:List Int):List Int:=chF a (chO m a x)
def YE (m a x:List Int):Int:=Yg (4096*fE (yL m a x) (tV m a x) 40) (fE (tV m a x) (tV m a x) 40)
def Qh (m a x:List Int):List Int:=[((vE m a x).1:Int)-20,Fj m a x,aC (oq m a x) 0,aC (oq m a x) 1,aC (oq m a x) 2,aC (oq m a x) 3,vF m a x,YE m a x]
theorem Ci (n:Nat):aL (ay n)=true:=by
 rw[aV]
 intro i _
 rw[iZ];omega
theorem Qi (n:Nat):aL (jc n)=true:=by
 rw[aV]
 unfold jc
 rw[bQ]
 intro i hi
 rw[dN _ _ _ hi]
 split<;>omega
theorem acw {a p l:List Int}(hA:j6 a)(hp:aL p=true)(hl:aL l=true):okF a p l=true:=by
 unfold okF
 rw[hA.wide,hp,hl,decide_eq_true hA.one];rfl
theorem pQ {a:List Int}(hA:j6 a):(om a).length=40∧aL (om a)=true∧rgE a 40=0:=by
 have ok:=acw hA (Ci 8) (Qi 40)
 have e:om a=xQ a (ay 8) (jc 40):=by unfold om rgL;rw[if_pos gA,show(40:Int).toNat=40 from rfl]
 have f:rgE a 40=I8 a (ay 8) (jc 40):=by unfold rgE;rw[if_pos gA,show(40:Int).toNat=40 from rfl]
 refine⟨?_,?_,?_⟩
 ·rw[e,Lr _ _ _ ok];exact bQ _ _
 ·rw[e,show xQ a (ay 8) (jc 40)=mI a (ay 8) (jc 40) (jc 40).length from if_pos ok];exact lF _ _ _ _
 rw[f];exact if_pos ok
theorem Bh {a v:List Int}(hA:j6 a)(hv:v.length=40)(rv:aL v=true):(chF a v).length=40∧aL (chF a v)=true∧J_ (om a) v=0:=by
 obtain⟨r1,r2,_⟩:=pQ hA
 have s:u_ (om a) v=true:=by unfold u_;rw[r1,hv];decide
 have o:okO (om a) v=true:=by unfold okO;rw[r2,rv];rfl
 have e:chF a v=fM v.length (Yk (om a) v):=if_pos ⟨s,o⟩
 refine⟨by rw[e,bQ,hv],?_,by unfold J_;rw[if_pos s,if_pos o]⟩
 rw[e,aV,bQ]
 intro i hi
 rw[dN _ _ _ hi]
 unfold Yk
 exact kK _
theorem Ms {m a:List Int}(hg:cO m=true)(hA:j6 a):(Vn m a).length=40∧aL (Vn m a)=true:=by
 have ok:=L_ hA hg (Ci 40)
 refine⟨?_,?_⟩
 ·unfold Vn;rw[Lr _ _ _ ok];exact au 40
 unfold Vn;rw[show xQ a (bP m 8 8) (ay 40)=mI a (bP m 8 8) (ay 40) (ay 40).length from if_pos ok];exact lF _ _ _ _
theorem Bj (n:Nat)(f:Nat→Int):aL (fM n (fun i=>eU (f i)))=true:=by
 rw[aV,bQ]
 intro i hi
 rw[dN _ _ _ hi]
 exact kK _
theorem sM (m a x:List Int):(Fh m a x).length=40∧aL (Fh m a x)=true:=⟨bQ _ _,Bj 40 _⟩
theorem mQ (m a x:List Int):(yL m a x).length=40∧aL (yL m a x)=true:=⟨bQ _ _,Bj 40 _⟩
theorem Bl {m:List Int}(hg:cO m=true):aL (bP m 16 80)=true:=((mX m).1 hg).2.2.1
theorem Vp {m a:List Int}(hg:cO m=true)(hA:j6 a):jT (chF a) (bP m 16 80)=true:=by
 refine Ch _ _ (fun j hj=>?_)
 have f:=Bh hA (kW (bP m 16 80) (20+j)) (uL _ _ (Bl hg))
 unfold jl
 rw[decide_eq_true f.1,f.2.1];rfl
theorem YF {m a:List Int}(x:List Int)(hg:cO m=true)(hA:j6 a):pX (bP m 16 80) (Fh m a x) (chF a)=vX (vE m a x):=by
 unfold pX
 rw[if_pos (sM m a x).1,(sM m a x).2,Bl hg,if_pos (by rfl),if_pos (Vp hg hA)]
 rfl
theorem Dz (m a x:List Int):20≤(vE m a x).1∧(vE m a x).1≤79:=by
 have:=Lv (mD (Fh m a x) (chF a) (bP m 16 80)) (mE (chF a) (bP m 16 80)) 60
 unfold vE
 omega
theorem Qj (m a x:List Int):0≤(vE m a x).2.1∧(vE m a x).2.1≤42949672960∧0≤(vE m a x).2.2∧(vE m a x).2.2≤42949672960:=
 UR _ _ 42949672960 (by decide) (Vk _ _ _) (Vl _ _) 60
theorem Vq (c e:Int):0≤Ym c e∧Ym c e≤7:=by
 unfold Ym
 split
 ·omega
 have:=abV (iT c) (iT e) 7;omega
theorem ahG (c e:Int):0≤Yg c e∧Yg c e≤31:=by
 unfold Yg
 split
 ·omega
 have:=abP (rH c) (rJ e) 31;omega
theorem ahH (n:Int):0≤Aq n∧Aq n≤18022:=by
 unfold Aq
 split
 ·exact tK _
 omega
theorem acy (m a x:List Int):mJ (bP m 16 80) ((vE m a x).1:Int)=jV (bP m 16 80) (vE m a x).1∧AU ((vE m a x).1:Int)=0:=by
 have l:=Dz m a x
 exact qO _ _ gA gA
theorem Bn {m a:List Int}(x:List Int)(hg:cO m=true)(hA:j6 a):(OY m a x).length=40∧aL (OY m a x)=true∧J_ (om a) (mJ (bP m 16 80) ((vE m a x).1:Int))=0:=by
 unfold OY
 rw[(acy m a x).1]
 exact Bh hA (kW _ _) (uL _ _ (Bl hg))
theorem ahI {t:List Int}(ht:aL t=true)(r:List Int)(n:Nat):-42949672960≤Kl t r n∧Kl t r n≤42949672960:=by
 have:=uN (fun i=>aC t i*fD r n i) 1073741824 (fun i=>by
  have b:=qR r n i
  have c:-32768≤aC t i∧aC t i≤32767:=by
   by_cases h:i<t.length
   ·exact(aV t).1 ht i h
   rw[dO _ _ gA];omega
  have:=qK _ _ c.1 c.2 b.1 b.2
  show -1073741824≤aC t i*fD r n i∧aC t i*fD r n i≤1073741824
  omega) 40
 unfold Kl
 omega
theorem Bo {m a:List Int}(x:List Int)(hA:j6 a):Au m a x=tgL (yL m a x) (om a)∧Km (yL m a x) (om a)=0∧(Au m a x).length=40∧xU (Au m a x)=true:=by
 obtain⟨r1,r2,_⟩:=pQ hA
 obtain⟨u1,u2⟩:=mQ m a x
 have e:Au m a x=tgL (yL m a x) (om a):=if_pos ⟨u1,r1,by rw[u2,r2];rfl⟩
 refine⟨e,?_,?_,?_⟩
 ·unfold Km;rw[if_pos ⟨u1,r1⟩,if_pos (by rw[u2,r2];rfl)]
 ·rw[e];exact bQ _ _
 rw[tO,e]
 unfold tgL
 rw[bQ]
 intro i hi
 rw[dN _ _ _ hi]
 have:=ahI u2 (om a) i
 omega
theorem acz {m a:List Int}(x:List Int)(hA:j6 a):vJ (Au m a x) (om a)=0:=by
 obtain⟨_,_,d1,d2⟩:=Bo (m:=m) x hA
 unfold vJ
 rw[if_pos ⟨d1,(pQ hA).1⟩,if_pos d2]
theorem yM {m a:List Int}(x:List Int)(hA:j6 a):(oq m a x).length=4∧f_ (oq m a x)=true:=by
 have e:oq m a x=kR (Au m a x) (om a):=if_pos (acz x hA)
 rw[e]
 exact qE _ _ 8
theorem acA {m a:List Int}(x:List Int)(hA:j6 a):0≤vF m a x∧vF m a x≤15:=by
 have e:vF m a x=Fa (Au m a x) (kR (Au m a x) (om a)) 4:=if_pos (acz x hA)
 rw[e]
 exact ahy _ _
theorem Mt {m a:List Int}(x:List Int)(hA:j6 a):(chO m a x).length=40∧aL (chO m a x)=true∧Ux (oq m a x) (vF m a x) 4096=0:=by
 obtain⟨b1,b2⟩:=Dx (x:=oq m a x) (s:=vF m a x) (z:=4096) ⟨acA x hA,⟨by decide,by decide⟩,(yM x hA).2⟩
 refine⟨by unfold chO;rw[b2,bQ],?_,b1⟩
 unfold chO
 rw[b2,aV,bQ]
 intro i hi
 rw[dN _ _ _ hi]
 unfold Mg
 split
 ·split<;>omega
 omega
theorem jY {m a:List Int}(x:List Int)(hA:j6 a):(tV m a x).length=40∧aL (tV m a x)=true∧J_ (om a) (chO m a x)=0:=Bh hA (Mt x hA).1 (Mt x hA).2.1
theorem zM (t f:List Int)(ht:aL t=true)(hf:aL f=true):-42949672960≤fE t f 40∧fE t f 40≤42949672960:=by
 have g:∀l:List Int,aL l=true→∀i,-32768≤aC l i∧aC l i≤32767:=fun l hl i=>by
  by_cases h:i<l.length
  ·exact(aV l).1 hl i h
  rw[dO _ _ gA];omega
 have:=uN (fun i=>aC t i*aC f i) 1073741824 (fun i=>by
  have b:=g t ht i
  have c:=g f hf i
  have:=qK _ _ b.1 b.2 c.1 c.2
  show -1073741824≤aC t i*aC f i∧aC t i*aC f i≤1073741824
  omega) 40
 unfold fE
 omega
theorem Qk {m a:List Int}(x:List Int)(hA:j6 a):sJ (Qh m a x):=by
 have l:=Dz m a x
 have xb:=(iq _).1 (yM (m:=m) x hA).2
 rw[(yM (m:=m) x hA).1]at xb
 have s:=acA (m:=m) x hA
 have g:0≤Fj m a x∧Fj m a x≤7:=Vq _ _
 have v:0≤YE m a x∧YE m a x≤31:=ahG _ _
 unfold Qh
 generalize oq m a x=X at *
 generalize vF m a x=S at *
 generalize YE m a x=L at *
 generalize Fj m a x=G at *
 generalize (vE m a x).1=P at *
 refine⟨rfl,?_,g,fun j hj=>?_,s,v⟩
 ·show 0≤(P:Int)-20∧(P:Int)-20≤59;omega
 obtain rfl|rfl|rfl|rfl:j=0∨j=1∨j=2∨j=3:=gA
 ·exact xb 0 gA
 ·exact xb 1 gA
 ·exact xb 2 gA
 exact xb 3 gA
def ku (i:Int):Int:=if i<0∨119<i then 0 else 32767*(2*(if 59<i then 119-i else i)+1) / 119
theorem Fp (i:Int)(h0:0≤i)(h1:i≤59)(w:World):Calls prog 51 #[.int .i64 i] w fun e w'=>e=.returned (.int .i64 (32767*(2*i+1) / 119))∧w'=w:=by
 have e:(32767*(2*i+1)).tdiv 119=32767*(2*i+1) / 119:=Int.tdiv_eq_ediv_of_nonneg gA
 go_enter func51,ntmps51
 go_wp2_with fail
 go_ret
 exact⟨by first|rfl|(rw[←e]),rfl⟩
theorem Jd (i:Int)(w:World):Calls prog 51 #[.int .i64 i] w fun e w'=>e=.returned (.int .i64 (ku i))∧w'=w:=by
 unfold ku
 by_cases h1:i<0
 ·rw[if_pos (.inl h1)]
  go_enter func51,ntmps51
  go_wp2_with fail
  go_ret
  exact⟨rfl,rfl⟩
 by_cases h2:119<i
 ·rw[if_pos (.inr h2)]
  go_enter func51,ntmps51
  go_wp2_with fail
  go_ret
  exact⟨rfl,rfl⟩
 rw[if_neg gA]
 by_cases h3:59<i
 ·rw[if_pos h3]
  have L:=Zd (Fp (119-i) gA gA w)
  generalize 32767*(2*(119-i)+1) / 119=z at *
  go_enter func51,ntmps51
  go_wp2_with fail
  refine L.out.mono ?_
  rintro e w1 ⟨rfl,rfl⟩
  go_wp2_with fail
  go_ret
  exact⟨rfl,rfl⟩
 rw[if_neg h3]
 exact Fp i gA gA w
def wN (l:List Int)(i:Nat):Int:=(aC l i*ku i+16384) / 32768
def gB (f:Nat→Int)(k:Nat):Nat→Int
 | 0=>0
 | m+1=>gB f k m+f m*f (m+k)
def mR (f:Nat→Int)(k:Nat):Int:=gB f k (120-k)
theorem yN (i:Nat):0≤ku i∧ku i≤32767:=by
 unfold ku
 split
 ·omega
 split<;>omega
theorem Mv (a b:Int)(h1:-32768≤a)(h2:a≤32767)(h3:0≤b)(h4:b≤32767):-1073709056≤a*b∧a*b≤1073676289:=by
 have e1:0≤(a+32768)*b:=Int.mul_nonneg gA h3
 have e2:0≤(32767-a)*b:=Int.mul_nonneg gA h3
 simp only[Int.add_mul,Int.sub_mul]at e1 e2
 omega
theorem agQ (l:List Int)(i:Nat)(h1:-32768≤aC l i)(h2:aC l i≤32767):-32768≤wN l i∧wN l i≤32768:=by
 obtain⟨a,b⟩:=yN i
 obtain⟨c,d⟩:=Mv _ _ h1 h2 a b
 unfold wN
 generalize aC l i*ku i=z at *
 omega
theorem DF (a b:Int)(h1:-32768≤a)(h2:a≤32768)(h3:-32768≤b)(h4:b≤32768):-1073741824≤a*b∧a*b≤1073741824:=by
 have e1:0≤(32768-a)*(b+32768):=Int.mul_nonneg gA gA
 have e2:0≤(a+32768)*(32768-b):=Int.mul_nonneg gA gA
 have e3:0≤(a+32768)*(b+32768):=Int.mul_nonneg gA gA
 have e4:0≤(32768-a)*(32768-b):=Int.mul_nonneg gA gA
 simp only[Int.sub_mul,Int.add_mul,Int.mul_add,Int.mul_sub]at e1 e2 e3 e4
 omega
theorem tX (f:Nat→Int)(k:Nat)(h:∀i,-32768≤f i∧f i≤32768):∀m:Nat,-1073741824*(m:Int)≤gB f k m∧gB f k m≤1073741824*(m:Int)
 | 0=>by simp[gB]
 | m+1=>by
  obtain⟨a,b⟩:=tX f k h m
  obtain⟨c,d⟩:=DF _ _ (h m).1 (h m).2 (h (m+k)).1 (h (m+k)).2
  unfold gB
  generalize f m*f (m+k)=z at *
  omega
theorem YH (a:Int):0≤a*a:=by
 rcases Int.le_total 0 a with h|h
 ·exact Int.mul_nonneg h h
 have:=Int.mul_nonneg (a:=-a) (b:=-a) gA gA
 rwa [Int.neg_mul_neg]at this
theorem Vr (a b:Int):-(a*a+b*b)≤2*(a*b)∧2*(a*b)≤a*a+b*b:=by
 have e1:0≤(a-b)*(a-b):=YH _
 have e2:0≤(a+b)*(a+b):=YH _
 simp only[Int.sub_mul,Int.add_mul,Int.mul_add,Int.mul_sub]at e1 e2
 rw[Int.mul_comm b a]at e1 e2
 omega
theorem Cj (f:Nat→Int):∀m d,gB f 0 m≤gB f 0 (m+d)
 | m,0=>Int.le_refl _
 | m,d+1=>by
  have:=Cj f m d
  have e:0≤f (m+d)*f (m+d):=YH _
  show _≤gB f 0 (m+d)+f (m+d)*f (m+d+0)
  rw[Nat.add_zero]
  omega
theorem YI (f:Nat→Int)(k:Nat):∀m,gB f 0 (k+m)=gB f 0 k+gB (fun i=>f (i+k)) 0 m
 | 0=>by simp[gB]
 | m+1=>by
  have:=YI f k m
  show gB f 0 (k+m)+f (k+m)*f (k+m+0)=gB f 0 k+(gB (fun i=>f (i+k)) 0 m+f (m+k)*f (m+0+k))
  rw[this,Nat.add_zero,Nat.add_zero,Nat.add_comm k m]
  omega
theorem sq_nonneg (f:Nat→Int):∀m,0≤gB f 0 m
 | 0=>Int.le_refl _
 | m+1=>by
  have:=sq_nonneg f m
  have e:0≤f m*f m:=YH _
  show 0≤gB f 0 m+f m*f (m+0)
  rw[Nat.add_zero]
  omega
theorem Ql (f:Nat→Int)(k:Nat):∀m,-(gB f 0 m+gB (fun i=>f (i+k)) 0 m)≤2*gB f k m∧2*gB f k m≤gB f 0 m+gB (fun i=>f (i+k)) 0 m
 | 0=>by simp[gB]
 | m+1=>by
  obtain⟨a,b⟩:=Ql f k m
  obtain⟨c,d⟩:=Vr (f m) (f (m+k))
  show -(gB f 0 m+f m*f (m+0)+(gB (fun i=>f (i+k)) 0 m+f (m+k)*f (m+0+k)))≤2*(gB f k m+f m*f (m+k))∧_≤gB f 0 m+f m*f (m+0)+(gB (fun i=>f (i+k)) 0 m+f (m+k)*f (m+0+k))
  rw[Nat.add_zero]
  show _∧2*(gB f k m+f m*f (m+k))≤_
  omega
theorem ahJ (f:Nat→Int)(k:Nat)(hk:k≤120):-mR f 0≤mR f k∧mR f k≤mR f 0:=by
 obtain⟨a,b⟩:=Ql f k (120-k)
 have h1:=Cj f (120-k) k
 have h2:=YI f k (120-k)
 have h3:=sq_nonneg f k
 rw[show 120-k+k=120 by omega]at h1
 rw[show k+(120-k)=120 by omega]at h2
 unfold mR
 rw[Nat.sub_zero]
 omega
def dZ (f:Nat→Int)(j:Nat):Int:=if j=0 then mR f 0+1 else mR f j
def Kn (n:Nat)(z:Int):Int:=if 31<n then z / 2^(n-31)else z*2^(31-n)
def gH (f:Nat→Int)(n j:Nat):Int:=Kn n (dZ f j)-Kn n (dZ f j)*j*j / 8192
def rT (f:Nat→Int)(n:Nat):Value:=.agg #[.int .i64 (gH f n 0),.int .i64 (gH f n 1),.int .i64 (gH f n 2),.int .i64 (gH f n 3),.int .i64 (gH f n 4),.int .i64 (gH f n 5),.int .i64 (gH f n 6),.int .i64 (gH f n 7),.int .i64 (gH f n 8)]
def Fq (l:List Int)(k:Nat)(rs:List Int):Prop:=rs.length=120∧∀j,j<k→aC rs j=wN l j
theorem Mw (l:List Int)(hl:l.length=120)(hr:aL l=true)(i:Nat):-32768≤wN l i∧wN l i≤32768:=by
 by_cases h:i<120
 ·have:=(aV l).1 hr i gA
  exact agQ l i this.1 this.2
 have e:aC l i=0:=dO l i gA
 exact agQ l i gA gA
theorem Ko (l rs:List Int)(k:Nat)(h:Fq l k rs)(hk:k<120):Fq l (k+1) (rs.set k (wN l k)):=by
 obtain⟨h1,h2⟩:=h
 refine⟨by simpa using h1,fun j hj=>?_⟩
 by_cases e:j=k
 ·subst e
  simp[aC,List.getD,h1,hk]
 have:=h2 j gA
 simpa [aC,List.getD,List.getElem?_set,Ne.symm e] using this
theorem xq {f:Nat→Int}:1≤dZ f 0:=by
 have:=sq_nonneg f 120
 show 1≤gB f 0 120+1
 omega
theorem tY {f:Nat→Int}(hB:∀i,-32768≤f i∧f i≤32768)(j:Nat)(hj:j<9):-128849018880≤dZ f j∧dZ f j≤128849018881:=by
 have h:=tX f j hB (120-j)
 have h0:=tX f 0 hB 120
 have e0:mR f 0=gB f 0 120:=rfl
 have e1:mR f j=gB f j (120-j):=rfl
 unfold dZ
 split<;>omega
theorem Fu {f:Nat→Int}(hB:∀i,-32768≤f i∧f i≤32768){n:Nat}(h:Bits (dZ f 0) n):1≤n∧n≤37:=by
 obtain⟨b1,b2,b3⟩:=h
 have p:=xq (f:=f)
 obtain⟨c1,c2⟩:=b3 gA
 refine⟨c1,?_⟩
 rcases Nat.lt_or_ge n 38 with g|g
 ·omega
 have q:=(tY hB 0 gA).2
 have h1:(2:Nat)^37≤2^(n-1):=Nat.pow_le_pow_right gA gA
 have e:((2^(n-1):Nat):Int)=(2:Int)^(n-1):=by simp
 omega
def Kq (f:Nat→Int)(n k:Nat)(ys:List Int):Prop:=ys.length=9∧∀j,j<k→aC ys j=gH f n j
theorem Kr {f:Nat→Int}{n k:Nat}{ys:List Int}(h:Kq f n k ys)(hk:k<9):Kq f n (k+1) (ys.set k (gH f n k)):=by
 obtain⟨h1,h2⟩:=h
 refine⟨by simpa using h1,fun j hj=>?_⟩
 by_cases e:j=k
 ·subst e
  simp[aC,List.getD,h1,hk]
 have:=h2 j gA
 simpa [aC,List.getD,List.getElem?_set,Ne.symm e] using this
theorem aal {f:Nat→Int}(j:Nat)(hj:j<9):-dZ f 0≤dZ f j∧dZ f j≤dZ f 0:=by
 have h:=ahJ f j gA
 have p:=sq_nonneg f 120
 have e0:mR f 0=gB f 0 120:=rfl
 unfold dZ
 rw[if_pos rfl]
 split<;>omega
theorem acB {f:Nat→Int}{n:Nat}(h:Bits (dZ f 0) n)(j:Nat)(hj:j<9):-2147483648≤Kn n (dZ f j)∧Kn n (dZ f j)≤2147483648:=by
 obtain⟨a,b⟩:=aal (f:=f) j hj
 have h1:=h.1
 generalize dZ f j=z at *
 generalize dZ f 0=y at *
 unfold Kn
 split
 ·rename_i hn
  have hp:(0:Int)<2^(n-31):=Int.pow_pos (by decide)
  have e:(2:Int)^n=2147483648*2^(n-31):=by
   rw[show(2147483648:Int)=2^31 by decide,←Int.pow_add,show 31+(n-31)=n by omega]
  rw[e]at h1
  exact⟨(Int.le_ediv_iff_mul_le hp).2 (by rw[Int.neg_mul];omega),by
   have:=Int.ediv_lt_of_lt_mul (a:=z) (b:=2147483648) hp gA
   omega⟩
 rename_i hn
 have hp:(0:Int)<2^(31-n):=Int.pow_pos (by decide)
 have e:(2:Int)^n*2^(31-n)=2147483648:=by
  rw[←Int.pow_add,show n+(31-n)=31 by omega];decide
 have e1:0≤(2^n-z)*2^(31-n):=Int.mul_nonneg gA gA
 have e2:0≤(2^n+z)*2^(31-n):=Int.mul_nonneg gA gA
 rw[Int.sub_mul,e]at e1
 rw[Int.add_mul,e]at e2
 omega
def rU:Value:=.agg #[.int .i64 0,.int .i64 0,.int .i64 0,.int .i64 0,.int .i64 0,.int .i64 0,.int .i64 0,.int .i64 0,.int .i64 0]
theorem YJ {z:Int}{n m:Nat}(hz:0<z)(h:Bits z n)(k:Bits z m):n≤m:=by
 obtain⟨_,_,h3⟩:=h
 obtain⟨k1,_,_⟩:=k
 obtain⟨a,b⟩:=h3 hz
 rcases Nat.lt_or_ge m n with g|g
 ·have h1:(2:Nat)^m≤2^(n-1):=Nat.pow_le_pow_right gA gA
  have e1:((2^(n-1):Nat):Int)=(2:Int)^(n-1):=by simp
  have e2:((2^m:Nat):Int)=(2:Int)^m:=by simp
  omega
 exact g
theorem Ck {z:Int}{n m:Nat}(hz:0<z)(h:Bits z n)(k:Bits z m):n=m:=by
 have:=YJ hz h k
 have:=YJ hz k h
 omega
def arr (l:List Int):Array Value:=(l.map (Value.int .u32)).toArray
theorem mF (l:List Int)(i:Nat)(h:i<l.length):(arr l)[i]?=some (.int .u32 (aC l i)):=by
 simp[arr,aC,List.getD,h]
theorem kQ (l:List Int)(k:Nat)(v:Int):(arr l).setIfInBounds k (.int .u32 v)=arr (l.set k v):=by
 simp[arr,List.map_set]
def Sl (w:World)(v:Value)(l:List Int):Prop:=
 (v=.slice none 0 0∧l=[])∨∃(b c:Nat) (cs:Array Value),v=.slice (some ⟨b,0,none⟩) l.length c∧l.length≤c∧w.heap[b]?=some (.cells cs 157 (0,0))∧∀i,i<l.length→cs[i]?=some (.int .u32 (aC l i))
def Struct (w:World)(b:Nat):Prop:=∃x y,w.heap[b]?=some (.cells #[x,y] 96 (0,0))
def jJ (w:World)(b:Nat)(z:Int):Prop:=
 ∃(v:Value) (l:List Int),w.heap[b]?=some (.cells #[.bool (decide (z<0)),v] 96 (0,0))∧Sl w v l∧WF l∧Top l∧val l=z.natAbs∧l.length≤8
theorem ahK {w:World}{v:Value}{l:List Int}(h:Sl w v l):∃a c,v=.slice a l.length c:=by
 rcases h with⟨rfl,rfl⟩|⟨b,c,cs,rfl,_⟩
 ·exact⟨_,_,rfl⟩
 exact⟨_,_,rfl⟩
theorem qX (w:World):Sl w (.slice none 0 0) []:=Or.inl ⟨rfl,rfl⟩
theorem zN {w w':World}{v:Value}{l:List Int}{r:Option Nat}(h:Sl w v l)(hg:w.grownBy w' r)(hr:∀k,r=some k→Struct w k):Sl w' v l:=by
 rcases h with h|⟨b,c,cs,h1,h2,h3,h4⟩
 ·exact Or.inl h
 refine Or.inr ⟨b,c,cs,h1,h2,?_,h4⟩
 rw[hg.block b (aN h3) ?_]
 ·exact h3
 intro e
 obtain⟨x,y,hc⟩:=hr b e.symm
 rw[h3]at hc
 simp at hc
theorem jF {w w':World}{v:Value}{l:List Int}(h:Sl w v l)(hg:w.grownBy w' none):Sl w' v l:=zN h hg (fun k e=>by cases e)
theorem bG {w w':World}{b:Nat}{r:Option Nat}(h:Struct w b)(hg:w.grownBy w' r)(hb:r≠some b):Struct w' b:=by
 obtain⟨x,y,hc⟩:=h
 exact⟨x,y,by rw[hg.block b (aN hc) (fun e=>hb e.symm)];exact hc⟩
theorem bU {w:World}{b:Nat}{z:Int}(h:jJ w b z):Struct w b:=by
 obtain⟨v,l,h1,_⟩:=h;exact⟨_,_,h1⟩
theorem Qs {w w':World}{b:Nat}{z:Int}{r:Option Nat}(h:jJ w b z)(hg:w.grownBy w' r)(hb:r≠some b)(hr:∀k,r=some k→Struct w k):jJ w' b z:=by
 obtain⟨v,l,h1,h2,h3⟩:=h
 exact⟨v,l,by rw[hg.block b (aN h1) (fun e=>hb e.symm)];exact h1,zN h2 hg hr,h3⟩
theorem bJ {w w':World}{b:Nat}{z:Int}(h:jJ w b z)(hg:w.grownBy w' none):jJ w' b z:=Qs h hg (by simp) (fun k e=>by cases e)
theorem sN (w:World)(rs:List Int)(n:Nat)(h:rs.length=n):Sl (w.alloc (.cells (arr rs) 157)) (.slice (some ⟨w.heap.size,0,none⟩) n n) rs:=
 Or.inr ⟨w.heap.size,n,arr rs,by rw[h],gA,cK _ _,fun i hi=>mF rs i hi⟩
theorem iK {w:World}{v:Value}{l:List Int}(h:Sl w v l):∃ad c,v=.slice ad l.length c∧(0<l.length→∃b,ad=some ⟨b,0,none⟩∧b<w.heap.size∧∀i,i<l.length→w.cell? ⟨b,i,none⟩=some (.int .u32 (aC l i))):=by
 rcases h with⟨rfl,rfl⟩|⟨b,c,cs,rfl,hc,hb,hcs⟩
 ·exact⟨_,_,rfl,fun h=>by simp at h⟩
 exact⟨_,_,rfl,fun _=>⟨b,rfl,aN hb,fun i hi=>by rw[aI hb];exact hcs i hi⟩⟩
def gT (w:World)(z:Int)(n:Nat)(e:Ending)(w':World):Prop:=
 ∃v' l',e=.returned v'∧Sl w' v' l'∧WF l'∧Top l'∧val l'=z∧l'.length≤n∧w.grownBy w' none
def YT (w:World)(z:Int)(n:Nat)(e:Ending)(w':World):Prop:=
 ∃v' l',e=.returned v'∧Sl w v' l'∧WF l'∧Top l'∧val l'=z∧l'.length≤n∧w'=w
theorem acL {w:World}{l:List Int}{b c:Nat}{cs:Array Value}(hw:WF l)(hb:w.heap[b]?=some (.cells cs 157 (0,0)))(hcs:∀i,i<l.length→cs[i]?=some (.int .u32 (aC l i)))(hc:l.length≤c)
 (k:Nat) (hk:k≤l.length) (hz:∀i,k≤i→i<l.length→aC l i=0) (ht:k=0∨aC l (k-1)≠0):YT w (val l) l.length (.returned (.slice (some ⟨b,0,none⟩) k c)) w:=by
 obtain⟨t1,t2,t3,t4⟩:=ZG l hw k hk hz ht
 refine⟨_,l.take k,rfl,Or.inr ⟨b,c,cs,by rw[t4],gA,hb,fun i hi=>?_⟩,t1,t2,t3,gA,rfl⟩
 rw[t4]at hi
 rw[wT,if_pos hi]
 exact hcs i gA
theorem nO (v:Value)(l:List Int)(w:World)(hs:Sl w v l)(hw:WF l)(hl:l.length≤100) :
 Calls prog 199 #[v] w (YT w (val l) l.length):=by
 rcases hs with⟨rfl,rfl⟩|⟨b,c,cs,rfl,hc,hb,hcs⟩
 ·go_enter func199,ntmps199
  go_wp2_with fail
  refine wp_loop_rounds 1 ?_
  rw[rounds_succ]
  go_wp2_with fail
  go_ret
  exact⟨_,[],rfl,qX _,hw,Or.inl rfl,rfl,Nat.le_refl _,rfl⟩
 have bH:∀i,i<l.length→w.cell? ⟨b,i,none⟩=some (.int .u32 (aC l i)):=fun i hi=>by rw[aI hb];exact hcs i hi
 have fin:=fun k hk hz ht=>acL (w:=w) (l:=l) hw hb hcs hc k hk hz ht
 have h_:Hid _:=fin
 clear fin hb hcs
 generalize hT:YT w (val l) l.length=T at *
 have HT:Hid (YT w (val l) l.length=T):=hT
 clear hT
 go_enter func199,ntmps199
 go_wp2_with fail
 go_loop [3] (fun n=>∃k:Nat,n=.int .i64 k∧k≤l.length∧Hid (∀i,k≤i→i<l.length→aC l i=0)) (fun n=>(intOf n).toNat)
 case atStart=>exact⟨l.length,rfl,Nat.le_refl _,fun i h1 h2=>gA⟩
 case round=>
  obtain⟨k,rfl,hk,hz⟩:=hrel
  cases k with
  | zero=>
   have F:=h_.out 0 gA hz.out (Or.inl rfl)
   have HF:Hid _:=F
   clear F h_ bH
   go_wp2_with fail
   exact HF.out
  | succ j=>
   have hj:=bH j gA
   clear bH
   by_cases h0:aC l j=0
   ·have hb0:(aC l j==0)=true:=by simp[h0]
    have H0:Hid (aC l j=0):=h0
    clear h0 h_
    go_wp2_with fail
    go_round
    case rel=>exact⟨j,by go_num,gA,fun i h1 h2=>by by_cases e:i=j;exact(by rw[e];exact H0.out);exact hz.out i gA h2⟩
    case measure=>simp[intOf]
   have hb0:(aC l j==0)=false:=by simp[h0]
   have F:=h_.out (j+1) hk hz.out (Or.inr (by rw[Nat.add_sub_cancel];exact h0))
   have HF:Hid _:=F
   clear F h_ h0
   go_wp2_with fail
   exact HF.out
theorem xA (u:Int)(w:World)(h0:0≤u)(h1:u<18446744073709551616) :
 Calls prog 198 #[.int .u64 u] w (gT w u 2):=by
 have hw:WF [u % 4294967296,u / 4294967296]:=WF2 _ _ gA gA gA gA
 have hv:val [u % 4294967296,u / 4294967296]=u:=by rw[akZ];omega
 have hs:Sl (w.alloc (.cells #[.int .u32 (u % 4294967296),.int .u32 (u / 4294967296)] 157)) (.slice (some ⟨w.heap.size,0,none⟩) 2 2) [u % 4294967296,u / 4294967296]:=
  Or.inr ⟨w.heap.size,2,_,rfl,Nat.le_refl _,cK _ _,fun i hi=>by
   match i,hi with
   | 0,_=>rfl
   | 1,_=>rfl⟩
 have HS:Hid (Sl (w.alloc (.cells #[.int .u32 (u % 4294967296),.int .u32 (u / 4294967296)] 157)) (.slice (some ⟨w.heap.size,0,none⟩) 2 2) [u % 4294967296,u / 4294967296]):=hs
 have HV:Hid (val [u % 4294967296,u / 4294967296]=u):=hv
 clear hs hv
 go_enter func198,ntmps198
 go_wp2_with fail
 refine(nO _ _ _ HS.out hw (by simp)).mono ?_
 rintro e w1 ⟨v',l',rfl,s1,s2,s3,s4,s5,rfl⟩
 have HP:Hid (gT w u 2 (.returned v') _):=⟨v',l',rfl,s1,s2,s3,s4.trans HV.out,s5,ak _ _ _⟩
 clear s1 s2 s3 s4 s5 HS HV hw
 go_wp2_with fail
 first|exact HP.out|(go_ret;exact HP.out)
def fT (w:World)(b:Nat)(x:Int)(e:Ending)(w':World):Prop:=
 e=.returned (.pointer (some ⟨b,0,none⟩))∧jJ w' b x∧w.grownBy w' (some b)
theorem Vy (neg:Bool)(z:Int)(h:0≤z):z=(((if neg then -z else z).natAbs:Nat):Int):=by cases neg<;>simp<;>omega
theorem aat {w:World}{b:Nat}{x y v:Value}{l:List Int}{neg:Bool}(hz:w.heap[b]?=some (.cells #[x,y] 96 (0,0)))(hs:Sl w v l)(hw:WF l)(ht:Top l)(hl:l.length≤8)(s:Bool)(hsn:s=(neg&&decide (0<l.length))) :
 fT w b (if neg then -val l else val l) (.returned (.pointer (some ⟨b,0,none⟩))) ((w.setCell ⟨b,1,none⟩ v).setCell ⟨b,0,none⟩ (.bool s)):=by
 have hv:=(pI l hw).1
 have hpos:0<l.length→0<val l:=fun h=>by
  have h1:=Lg l hw ht (List.length_pos_iff.1 h)
  have:=nD (l.length-1);omega
 have aiG:s=decide ((if neg then -val l else val l)<0):=by
  rw[hsn]
  cases neg
  ·simp;omega
  by_cases h:0<l.length
  ·have:=hpos h;simp[h];omega
  have h0:l=[]:=List.length_eq_zero_iff.1 gA
  subst h0;simp[mh]
 refine⟨rfl,⟨v,l,?_,zN hs (Eb w b _ _) (fun k e=>by cases e;exact⟨_,_,hz⟩),hw,ht,Vy neg _ hv,hl⟩,Eb w b _ _⟩
 rw[←aiG]
 exact ZF hz _ _
theorem jK (b:Nat)(neg:Bool)(v:Value)(l:List Int)(w:World)(hz:Struct w b)(hs:Sl w v l)(hw:WF l)(ht:Top l)(hl:l.length≤8) :
 Calls prog 132 #[.pointer (some ⟨b,0,none⟩),.bool neg,v] w (fT w b (if neg then -val l else val l)):=by
 obtain⟨x,y,hz⟩:=hz
 obtain⟨a,c,rfl⟩:=ahK hs
 have c0:w.cell? ⟨b,0,none⟩=some x:=by rw[aI hz];rfl
 have c1:w.cell? ⟨b,1,none⟩=some y:=by rw[aI hz];rfl
 have f0:w.frozen? ⟨b,0,none⟩=false:=aT hz 0
 have f1:w.frozen? ⟨b,1,none⟩=false:=aT hz 1
 have h_:Hid (∀s,s=(neg&&decide (0<l.length))→fT w b (if neg then -val l else val l) (.returned (.pointer (some ⟨b,0,none⟩))) ((w.setCell ⟨b,1,none⟩ (.slice a l.length c)).setCell ⟨b,0,none⟩ (.bool s))):=fun s hsn=>aat hz hs hw ht hl s hsn
 clear hs hw ht hz
 generalize fT w b (if neg then -val l else val l)=T at *
 cases neg
 ·go_enter func132,ntmps132
  go_wp2_with fail
  exact h_.out false rfl
 by_cases h:0<l.length
 ·have F:Hid (T (.returned (.pointer (some ⟨b,0,none⟩))) ((w.setCell ⟨b,1,none⟩ (.slice a l.length c)).setCell ⟨b,0,none⟩ (.bool true))):=h_.out true (by simp[h])
  clear h_
  go_enter func132,ntmps132
  go_wp2_with fail
  exact F.out
 have F:Hid (T (.returned (.pointer (some ⟨b,0,none⟩))) ((w.setCell ⟨b,1,none⟩ (.slice a l.length c)).setCell ⟨b,0,none⟩ (.bool false))):=h_.out false (by simp[h])
 have h':decide (0<(l.length:Int))=false:=decide_eq_false gA
 clear h_
 go_enter func132,ntmps132
 go_wp2_with fail
 exact F.out
theorem P2:P 2=18446744073709551616:=rfl
theorem P8:P 8=115792089237316195423570985008687907853269984665640564039457584007913129639936:=rfl
theorem lW {w w1 w':World}{b:Nat}{x y:Int}{e:Ending}(h:fT w1 b x e w')(hg:w.grownBy w1 none)(hx:x=y):fT w b y e w':=by
 obtain⟨h1,h2,h3⟩:=h
 subst hx
 exact⟨h1,h2,dB hg h3 (some b) (fun i e _=>by cases e) (fun i e _=>e)⟩
theorem MH (b:Nat)(x:Int)(w:World)(hz:Struct w b)(h0:-9223372036854775808≤x)(h1:x≤9223372036854775807) :
 Calls prog 134 #[.pointer (some ⟨b,0,none⟩),.int .i64 x] w (fT w b x):=by
 by_cases hn:x<0
 ·have e1:Hid (IntKind.u64.wrap (-IntKind.u64.wrap x)=-x):=by unfold Hid;rw[IntKind.wrap_u64,IntKind.wrap_u64];omega
  go_enter func134,ntmps134
  go_wp2_with fail
  rw[e1.out]
  refine(xA _ _ gA gA).mono ?_
  rintro e w1 ⟨v',l',rfl,s1,s2,s3,s4,s5,s6⟩
  have F:Hid (∀e' w2,fT w1 b (if true then -val l' else val l') e' w2→fT w b x e' w2):=fun e' w2 h=>lW h s6 (by rw[s4];simp)
  have hz1:=bG hz s6 (by simp)
  clear s4 s6 hz
  generalize fT w b x=T at *
  go_wp2_with fail
  refine(jK b true v' l' w1 hz1 s1 s2 s3 gA).mono ?_
  intro e2 w2 hm
  have hm':=F.out e2 w2 hm
  obtain⟨rfl,-⟩:=hm
  clear s1 s2 s3 hz1 F
  go_wp2_with fail
  exact hm'
 go_enter func134,ntmps134
 go_wp2_with fail
 refine(xA _ _ gA gA).mono ?_
 rintro e w1 ⟨v',l',rfl,s1,s2,s3,s4,s5,s6⟩
 have F:Hid (∀e' w2,fT w1 b (if false then -val l' else val l') e' w2→fT w b x e' w2):=fun e' w2 h=>lW h s6 (by rw[s4];simp)
 have hz1:=bG hz s6 (by simp)
 clear s4 s6 hz
 generalize fT w b x=T at *
 go_wp2_with fail
 refine(jK b false v' l' w1 hz1 s1 s2 s3 gA).mono ?_
 intro e2 w2 hm
 have hm':=F.out e2 w2 hm
 obtain⟨rfl,-⟩:=hm
 clear s1 s2 s3 hz1 F
 go_wp2_with fail
 exact hm'
def aau (w:World)(x:Int)(e:Ending)(w':World):Prop:=
 ∃b,e=.returned (.pointer (some ⟨b,0,none⟩))∧w.heap.size≤b∧jJ w' b x∧w.grownBy w' none
def iI:Obj:=.cells #[.bool false,.slice none 0 0] 96
theorem eT (w:World):Struct (w.alloc iI) w.heap.size:=⟨_,_,cK _ _⟩
theorem afa {w w':World}{x:Int}{e:Ending}(h:fT (w.alloc iI) w.heap.size x e w'):aau w x e w':=by
 obtain⟨h1,h2,h3⟩:=h
 refine⟨_,h1,Nat.le_refl _,h2,dB (ak w iI none) h3 none (fun i e _=>by cases e) (fun i e hi=>by cases e;omega)⟩
theorem jN (x:Int)(w:World)(h0:-9223372036854775808≤x)(h1:x≤9223372036854775807) :
 Calls prog 54 #[.int .i64 x] w (aau w x):=by
 have F:Hid (∀e' w2,fT (w.alloc iI) w.heap.size x e' w2→aau w x e' w2):=fun e' w2 h=>afa h
 generalize aau w x=T at *
 go_enter func54,ntmps54
 go_wp2_with fail
 refine(MH w.heap.size x (w.alloc iI) (eT w) h0 h1).mono ?_
 intro e2 w2 hm
 have hm':=F.out e2 w2 hm
 obtain⟨rfl,-⟩:=hm
 clear F
 go_wp2_with fail
 exact hm'
theorem eD (x:Int)(w:World)(h0:-9223372036854775808≤x)(h1:x≤9223372036854775807) :
 Calls prog 53 #[.int .i64 x] w (aau w x):=by
 go_enter func53,ntmps53
 go_wp2_with fail
 refine(jN x w h0 h1).mono ?_
 intro e2 w2 hm
 have hm':=hm
 obtain⟨b,rfl,-⟩:=hm
 generalize aau w x=T at *
 go_wp2_with fail
 exact hm'
theorem MJ:(prog.info? 157).map (fun i=>(i.zero,i.size,i.bytes))=some (some (.int .u32 0),1,4):=by kernel_rfl
theorem acM (n:Nat):madeCells #[.int .u32 0] n=arr (List.replicate n 0):=by
 unfold arr madeCells
 apply Array.ext
 ·simp
 intro i h1 h2
 simp[Nat.mod_one]
theorem qY (z:Int)(h0:0≤z)(h1:z≤10000)(u:World) :
 (Instr.makeSlice 94 (.int .i64 z) (.int .i64 z)).run prog u=.ok (.slice (some ⟨u.heap.size,0,none⟩) z.toNat z.toNat) (u.alloc (.cells (arr (List.replicate z.toNat 0)) 157)):=by
 obtain⟨i0,hi,hz0,hz1,hz2⟩:=info_parts MJ
 have h:=run_make (P:=prog) u 94 157 i0 (.int .u32 0) underlying94 hi hz0 .i64 .i64 z z h0 (Int.le_refl _) (by rw[hz2];omega) gA
 rw[←acM]
 simpa [hz1,Value.cells] using h
theorem acN (x y:Int)(s:Nat)(hs:s≤32)(hx:0≤x)(hx':x<2^s)(hy:0≤y)(hd:(2:Int)^s ∣ y)(hy':y<4294967296):bits .or .u32 x y=x+y:=by
 have hp:(2:Int)^s≤4294967296:=by
  have h1:(2:Nat)^s≤2^32:=Nat.pow_le_pow_right gA hs
  have e:((2^s:Nat):Int)=(2:Int)^s:=by simp
  omega
 rw[u32_or x y hx gA hy hy']
 obtain⟨q,rfl⟩:=hd
 have hq:0≤q:=by
  have hp0:(0:Int)<2^s:=Int.pow_pos (by decide)
  exact Int.nonneg_of_mul_nonneg_right hy hp0
 obtain⟨q,rfl⟩:=Int.eq_ofNat_of_zero_le hq
 obtain⟨x,rfl⟩:=Int.eq_ofNat_of_zero_le hx
 have e:((2:Int)^s*(q:Int))=((2^s*q:Nat):Int):=by simp
 rw[e,Int.toNat_natCast,Int.toNat_natCast]
 have hx2:x<2^s:=by
  have e2:((2^s:Nat):Int)=(2:Int)^s:=by simp
  rw[←e2]at hx';omega
 have h3:=Nat.shiftLeft_add_eq_or_of_lt hx2 q
 rw[Nat.shiftLeft_eq,Nat.mul_comm q]at h3
 rw[Nat.or_comm,←h3]
 omega
theorem Kw (a:Int)(s:Nat)(hs:s<32)(h0:0≤a)(h1:a<4294967296) :
 0≤a*2^s∧a*2^s<18446744073709551616∧(2:Int)^s ∣ a*2^s % 4294967296∧a*2^s / 4294967296<2^s∧a*2^s % 4294967296≤4294967296-2^s:=by
 have e:(4294967296:Int)=2^(32-s)*2^s:=by rw[←Int.pow_add,show 32-s+s=32 by omega];rfl
 have hp0:(0:Int)<2^s:=Int.pow_pos (by decide)
 have hq0:(0:Int)<2^(32-s):=Int.pow_pos (by decide)
 have hd:(2:Int)^s ∣ a*2^s % 4294967296:=by
  rw[e,Int.mul_comm a,Int.mul_comm (2^(32-s)),Int.mul_emod_mul_of_pos _ _ hp0]
  exact Int.dvd_mul_right _ _
 have hle:(2:Int)^s≤2147483648:=by
  have h1:(2:Nat)^s≤2^31:=Nat.pow_le_pow_right gA gA
  have e:((2^s:Nat):Int)=(2:Int)^s:=by simp
  omega
 have hm:a*2^s≤4294967295*2^s:=Int.mul_le_mul_of_nonneg_right gA gA
 refine⟨Int.mul_nonneg h0 gA,gA,hd,?_,?_⟩
 ·apply Int.ediv_lt_of_lt_mul gA
  have:a*2^s<4294967296*2^s:=Int.mul_lt_mul_of_pos_right h1 hp0
  rw[Int.mul_comm (2^s)];omega
 have e2:a*2^s % 4294967296=(a % 2^(32-s))*2^s:=by
  rw[e,Int.mul_comm a,Int.mul_comm (2^(32-s)),Int.mul_emod_mul_of_pos _ _ hp0,Int.mul_comm]
 rw[e2]
 have h3:a % 2^(32-s)+1≤2^(32-s):=Int.emod_lt_of_pos a hq0
 have h4:(a % 2^(32-s)+1)*2^s≤2^(32-s)*2^s:=Int.mul_le_mul_of_nonneg_right h3 gA
 rw[Int.add_mul,←e]at h4
 omega
def MN (a:List Int)(q s k:Nat)(rs:List Int):Prop:=
 rs.length=a.length+q+1∧WF rs∧cZ rs (k+q+1)=cZ a k*2^s*P q∧aC rs (k+q)<2^s∧∀j,k+q<j→aC rs j=0
theorem Vz (a:List Int)(q s:Nat):MN a q s 0 (List.replicate (a.length+q+1) 0):=by
 refine⟨by simp,tq _,?_,?_,fun j _=>kV _ _⟩
 ·rw[vN];simp[cZ]
 rw[kV];exact Int.pow_pos (by decide)
theorem VD (a:List Int)(q s k:Nat)(rs:List Int)(ha:WF a)(hs:s<32)(hk:k<a.length)(h:MN a q s k rs) :
 MN a q s (k+1) ((rs.set (k+q) (bits .or .u32 (aC rs (k+q)) (aC a k*2^s % 4294967296))).set (k+q+1) (bits .or .u32 (aC rs (k+q+1)) (aC a k*2^s / 4294967296))):=by
 obtain⟨h1,h2,h3,h4,h5⟩:=h
 obtain⟨m0,m1,m2,m3,m4⟩:=Kw (aC a k) s hs (ha k).1 (ha k).2
 have hp0:(0:Int)<2^s:=Int.pow_pos (by decide)
 have hle:(2:Int)^s≤2147483648:=by
  have h1:(2:Nat)^s≤2^31:=Nat.pow_le_pow_right gA gA
  have e:((2^s:Nat):Int)=(2:Int)^s:=by simp
  omega
 rw[acN _ _ s gA (h2 _).1 h4 gA m2 gA]
 rw[h5 (k+q+1) gA,acN 0 _ 0 gA gA (by decide) gA (by simp) gA,Int.zero_add]
 generalize hv:aC a k*2^s=v at *
 have w1:=h2 (k+q)
 have l1:(rs.set (k+q) (aC rs (k+q)+v % 4294967296)).length=rs.length:=by simp
 have wf1:=uI rs (k+q) (aC rs (k+q)+v % 4294967296) h2 gA gA gA
 have nn:∀i,aC ((rs.set (k+q) (aC rs (k+q)+v % 4294967296)).set (k+q+1) (v / 4294967296)) i=if i=k+q+1 then v / 4294967296 else if i=k+q then aC rs (k+q)+v % 4294967296 else aC rs i:=by
  intro i
  rw[kU _ _ _ _ (by rw[l1];omega),kU _ _ _ _ gA]
 refine⟨by simp;omega,uI _ _ _ wf1 (by rw[l1];omega) gA gA,?_,?_,?_⟩
 ·rw[show k+1+q+1=k+q+1+1 by omega,cZ,cZ,nn,if_pos rfl,nn,if_neg gA,if_pos rfl]
  rw[iY _ rs (k+q) (fun i hi=>by rw[nn,if_neg gA,if_neg gA])]
  rw[cZ]at h3
  have e0:cZ a (k+1)*2^s*P q=cZ a k*2^s*P q+aC a k*P k*2^s*P q:=by rw[cZ,Int.add_mul,Int.add_mul]
  rw[e0,←h3,uG]
  have e1:aC a k*P k*2^s*P q=v*P (k+q):=by
   rw[←hv,Ph,Int.mul_right_comm (aC a k),Int.mul_assoc]
  rw[e1]
  have e2:v=v % 4294967296+4294967296*(v / 4294967296):=(Int.emod_add_mul_ediv v 4294967296).symm
  have e3:v*P (k+q)=v % 4294967296*P (k+q)+v / 4294967296*(P (k+q)*4294967296):=by
   conv=>lhs;rw[e2]
   rw[Int.add_mul,Int.mul_comm 4294967296,Int.mul_assoc,Int.mul_comm 4294967296]
  rw[e3,Int.add_mul]
  omega
 ·rw[show k+1+q=k+q+1 by omega,nn,if_pos rfl];exact m3
 intro j hj
 rw[nn,if_neg gA,if_neg gA]
 exact h5 j gA
theorem acO (v:Value)(l:List Int)(q s:Nat)(w:World)(tZ:Sl w v l)(hw:WF l)(hl:l.length≤40)(hq:q≤40)(hs:s<32) :
 Calls prog 139 #[v,.int .u64 (32*q+s)] w (gT w (val l*2^s*P q) (l.length+q+1)):=by
 rcases tZ with⟨rfl,rfl⟩|⟨b,c,cs,rfl,hc,hb,hcs⟩
 ·have F:gT w (val []*2^s*P q) (0+q+1) (.returned (.slice none 0 0)) w:=⟨_,[],rfl,qX _,uJ,qb,by simp[mh],by simp,aQ _ _⟩
  have HF:=Zd F
  clear F
  generalize gT w _ _=T at *
  go_enter func139,ntmps139
  go_wp2_with fail
  exact HF.out
 by_cases h0:l.length=0
 ·have F:gT w (val l*2^s*P q) (l.length+q+1) (.returned (.slice none 0 0)) w:=⟨_,[],rfl,qX _,uJ,qb,by rw[List.length_eq_zero_iff.1 h0];simp[mh],by simp,aQ _ _⟩
  have HF:=Zd F
  have hb0:((l.length:Int)==0)=true:=by simp[h0]
  clear F h0
  generalize gT w _ _=T at *
  go_enter func139,ntmps139
  go_wp2_with fail
  exact HF.out
 have bH:∀i,i<l.length→w.cell? ⟨b,i,none⟩=some (.int .u32 (aC l i)):=fun i hi=>by rw[aI hb];exact hcs i hi
 have hbs:=aN hb
 have hb0:((l.length:Int)==0)=false:=beq_eq_false_iff_ne.2 gA
 have hq1:(32*(q:Int)+s) / 32=q:=gA
 have hs1:(32*(q:Int)+s) % 32=s:=gA
 have jg:=fun u=>qY ((l.length:Int)+q+1) gA gA u
 have hn:((l.length:Int)+q+1).toNat=l.length+q+1:=gA
 rw[hn]at jg
 clear hn h0 hb hcs
 go_enter func139,ntmps139
 go_wp2_with fail
 go_loopw [8] (fun i wr=>∃(k:Nat) (rs:List Int),i=.int .i64 k∧k≤l.length∧Hid (MN l q s k rs)∧wr=w.alloc (.cells (arr rs) 157)) (fun i _=>l.length-(intOf i).toNat)
 case atStart=>exact⟨0,_,rfl,Nat.zero_le _,Vz l q s,rfl⟩
 case round=>
  obtain⟨k,rs,rfl,hk,hL,rfl⟩:=hrel
  by_cases jS:k<l.length
  ·have hck:=bH k jS
   have hL':=Zd (VD l q s k rs hw hs jS hL.out)
   have hlen:Hid (rs.length=l.length+q+1):=hL.out.1
   have g1:=mF rs (k+q) (by rw[hlen.out];omega)
   have g2:=mF rs (k+q+1) (by rw[hlen.out];omega)
   obtain⟨z0,z1⟩:=hw k
   obtain⟨t0,t1,t2,t3,t4⟩:=Kw (aC l k) s hs z0 z1
   clear bH t2 t3 t4
   go_wp2_with fail
   go_roundw
   case rel=>exact⟨k+1,_,by go_num,gA,hL'.out,by rw[kQ,kQ]⟩
   case measure=>simp[intOf];omega
  have hkk:k=l.length:=gA
  have hwf:=Zd hL.out.2.1
  have hval:Hid (val rs=val l*2^s*P q):=by
   obtain⟨h1,h2,h3,-⟩:=hL.out
   unfold Hid
   rw[←lD rs (k+q+1) gA,h3,lD l k gA]
  have tZ:=Zd (sN w rs (l.length+q+1) hL.out.1)
  have hlen:Hid (rs.length=l.length+q+1):=hL.out.1
  clear bH hkk hL
  go_wp2_with fail
  refine(nO _ rs _ tZ.out hwf.out (by rw[hlen.out];omega)).mono ?_
  rintro e w1 ⟨v',l',rfl,s1,s2,s3,s4,s5,rfl⟩
  have F:=Zs (gT w (val l*2^s*P q) (l.length+q+1) (.returned v') _) (⟨v',l',rfl,s1,s2,s3,s4.trans hval.out,by rw[hlen.out]at s5;exact s5,ak _ _ _⟩)
  clear s1 s2 s3 s4 s5 tZ hwf hval hlen
  generalize gT w (val l*2^s*P q) (l.length+q+1)=T at *
  go_wp2_with fail
  exact F.out
def fJ (x y:Int):Int:=if x<y then -1 else if y<x then 1 else 0
def uR (w:World)(r:Value)(e:Ending)(w':World):Prop:=e=.returned r∧∃n,w'=w.drewN n
theorem t_ (va vb:Value)(a b:List Int)(w:World)(ha:Sl w va a)(hb:Sl w vb b)(wa:WF a)(wb:WF b)(ta:Top a)(tb:Top b)(la:a.length≤100)(lb:b.length≤100) :
 Calls prog 197 #[va,vb] w (uR w (.int .i64 (fJ (val a) (val b)))):=by
 obtain⟨ada,ca,rfl,qZ⟩:=iK ha
 obtain⟨adb,cb,rfl,qc⟩:=iK hb
 clear ha hb
 by_cases hl:a.length=b.length
 ·have hne:((a.length:Int) != b.length)=false:=by simp[hl]
  have E:Hid (fJ (val a) (val b)=fJ (cZ a a.length) (cZ b a.length)):=by unfold Hid val;rw[hl]
  rw[E.out]
  have HL:=Zd hl
  clear hl E
  have R:Hid (∀(r:Int) (n:Nat),r=fJ (cZ a a.length) (cZ b a.length)→uR w (.int .i64 (fJ (cZ a a.length) (cZ b a.length))) (.returned (.int .i64 r)) (w.drewN n)):=fun r n h=>⟨by rw[h],n,rfl⟩
  generalize uR w (.int .i64 (fJ (cZ a a.length) (cZ b a.length)))=T at *
  go_enter func197,ntmps197
  go_wp2_with fail
  go_loopw [5] (fun i wr=>∃k n:Nat,i=.int .i64 ((k:Int)-1)∧k≤a.length∧Hid (∀j,k≤j→j<a.length→aC a j=aC b j)∧wr=w.drewN n) (fun i _=>(intOf i+1).toNat)
  case atStart=>exact⟨a.length,0,rfl,Nat.le_refl _,fun j h1 h2=>gA,rfl⟩
  case round=>
   obtain⟨k,n,rfl,hk,hs,rfl⟩:=hrel
   cases k with
   | zero=>
    have F:=Zd (R.out 0 n (by unfold fJ;rw[abG a b a.length (fun i hi=>hs.out i gA hi)];simp))
    clear R qZ qc
    go_wp2_with fail
    exact F.out
   | succ j=>
    obtain⟨ba,rfl,hba,hca⟩:=qZ gA
    obtain⟨bb,rfl,hbb,hcb⟩:=qc (by rw[←HL.out];omega)
    have c1:=hca j gA
    have c2:=hcb j (by rw[←HL.out];omega)
    clear hca hcb qZ qc
    have hja:(j:Int)<a.length:=gA
    have hjb:(j:Int)<b.length:=by rw[←HL.out];omega
    have ej:(((j+1:Nat)):Int)-1=(j:Int):=gA
    rw[ej]
    clear ej
    by_cases h:aC a j=aC b j
    ·have hne2:(aC a j != aC b j)=false:=by simp[h]
     have H:=Zd h
     clear h R
     go_wp2_with fail
     go_quiet (fail)
     go_wp2_with fail
     go_roundw
     case rel=>exact⟨j,_,rfl,gA,fun i h1 h2=>by by_cases e:i=j;exact(by rw[e];exact H.out);exact hs.out i gA h2,rfl⟩
     case measure=>simp[intOf]
    have hne2:(aC a j != aC b j)=true:=by simp[h]
    by_cases hlt:aC a j<aC b j
    ·have e:-1=fJ (cZ a a.length) (cZ b a.length):=by
      have:=Pj a b wa wb a.length j gA (fun i h1 h2=>hs.out i gA h2) hlt
      unfold fJ;rw[if_pos this]
     have F:=Zd (fun n=>R.out (-1) n e)
     clear e R h
     go_wp2_with fail
     go_quiet (fail)
     go_wp2_with fail
     go_quiet (fail)
     go_wp2_with fail
     rw[World.drewN_drewN,World.drewN_drewN]
     exact F.out _
    have e:1=fJ (cZ a a.length) (cZ b a.length):=by
     have:=Pj b a wb wa a.length j gA (fun i h1 h2=>(hs.out i gA h2).symm) gA
     unfold fJ;rw[if_neg gA,if_pos this]
    have F:=Zd (fun n=>R.out 1 n e)
    clear e R h
    go_wp2_with fail
    go_quiet (fail)
    go_wp2_with fail
    go_quiet (fail)
    go_wp2_with fail
    rw[World.drewN_drewN,World.drewN_drewN]
    exact F.out _
 have hne:((a.length:Int) != b.length)=true:=by simp;omega
 by_cases hlt:a.length<b.length
 ·have e:fJ (val a) (val b)=-1:=by unfold fJ;rw[if_pos (Av a b wa wb tb hlt)]
  rw[e]
  have hlt':(a.length:Int)<b.length:=gA
  have F:=Zs (uR w (.int .i64 (-1)) (.returned (.int .i64 (-1))) w) (⟨rfl,0,rfl⟩)
  clear e qZ qc hl hlt
  generalize uR w (.int .i64 (-1))=T at *
  go_enter func197,ntmps197
  go_wp2_with fail
  exact F.out
 have e:fJ (val a) (val b)=1:=by
  have:=Av b a wb wa ta gA
  unfold fJ;rw[if_neg gA,if_pos this]
 rw[e]
 have hlt':¬(a.length:Int)<b.length:=gA
 have F:=Zs (uR w (.int .i64 1) (.returned (.int .i64 1)) w) (⟨rfl,0,rfl⟩)
 clear e qZ qc hl hlt
 generalize uR w (.int .i64 1)=T at *
 go_enter func197,ntmps197
 go_wp2_with fail
 exact F.out
def Ky (a b:List Int)(n k:Nat)(c:Int)(rs:List Int):Prop:=
 rs.length=n∧WF rs∧cZ rs k+c*P k=cZ a k+cZ b k∧0≤c∧c≤1∧∀j,k≤j→aC rs j=0
theorem Kz (a b:List Int)(n:Nat):Ky a b n 0 0 (List.replicate n 0):=
 ⟨by simp,tq _,by simp[cZ],gA,gA,fun j _=>kV _ _⟩
theorem xB (a b:List Int)(n k:Nat)(c d:Int)(rs:List Int)(wa:WF a)(wb:WF b)(hk:k<n)(h:Ky a b n k c rs)(hd:d=c+aC a k+aC b k) :
 Ky a b n (k+1) (d / 4294967296) (rs.set k (d % 4294967296)):=by
 obtain⟨h1,h2,h3,h4,h5,h6⟩:=h
 have x1:=wa k;have x2:=wb k
 have nn:∀i,aC (rs.set k (d % 4294967296)) i=if i=k then d % 4294967296 else aC rs i:=fun i=>kU _ _ _ _ gA
 refine⟨by simp;omega,uI _ _ _ h2 gA gA gA,?_,gA,gA,fun j hj=>by rw[nn,if_neg gA];exact h6 j gA⟩
 rw[cZ,cZ,cZ,nn,if_pos rfl,iY _ rs k (fun i hi=>by rw[nn,if_neg gA]),uG]
 have e2:d=d % 4294967296+4294967296*(d / 4294967296):=(Int.emod_add_mul_ediv d 4294967296).symm
 have e3:d*P k=d % 4294967296*P k+d / 4294967296*(P k*4294967296):=by
  conv=>lhs;rw[e2]
  rw[Int.add_mul,Int.mul_comm 4294967296,Int.mul_assoc,Int.mul_comm 4294967296]
 have e4:d*P k=c*P k+aC a k*P k+aC b k*P k:=by rw[hd,Int.add_mul,Int.add_mul]
 omega
theorem YU (a b:List Int)(z:Int)(rs:List Int)(wa:WF a)(wb:WF b)(hl:b.length≤a.length)(h:Ky a b (a.length+1) a.length z rs) :
 WF (rs.set a.length z)∧val (rs.set a.length z)=val a+val b:=by
 obtain⟨h1,h2,h3,h4,h5,h6⟩:=h
 have nn:∀i,aC (rs.set a.length z) i=if i=a.length then z else aC rs i:=fun i=>kU _ _ _ _ gA
 refine⟨uI _ _ _ h2 gA gA gA,?_⟩
 rw[←lD (rs.set a.length z) (a.length+1) (by rw[List.length_set];omega),cZ,nn,if_pos rfl,iY _ rs a.length (fun i hi=>by rw[nn,if_neg gA]),h3,lD b _ hl]
 rfl
theorem Qt (va vb:Value)(a b:List Int)(w:World)(ha:Sl w va a)(hb:Sl w vb b)(wa:WF a)(wb:WF b)(la:a.length≤40)(lb:b.length≤40) :
 Calls prog 136 #[va,vb] w (gT w (val a+val b) (max a.length b.length+1)):=by
 obtain⟨ada,ca,rfl,qZ⟩:=iK ha
 obtain⟨adb,cb,rfl,qc⟩:=iK hb
 clear ha hb
 by_cases hl:a.length<b.length
 ·have hlt:(a.length:Int)<b.length:=gA
  rw[Nat.max_eq_right gA]
  have jg:=fun u=>qY ((b.length:Int)+1) gA gA u
  have hn:((b.length:Int)+1).toNat=b.length+1:=gA
  rw[hn]at jg
  clear hn
  go_enter func136,ntmps136
  go_wp2_with fail
  go_loopw [6,7] (fun c i wr=>∃(k:Nat) (z:Int) (rs:List Int),c=.int .u64 z∧i=.int .i64 k∧k≤b.length∧Hid (Ky b a (b.length+1) k z rs)∧wr=w.alloc (.cells (arr rs) 157)) (fun _ i _=>b.length-(intOf i).toNat)
  case atStart=>exact⟨0,0,_,rfl,rfl,Nat.zero_le _,Kz b a _,rfl⟩
  case round=>
   obtain⟨k,z,rs,rfl,rfl,hk,hA,rfl⟩:=hrel
   obtain⟨z0,z1⟩:0≤z∧z≤1:=⟨hA.out.2.2.2.1,hA.out.2.2.2.2.1⟩
   have hlen:Hid (rs.length=b.length+1):=hA.out.1
   by_cases hka:k<b.length
   ·obtain⟨bb,rfl,hbb,hcb⟩:=qc gA
    have c1:=hcb k hka
    obtain⟨x0,x1⟩:=wb k
    have g1:=mF rs k (by rw[hlen.out];omega)
    by_cases hkb:k<a.length
    ·obtain⟨ba,rfl,hba,hca⟩:=qZ gA
     have c2:=hca k hkb
     obtain⟨y0,y1⟩:=wa k
     have hA':=Zd (xB b a (b.length+1) k z (z+aC b k+aC a k) rs wb wa gA hA.out rfl)
     clear hca hcb qZ qc jg
     go_wp2_with fail
     go_roundw
     case rel=>exact⟨k+1,_,_,rfl,by go_num,gA,hA'.out,by rw[kQ]⟩
     case measure=>simp[intOf];omega
    have hA':=Zd (xB b a (b.length+1) k z (z+aC b k) rs wb wa gA hA.out (by rw[dO a k gA];omega))
    clear qZ qc hcb jg
    go_wp2_with fail
    go_roundw
    case rel=>exact⟨k+1,_,_,rfl,by go_num,gA,hA'.out,by rw[kQ]⟩
    case measure=>simp[intOf];omega
   have hkk:k=b.length:=gA
   subst hkk
   have F:=Zd (YU b a z rs wb wa gA hA.out)
   have g1:=mF rs b.length (by rw[hlen.out];omega)
   have hz:z % 4294967296=z:=gA
   have tZ:=Zd (sN w (rs.set b.length z) (b.length+1) (by rw[List.length_set];exact hlen.out))
   have hln:Hid ((rs.set b.length z).length=b.length+1):=by unfold Hid;rw[List.length_set];exact hlen.out
   clear hA qZ qc jg
   go_wp2_with fail
   rw[kQ]
   refine(nO _ (rs.set b.length z) _ tZ.out F.out.1 (by rw[hln.out];omega)).mono ?_
   rintro e w1 ⟨v',l',rfl,s1,s2,s3,s4,s5,rfl⟩
   have G:=Zs (gT w (val a+val b) (b.length+1) (.returned v') _) (⟨v',l',rfl,s1,s2,s3,s4.trans (F.out.2.trans gA),by rw[hln.out]at s5;exact s5,ak _ _ _⟩)
   clear s1 s2 s3 s4 s5 tZ hln hlen F
   generalize gT w (val a+val b) (b.length+1)=T at *
   go_wp2_with fail
   exact G.out
 have hlt:¬(a.length:Int)<b.length:=gA
 rw[Nat.max_eq_left gA]
 have jg:=fun u=>qY ((a.length:Int)+1) gA gA u
 have hn:((a.length:Int)+1).toNat=a.length+1:=gA
 rw[hn]at jg
 clear hn
 go_enter func136,ntmps136
 go_wp2_with fail
 go_loopw [6,7] (fun c i wr=>∃(k:Nat) (z:Int) (rs:List Int),c=.int .u64 z∧i=.int .i64 k∧k≤a.length∧Hid (Ky a b (a.length+1) k z rs)∧wr=w.alloc (.cells (arr rs) 157)) (fun _ i _=>a.length-(intOf i).toNat)
 case atStart=>exact⟨0,0,_,rfl,rfl,Nat.zero_le _,Kz a b _,rfl⟩
 case round=>
  obtain⟨k,z,rs,rfl,rfl,hk,hA,rfl⟩:=hrel
  obtain⟨z0,z1⟩:0≤z∧z≤1:=⟨hA.out.2.2.2.1,hA.out.2.2.2.2.1⟩
  have hlen:Hid (rs.length=a.length+1):=hA.out.1
  by_cases hka:k<a.length
  ·obtain⟨ba,rfl,hba,hca⟩:=qZ gA
   have c1:=hca k hka
   obtain⟨x0,x1⟩:=wa k
   have g1:=mF rs k (by rw[hlen.out];omega)
   by_cases hkb:k<b.length
   ·obtain⟨bb,rfl,hbb,hcb⟩:=qc gA
    have c2:=hcb k hkb
    obtain⟨y0,y1⟩:=wb k
    have hA':=Zd (xB a b (a.length+1) k z (z+aC a k+aC b k) rs wa wb gA hA.out rfl)
    clear hca hcb qZ qc jg
    go_wp2_with fail
    go_roundw
    case rel=>exact⟨k+1,_,_,rfl,by go_num,gA,hA'.out,by rw[kQ]⟩
    case measure=>simp[intOf];omega
   have hA':=Zd (xB a b (a.length+1) k z (z+aC a k) rs wa wb gA hA.out (by rw[dO b k gA];omega))
   clear qZ qc hca jg
   go_wp2_with fail
   go_roundw
   case rel=>exact⟨k+1,_,_,rfl,by go_num,gA,hA'.out,by rw[kQ]⟩
   case measure=>simp[intOf];omega
  have hkk:k=a.length:=gA
  subst hkk
  have F:=Zd (YU a b z rs wa wb gA hA.out)
  have g1:=mF rs a.length (by rw[hlen.out];omega)
  have hz:z % 4294967296=z:=gA
  have tZ:=Zd (sN w (rs.set a.length z) (a.length+1) (by rw[List.length_set];exact hlen.out))
  have hln:Hid ((rs.set a.length z).length=a.length+1):=by unfold Hid;rw[List.length_set];exact hlen.out
  clear hA qZ qc jg
  go_wp2_with fail
  rw[kQ]
  refine(nO _ (rs.set a.length z) _ tZ.out F.out.1 (by rw[hln.out];omega)).mono ?_
  rintro e w1 ⟨v',l',rfl,s1,s2,s3,s4,s5,rfl⟩
  have G:=Zs (gT w (val a+val b) (a.length+1) (.returned v') _) (⟨v',l',rfl,s1,s2,s3,s4.trans (F.out.2.trans gA),by rw[hln.out]at s5;exact s5,ak _ _ _⟩)
  clear s1 s2 s3 s4 s5 tZ hln hlen F
  generalize gT w (val a+val b) (a.length+1)=T at *
  go_wp2_with fail
  exact G.out
def TabA (w:World)(g:Nat)(zs:List Int)(n:Nat):Prop:=∀i:Nat,i<n→w.cell? ⟨g,i,none⟩=some (.int .i64 (zs.getD i 0))
def TabS (w:World)(g:Nat)(a:Addr)(c:Nat)(zs:List Int)(n:Nat):Prop:=
 w.cell? ⟨g,0,none⟩=some (.slice (some a) n c)∧n≤c∧∀i:Nat,i<n→w.cell? (a.add i)=some (.int .i64 (zs.getD i 0))
theorem gF {w w':World}{g n:Nat}{zs:List Int}(h:TabA w g zs n)(k:w.grownBy w' none):TabA w' g zs n:=fun i hi=>bA k (h i hi)
theorem jG {w w':World}{g n c:Nat}{a:Addr}{zs:List Int}(h:TabS w g a c zs n)(k:w.grownBy w' none):TabS w' g a c zs n:=
 ⟨bA k h.1,h.2.1,fun i hi=>bA k (h.2.2 i hi)⟩
def uf (w:World):Prop:=∀i:Nat,i<8→w.cell? ⟨3,i,none⟩=some (.int .i64 (wid i:Int))
theorem kJ {w w':World}(h:uf w)(g:w.grownBy w' none):uf w':=fun i hi=>bA g (h i hi)
theorem okW (i:Nat):okB (wid i):=Ey i
theorem MO (x l m:Int)(h1:l≤x)(h2:x≤m)(w:World) :
 Calls prog 163 #[.int .i64 x,.int .i64 l,.int .i64 m] w fun e w'=>e=.returned (.bool true)∧w'=w:=by
 go_enter func163,ntmps163
 go_wp2
 go_ret
 exact⟨rfl,rfl⟩
theorem VE (x l m:Int)(h:x<l∨m<x)(w:World) :
 Calls prog 163 #[.int .i64 x,.int .i64 l,.int .i64 m] w fun e w'=>e=.returned (.bool false)∧w'=w:=by
 by_cases h1:l≤x
 ·have h2:¬x≤m:=gA
  clear h
  go_enter func163,ntmps163
  go_wp2
  go_ret
  exact⟨rfl,rfl⟩
 clear h
 go_enter func163,ntmps163
 go_wp2
 go_ret
 exact⟨rfl,rfl⟩
theorem xC (i:Nat)(h:i<8)(w:World) :
 Calls prog 162 #[.int .i64 i] w fun e w'=>e=.returned (.bool true)∧w'=w:=by
 go_enter func162,ntmps162
 go_wp2_with fail
 refine(MO _ _ _ gA gA _).mono ?_
 rintro e w1 ⟨rfl,rfl⟩
 go_wp2_with fail
 go_ret
 exact⟨rfl,rfl⟩
theorem Qu (i:Int)(h:i<0∨7<i)(w:World) :
 Calls prog 162 #[.int .i64 i] w fun e w'=>e=.returned (.bool false)∧w'=w:=by
 go_enter func162,ntmps162
 go_wp2_with fail
 refine(VE _ _ _ h _).mono ?_
 rintro e w1 ⟨rfl,rfl⟩
 go_wp2_with fail
 go_ret
 exact⟨rfl,rfl⟩
theorem ug (i:Nat)(h:i<8)(w:World)(hW:uf w) :
 Calls prog 164 #[.int .i64 i] w fun e w'=>e=.returned (.int .i64 (many (wid i):Int))∧w'=w:=by
 have hc:=hW i h
 clear hW
 rcases Ey i with e|e|e|e<;>rw[e]at hc ⊢<;>clear e
 all_goals
  go_enter func164,ntmps164
  go_wp2_with fail
  go_ret
  exact⟨rfl,rfl⟩
theorem xD (x y:Int)(h1:-100000≤x)(h2:x≤100000)(h3:-100000≤y)(h4:y≤100000)(w:World) :
 Calls prog 165 #[.int .i64 x,.int .i64 y] w fun e w'=>e=.returned (.int .i64 (far x y))∧w'=w:=by
 by_cases h:x<y
 ·rw[show far x y=y-x from if_pos h]
  go_enter func165,ntmps165
  go_wp2_with fail
  go_ret
  exact⟨rfl,rfl⟩
 rw[show far x y=x-y from if_neg h]
 go_enter func165,ntmps165
 go_wp2_with fail
 go_ret
 exact⟨rfl,rfl⟩
theorem afb (b:Nat):(2:Int)^(2*b)=(many b:Int)*(many b:Int):=by
 unfold many
 rw[Nat.two_mul,Int.pow_add]
 simp
theorem Qv (i:Nat)(h:i<8)(n:Int)(h1:(many (wid i):Int)≤2*n)(h2:n<many (wid i))(w:World)(hW:uf w) :
 Calls prog 166 #[.int .i64 i,.int .i64 n] w fun e w'=>e=.returned (.int .i64 (U3 (many (wid i)) n))∧w'=w:=by
 have C:=Zd (ug i h w hW)
 have hc:=hW i h
 have hb:=Zd (Ez (wid i) n (okW i) h1 h2)
 obtain⟨q,hq⟩:=qD (wid i) (okW i)
 obtain⟨m1,m2⟩:=nM (wid i) (okW i)
 have hs:=U5 (many (wid i)) (2*((many (wid i):Int)-n)-1) gA gA gA gA
 have hU:=Zs (U3 (many (wid i)) n=31000-31000*(2*((many (wid i):Int)-n)-1)*(2*((many (wid i):Int)-n)-1) / (many (wid i)*many (wid i))) (rfl)
 have hp:=afb (wid i)
 have hb':wid i≤6:=by rcases okW i with e|e|e|e<;>omega
 clear hW
 generalize U3 (many (wid i)) n=U at *
 generalize hM:many (wid i)=M at *
 generalize hB:wid i=b at *
 clear hM hq
 have hlt:¬n<(M:Int) / 2:=gA
 obtain⟨s1,s2,s3,s4,s5,s6⟩:=hs
 go_enter func166,ntmps166
 go_wp2_with fail
 refine C.out.mono ?_
 rintro e w1 ⟨rfl,rfl⟩
 clear C
 go_wp2_with fail
 go_ret
 exact⟨by rw[hU.out];rfl,rfl⟩
theorem KA (i:Nat)(h:i<8)(n:Int)(h1:0≤n)(h2:n<many (wid i))(w:World)(hW:uf w) :
 Calls prog 166 #[.int .i64 i,.int .i64 n] w fun e w'=>e=.returned (.int .i64 (lvl (wid i) n))∧w'=w:=by
 by_cases hn:2*n<many (wid i)
 ·rw[Yx _ _ hn]
  obtain⟨q,hq⟩:=qD (wid i) (okW i)
  obtain⟨m1,m2⟩:=nM (wid i) (okW i)
  have C:=Zd (ug i h w hW)
  have L:=Zd (Qv i h ((many (wid i):Int)-1-n) gA gA w hW)
  obtain⟨u1,u2⟩:=Ez (wid i) ((many (wid i):Int)-1-n) (okW i) gA gA
  clear hW
  have hlt:n<(many (wid i):Int) / 2:=gA
  clear hq
  generalize U3 (many (wid i)) ((many (wid i):Int)-1-n)=U at *
  generalize many (wid i)=M at *
  go_enter func166,ntmps166
  go_wp2_with fail
  refine C.out.mono ?_
  rintro e w1 ⟨rfl,rfl⟩
  clear C
  go_wp2_with fail
  refine L.out.mono ?_
  rintro e w1 ⟨rfl,rfl⟩
  clear L
  go_wp2_with fail
  go_ret
  exact⟨rfl,rfl⟩
 rw[Qc _ _ hn]
 exact Qv i h n gA h2 w hW
theorem VF (i n:Int)(h:i<0∨7<i)(w:World) :
 Calls prog 104 #[.int .i64 i,.int .i64 n] w fun e w'=>e=.returned (.tuple #[.int .i64 0,.int .i64 4])∧w'=w:=by
 go_enter func104,ntmps104
 go_wp2_with fail
 refine(Qu i h _).mono ?_
 rintro e w1 ⟨rfl,rfl⟩
 go_wp2_with fail
 go_ret2
 exact⟨rfl,rfl⟩
theorem Qw (i:Nat)(h:i<8)(n:Int)(hn:n<0∨(many (wid i):Int)-1<n)(w:World)(hW:uf w) :
 Calls prog 104 #[.int .i64 i,.int .i64 n] w fun e w'=>e=.returned (.tuple #[.int .i64 0,.int .i64 2])∧w'=w:=by
 have C:=Zd (ug i h w hW)
 obtain⟨m1,m2⟩:=nM (wid i) (okW i)
 clear hW
 generalize many (wid i)=M at *
 go_enter func104,ntmps104
 go_wp2_with fail
 refine(xC i h _).mono ?_
 rintro e w1 ⟨rfl,rfl⟩
 go_wp2_with fail
 refine C.out.mono ?_
 rintro e w1 ⟨rfl,rfl⟩
 clear C
 go_wp2_with fail
 refine(VE _ _ _ hn _).mono ?_
 rintro e w1 ⟨rfl,rfl⟩
 go_wp2_with fail
 go_ret2
 exact⟨rfl,rfl⟩
theorem aav (i:Nat)(h:i<8)(n:Int)(h1:0≤n)(h2:n<many (wid i))(w:World)(hW:uf w) :
 Calls prog 104 #[.int .i64 i,.int .i64 n] w fun e w'=>e=.returned (.tuple #[.int .i64 (lvl (wid i) n),.int .i64 0])∧w'=w:=by
 have C:=Zd (ug i h w hW)
 have L:=Zd (KA i h n h1 h2 w hW)
 obtain⟨m1,m2⟩:=nM (wid i) (okW i)
 clear hW
 generalize lvl (wid i) n=U at *
 generalize many (wid i)=M at *
 go_enter func104,ntmps104
 go_wp2_with fail
 refine(xC i h _).mono ?_
 rintro e w1 ⟨rfl,rfl⟩
 go_wp2_with fail
 refine C.out.mono ?_
 rintro e w1 ⟨rfl,rfl⟩
 clear C
 go_wp2_with fail
 refine(MO _ _ _ h1 gA _).mono ?_
 rintro e w1 ⟨rfl,rfl⟩
 go_wp2_with fail
 refine L.out.mono ?_
 rintro e w1 ⟨rfl,rfl⟩
 go_wp2_with fail
 go_ret2
 exact⟨rfl,rfl⟩
theorem acP (i k:Int)(h:i<0∨7<i)(w:World) :
 Calls prog 103 #[.int .i64 i,.int .i64 k] w fun e w'=>e=.returned (.tuple #[.int .i64 0,.int .i64 4])∧w'=w:=by
 go_enter func103,ntmps103
 go_wp2_with fail
 refine(Qu i h _).mono ?_
 rintro e w1 ⟨rfl,rfl⟩
 go_wp2_with fail
 go_ret2
 exact⟨rfl,rfl⟩
theorem aaw (i:Nat)(h:i<8)(k:Int)(hk:k < -32768∨32768<k)(w:World) :
 Calls prog 103 #[.int .i64 i,.int .i64 k] w fun e w'=>e=.returned (.tuple #[.int .i64 0,.int .i64 2])∧w'=w:=by
 go_enter func103,ntmps103
 go_wp2_with fail
 refine(xC i h _).mono ?_
 rintro e w1 ⟨rfl,rfl⟩
 go_wp2_with fail
 refine(VE _ _ _ hk _).mono ?_
 rintro e w1 ⟨rfl,rfl⟩
 go_wp2_with fail
 go_ret2
 exact⟨rfl,rfl⟩
theorem afc (i:Nat)(h:i<8)(k:Int)(h1:-32768≤k)(h2:k≤32768)(w:World)(hW:uf w) :
 Calls prog 103 #[.int .i64 i,.int .i64 k] w fun e w'=>e=.returned (.tuple #[.int .i64 (one (wid i) k:Int),.int .i64 0])∧w'=w:=by
 have C:=Zd (ug i h w hW)
 obtain⟨m1,m2⟩:=nM (wid i) (okW i)
 have LV:=Zd (fun(n:Nat) (hn:n<many (wid i))=>KA i h n gA gA w hW)
 have BD:=Zd (fun(n:Nat) (hn:n<many (wid i))=>Ma (wid i) n (okW i) gA gA)
 have hone:=Zs (one (wid i) k=nu (wid i) k (many (wid i))) (rfl)
 clear hW
 generalize one (wid i) k=R at *
 generalize wid i=b at *
 generalize many b=M at *
 go_enter func103,ntmps103
 go_wp2_with fail
 refine(xC i h _).mono ?_
 rintro e w1 ⟨rfl,rfl⟩
 go_wp2_with fail
 refine(MO _ _ _ h1 h2 _).mono ?_
 rintro e w1 ⟨rfl,rfl⟩
 go_wp2_with fail
 refine C.out.mono ?_
 rintro e w1 ⟨rfl,rfl⟩
 clear C
 go_wp2_with fail
 go_loop [6,16] (fun x j=>∃n:Nat,j=.int .i64 n∧x=.int .i64 (nu b k n:Int)∧n≤M) (fun _ j=>M-(intOf j).toNat)
 case atStart=>exact⟨0,rfl,rfl,gA⟩
 case round=>
  obtain⟨n,rfl,rfl,hn⟩:=hrel
  by_cases hn':n=M
  ·subst hn'
   rw[←hone.out]
   go_wp2_with fail
   go_ret2
   exact⟨rfl,rfl⟩
  have hbl:=Mc b k n M hn gA
  have L1:=Zd (LV.out n gA)
  have L2:=Zd (LV.out (nu b k n) hbl)
  obtain⟨a1,a2⟩:=BD.out n gA
  obtain⟨c1,c2⟩:=BD.out (nu b k n) hbl
  by_cases hg:gap b k n<gap b k (nu b k n)
  ·have e:=Zd (ace b k n hg)
   have hg':far (lvl b n) k<far (lvl b (nu b k n)) k:=hg
   clear hg
   generalize nu b k n=B at *
   generalize lvl b n=X at *
   generalize lvl b B=Y at *
   have F1:=Zd (xD X k gA gA gA gA w1)
   have F2:=Zd (xD Y k gA gA gA gA w1)
   generalize far X k=U at *
   generalize far Y k=V at *
   go_wp2_with fail
   refine L1.out.mono ?_
   rintro e w2 ⟨rfl,rfl⟩
   go_wp2_with fail
   refine F1.out.mono ?_
   rintro e w2 ⟨rfl,rfl⟩
   go_wp2_with fail
   refine L2.out.mono ?_
   rintro e w2 ⟨rfl,rfl⟩
   go_wp2_with fail
   refine F2.out.mono ?_
   rintro e w2 ⟨rfl,rfl⟩
   go_wp2_with fail
   go_round
   case rel=>exact⟨n+1,by go_num,by rw[e.out],gA⟩
   case measure=>simp[intOf];omega
  have e:=Zd (aeW b k n hg)
  have hg':¬far (lvl b n) k<far (lvl b (nu b k n)) k:=hg
  clear hg
  generalize nu b k n=B at *
  generalize lvl b n=X at *
  generalize lvl b B=Y at *
  have F1:=Zd (xD X k gA gA gA gA w1)
  have F2:=Zd (xD Y k gA gA gA gA w1)
  generalize far X k=U at *
  generalize far Y k=V at *
  go_wp2_with fail
  refine L1.out.mono ?_
  rintro e w2 ⟨rfl,rfl⟩
  go_wp2_with fail
  refine F1.out.mono ?_
  rintro e w2 ⟨rfl,rfl⟩
  go_wp2_with fail
  refine L2.out.mono ?_
  rintro e w2 ⟨rfl,rfl⟩
  go_wp2_with fail
  refine F2.out.mono ?_
  rintro e w2 ⟨rfl,rfl⟩
  go_wp2_with fail
  go_round
  case rel=>exact⟨n+1,by go_num,by rw[e.out],gA⟩
  case measure=>simp[intOf];omega
theorem VG (bx iP:Nat)(x y:Int)(w:World)(hx:jJ w bx x)(hy:jJ w iP y) :
 Calls prog 145 #[.pointer (some ⟨bx,0,none⟩),.pointer (some ⟨iP,0,none⟩)] w (uR w (.int .i64 (fJ (x.natAbs:Int) (y.natAbs:Int)))):=by
 obtain⟨vx,lx,hx0,xs,xw,xt,xv,xl⟩:=hx
 obtain⟨vy,ly,hy0,ys,yw,yt,yv,yl⟩:=hy
 have x1:w.cell? ⟨bx,1,none⟩=some vx:=by rw[aI hx0];rfl
 have y1:w.cell? ⟨iP,1,none⟩=some vy:=by rw[aI hy0];rfl
 have Uy:=Zs (∀n,Calls prog 197 #[vx,vy] (w.drewN n) (fun e w'=>e=.returned (.int .i64 (fJ (val lx) (val ly)))∧∃m,w'=w.drewN m)) (fun n=>(t_ vx vy lx ly (w.drewN n) (jF xs (dR w n none)) (jF ys (dR w n none)) xw yw xt yt gA gA).mono fun e w' h=>⟨h.1,by obtain⟨m,hm⟩:=h.2;exact⟨n+m,by rw[hm,World.drewN_drewN]⟩⟩)
 rw[←xv,←yv]
 clear hx0 hy0 xs ys xw yw xt yt xv yv xl yl
 have F:=Zs (∀m,uR w (.int .i64 (fJ (val lx) (val ly))) (.returned (.int .i64 (fJ (val lx) (val ly)))) (w.drewN m)) (fun m=>⟨rfl,m,rfl⟩)
 generalize uR w (.int .i64 (fJ (val lx) (val ly)))=T at *
 generalize fJ (val lx) (val ly)=c at *
 go_enter func145,ntmps145
 go_wp2_with fail
 go_region_held3 (fun w'=>w'.cell? ⟨bx,1,none⟩=some vx∧w'.cell? ⟨iP,1,none⟩=some vy) (simp[*])
  (first|(go_at_call 197;refine(Uy.out _).mono ?_;rintro e w1 ⟨rfl,m,rfl⟩))
 go_wp2_with fail
 exact F.out _
def oZ (w:World)(a:Addr)(c:Nat):Prop:=TabS w 1 a c wids 8
theorem jm {w w':World}{a:Addr}{c:Nat}(h:oZ w a c)(g:w.grownBy w' none):oZ w' a c:=jG h g
theorem nP (i:Nat)(h:i<8)(a:Addr)(c:Nat)(w:World)(hW:oZ w a c) :
 Calls prog 144 #[.int .i64 i] w fun e w'=>e=.returned (.int .i64 (wid i:Int))∧w'=w:=by
 obtain⟨h1,h2,h3⟩:=hW
 have h4:=h3 i h
 rw[aeV i h]at h4
 clear h3
 generalize wid i=b at *
 go_enter func144,ntmps144
 go_wp2_with fail
 go_ret
 exact⟨rfl,rfl⟩
theorem Cn (i:Int)(h:i<0∨7<i)(w:World) :
 Calls prog 144 #[.int .i64 i] w fun e w'=>e=.returned (.int .i64 0)∧w'=w:=by
 by_cases h1:i<0
 ·clear h
  go_enter func144,ntmps144
  go_wp2_with fail
  go_ret
  exact⟨rfl,rfl⟩
 have h2:7<i:=gA
 clear h
 go_enter func144,ntmps144
 go_wp2_with fail
 go_ret
 exact⟨rfl,rfl⟩
theorem Jg (i n:Int)(h:i<0∨7<i)(w:World) :
 Calls prog 63 #[.int .i64 i,.int .i64 n] w fun e w'=>e=.returned (.tuple #[.int .i64 0,.int .i64 4])∧w'=w:=by
 go_enter func63,ntmps63
 go_wp2_with fail
 refine(Cn i h _).mono ?_
 rintro e w1 ⟨rfl,rfl⟩
 go_wp2_with fail
 go_ret2
 exact⟨rfl,rfl⟩
theorem xE (b:Nat):(2:Int)^b=(many b:Int):=by unfold many;simp
theorem zO (b:Nat)(h:okB b):3≤b∧b≤6:=by rcases h with e|e|e|e<;>omega
theorem FE (i:Nat)(h:i<8)(n:Int)(hn:n<0∨(many (wid i):Int)-1<n)(a:Addr)(c:Nat)(w:World)(hW:oZ w a c) :
 Calls prog 63 #[.int .i64 i,.int .i64 n] w fun e w'=>e=.returned (.tuple #[.int .i64 0,.int .i64 2])∧w'=w:=by
 have WI:=Zd (nP i h a c w hW)
 obtain⟨b1,b2⟩:=zO _ (okW i)
 obtain⟨m1,m2⟩:=nM (wid i) (okW i)
 have hp:=xE (wid i)
 clear hW
 generalize many (wid i)=M at *
 generalize wid i=b at *
 by_cases hn1:n<0
 ·clear hn
  go_enter func63,ntmps63
  go_wp2_with fail
  refine WI.out.mono ?_
  rintro e w1 ⟨rfl,rfl⟩
  go_wp2_with fail
  refine WI.out.mono ?_
  rintro e w1 ⟨rfl,rfl⟩
  go_wp2_with fail
  go_ret2
  exact⟨rfl,rfl⟩
 have hn2:(M:Int)≤n:=gA
 clear hn
 go_enter func63,ntmps63
 go_wp2_with fail
 refine WI.out.mono ?_
 rintro e w1 ⟨rfl,rfl⟩
 go_wp2_with fail
 refine WI.out.mono ?_
 rintro e w1 ⟨rfl,rfl⟩
 go_wp2_with fail
 go_ret2
 exact⟨rfl,rfl⟩
theorem Co (i:Nat)(h:i<8)(n:Int)(h1:(many (wid i):Int)≤2*n)(h2:n<many (wid i))(a:Addr)(c:Nat)(w:World)(hW:oZ w a c) :
 Calls prog 63 #[.int .i64 i,.int .i64 n] w fun e w'=>e=.returned (.tuple #[.int .i64 (U3 (many (wid i)) n),.int .i64 0])∧w'=w:=by
 have WI:=Zd (nP i h a c w hW)
 obtain⟨b1,b2⟩:=zO _ (okW i)
 obtain⟨q,hq⟩:=qD (wid i) (okW i)
 obtain⟨m1,m2⟩:=nM (wid i) (okW i)
 have hs:=U5 (many (wid i)) (2*((many (wid i):Int)-n)-1) gA gA gA gA
 have hU:=Zs (U3 (many (wid i)) n=31000-31000*(2*((many (wid i):Int)-n)-1)*(2*((many (wid i):Int)-n)-1) / (many (wid i)*many (wid i))) (rfl)
 have hp:=xE (wid i)
 clear hW hq
 generalize U3 (many (wid i)) n=U at *
 generalize many (wid i)=M at *
 generalize wid i=b at *
 obtain⟨s1,s2,s3,s4,s5,s6⟩:=hs
 have hd:(31000*(2*((M:Int)-n)-1)*(2*((M:Int)-n)-1)).tdiv ((M:Int)*M)=31000*(2*((M:Int)-n)-1)*(2*((M:Int)-n)-1) / ((M:Int)*M):=Int.tdiv_eq_ediv_of_nonneg s3
 go_enter func63,ntmps63
 go_wp2_with fail
 refine WI.out.mono ?_
 rintro e w1 ⟨rfl,rfl⟩
 go_wp2_with fail
 refine WI.out.mono ?_
 rintro e w1 ⟨rfl,rfl⟩
 go_wp2_with fail
 go_ret2
 exact⟨by rw[hU.out];rfl,rfl⟩
theorem zP (i:Nat)(h:i<8)(n:Int)(h1:0≤n)(h2:n<many (wid i))(a:Addr)(c:Nat)(w:World)(hW:oZ w a c) :
 Calls prog 63 #[.int .i64 i,.int .i64 n] w fun e w'=>e=.returned (.tuple #[.int .i64 (lvl (wid i) n),.int .i64 0])∧w'=w:=by
 by_cases hn:2*n<many (wid i)
 ·rw[Yx _ _ hn]
  obtain⟨q,hq⟩:=qD (wid i) (okW i)
  obtain⟨m1,m2⟩:=nM (wid i) (okW i)
  obtain⟨b1,b2⟩:=zO _ (okW i)
  have WI:=Zd (nP i h a c w hW)
  have L:=Zd (Co i h ((many (wid i):Int)-1-n) gA gA a c w hW)
  obtain⟨u1,u2⟩:=Ez (wid i) ((many (wid i):Int)-1-n) (okW i) gA gA
  have hp:=xE (wid i)
  clear hW hq
  generalize U3 (many (wid i)) ((many (wid i):Int)-1-n)=U at *
  generalize many (wid i)=M at *
  generalize wid i=b at *
  go_enter func63,ntmps63
  go_wp2_with fail
  refine WI.out.mono ?_
  rintro e w1 ⟨rfl,rfl⟩
  go_wp2_with fail
  refine WI.out.mono ?_
  rintro e w1 ⟨rfl,rfl⟩
  go_wp2_with fail
  refine L.out.mono ?_
  rintro e w1 ⟨rfl,rfl⟩
  clear L
  go_wp2_with fail
  go_ret2
  exact⟨rfl,rfl⟩
 rw[Qc _ _ hn]
 exact Co i h n gA h2 a c w hW
theorem Qx (i k:Int)(h:i<0∨7<i)(w:World) :
 Calls prog 62 #[.int .i64 i,.int .i64 k] w fun e w'=>e=.returned (.tuple #[.int .i64 0,.int .i64 4])∧w'=w:=by
 go_enter func62,ntmps62
 go_wp2_with fail
 refine(Cn i h _).mono ?_
 rintro e w1 ⟨rfl,rfl⟩
 go_wp2_with fail
 go_ret2
 exact⟨rfl,rfl⟩
theorem MQ (i:Nat)(h:i<8)(k:Int)(hk:k < -32768∨32768<k)(a:Addr)(c:Nat)(w:World)(hW:oZ w a c) :
 Calls prog 62 #[.int .i64 i,.int .i64 k] w fun e w'=>e=.returned (.tuple #[.int .i64 0,.int .i64 2])∧w'=w:=by
 have WI:=Zd (nP i h a c w hW)
 obtain⟨b1,b2⟩:=zO _ (okW i)
 clear hW
 generalize wid i=b at *
 by_cases hk1:k < -32768
 ·clear hk
  go_enter func62,ntmps62
  go_wp2_with fail
  refine WI.out.mono ?_
  rintro e w1 ⟨rfl,rfl⟩
  go_wp2_with fail
  go_ret2
  exact⟨rfl,rfl⟩
 have hk2:32768<k:=gA
 clear hk
 go_enter func62,ntmps62
 go_wp2_with fail
 refine WI.out.mono ?_
 rintro e w1 ⟨rfl,rfl⟩
 go_wp2_with fail
 go_ret2
 exact⟨rfl,rfl⟩
theorem afd (x y k:Int):(fJ ((x-k).natAbs:Int) ((y-k).natAbs:Int)<0)↔far x k<far y k:=by
 unfold fJ far
 repeat' split
 all_goals omega
theorem afe (x y:Int):-1≤fJ x y∧fJ x y≤1:=by unfold fJ;repeat' split;all_goals omega
theorem VH (i:Nat)(h:i<8)(k:Int)(h1:-32768≤k)(h2:k≤32768)(a:Addr)(c:Nat)(w:World)(hW:oZ w a c) :
 Calls prog 62 #[.int .i64 i,.int .i64 k] w fun e w'=>e=.returned (.tuple #[.int .i64 (one (wid i) k:Int),.int .i64 0])∧w.grownBy w' none:=by
 have WI:=Zd (fun wr (g:w.grownBy wr none)=>nP i h a c wr (jm hW g))
 obtain⟨b1,b2⟩:=zO _ (okW i)
 obtain⟨m1,m2⟩:=nM (wid i) (okW i)
 have LV:=Zd (fun(n:Nat) (hn:n<many (wid i)) wr (g:w.grownBy wr none)=>zP i h n gA gA a c wr (jm hW g))
 have BD:=Zd (fun(n:Nat) (hn:n<many (wid i))=>Ma (wid i) n (okW i) gA gA)
 have hone:=Zs (one (wid i) k=nu (wid i) k (many (wid i))) (rfl)
 have hp:=xE (wid i)
 clear hW
 generalize one (wid i) k=R at *
 generalize many (wid i)=M at *
 generalize wid i=b at *
 go_enter func62,ntmps62
 go_wp2_with fail
 refine(WI.out _ (aQ _ _)).mono ?_
 rintro e w1 ⟨rfl,rfl⟩
 go_wp2_with fail
 go_loopw [6,7] (fun x j wr=>∃n:Nat,j=.int .i64 n∧x=.int .i64 (nu b k n:Int)∧1≤n∧n≤M∧Hid (w1.grownBy wr none)) (fun _ j _=>M-(intOf j).toNat)
 case atStart=>exact⟨1,rfl,by rw[Qd];rfl,gA,gA,aQ _ _⟩
 case round=>
  obtain⟨n,rfl,rfl,hn1,hn,hg⟩:=hrel
  by_cases hn':n=M
  ·subst hn'
   rw[←hone.out]
   go_wp2_with fail
   refine(WI.out _ hg.out).mono ?_
   rintro e w2 ⟨rfl,rfl⟩
   go_wp2_with fail
   go_ret2
   exact⟨rfl,hg.out⟩
  have hbl:=Mc b k n M hn gA
  obtain⟨a1,a2⟩:=BD.out n gA
  obtain⟨c1,c2⟩:=BD.out (nu b k n) hbl
  have L1:=Zd (LV.out n gA wr hg.out)
  have L2:=Zd (LV.out (nu b k n) hbl wr hg.out)
  have W1:=Zd (WI.out wr hg.out)
  have hbn:nu b k (n+1)=if fJ ((lvl b n-k).natAbs:Int) ((lvl b (nu b k n)-k).natAbs:Int)<0 then n else nu b k n:=by
   simp only[afd]
   rfl
  clear WI
  have HB:=Zd hbn
  clear hbn
  generalize nu b k n=B at *
  generalize lvl b n=X at *
  generalize lvl b B=Y at *
  go_wp2_with fail
  refine W1.out.mono ?_
  rintro e w2 ⟨rfl,rfl⟩
  go_wp2_with fail
  refine L2.out.mono ?_
  rintro e w2 ⟨rfl,rfl⟩
  go_wp2_with fail
  refine L1.out.mono ?_
  rintro e w2 ⟨rfl,rfl⟩
  go_wp2_with fail
  refine(eD _ _ gA gA).mono ?_
  rintro e w3 ⟨bx,rfl,hbx,ix,gx⟩
  have G3:=Zs (jJ w3 bx (X-k)∧w2.grownBy w3 none) (⟨ix,gx⟩)
  clear ix gx
  go_wp2_with fail
  refine(eD _ _ gA gA).mono ?_
  rintro e w4 ⟨iP,rfl,hby,iy,gy⟩
  have CA:=Zd (VG bx iP _ _ w4 (bJ G3.out.1 gy) iy)
  have G4:=Zd (dB hg.out (dB G3.out.2 gy none (fun i e _=>by cases e) (fun i e _=>by cases e)) none (fun i e _=>by cases e) (fun i e _=>by cases e))
  clear iy gy
  go_wp2_with fail
  refine CA.out.mono ?_
  rintro e w5 ⟨rfl,m,rfl⟩
  have G5:=Zd (dB G4.out (dR w4 m none) none (fun i e _=>by cases e) (fun i e _=>by cases e))
  clear CA
  obtain⟨d1,d2⟩:=afe ((X-k).natAbs:Int) ((Y-k).natAbs:Int)
  generalize fJ ((X-k).natAbs:Int) ((Y-k).natAbs:Int)=C at *
  by_cases hC:C<0
  ·have e:=HB.out
   rw[if_pos hC]at e
   have E:=Zd e
   clear e
   go_wp2_with fail
   go_roundw
   case rel=>exact⟨n+1,by go_num,by rw[E.out],gA,gA,G5.out⟩
   case measure=>simp[intOf];omega
  have e:=HB.out
  rw[if_neg hC]at e
  have E:=Zd e
  clear e
  go_wp2_with fail
  go_roundw
  case rel=>exact⟨n+1,by go_num,by rw[E.out],gA,gA,G5.out⟩
  case measure=>simp[intOf];omega
def mU (i n:Int):Int:=if i<0∨7<i then 0 else if n<0∨(many (wid i.toNat):Int)-1<n then 0 else lvl (wid i.toNat) n
def iU (i n:Int):Int:=if i<0∨7<i then 4 else if n<0∨(many (wid i.toNat):Int)-1<n then 2 else 0
theorem MR (i:Int)(h:¬(i<0∨7<i)):∃I:Nat,i=(I:Int)∧I<8∧i.toNat=I:=⟨i.toNat,gA,gA,rfl⟩
theorem aax (i n:Int)(w:World)(hW:uf w) :
 Calls prog 104 #[.int .i64 i,.int .i64 n] w fun e w'=>e=.returned (.tuple #[.int .i64 (mU i n),.int .i64 (iU i n)])∧w'=w:=by
 by_cases h:i<0∨7<i
 ·rw[show mU i n=0 from if_pos h,show iU i n=4 from if_pos h]
  exact VF i n h w
 obtain⟨I,e,h8,hI⟩:=MR i h
 by_cases hn:n<0∨(many (wid I):Int)-1<n
 ·rw[show mU i n=0 by unfold mU;rw[if_neg h,hI,if_pos hn],show iU i n=2 by unfold iU;rw[if_neg h,hI,if_pos hn],e]
  exact Qw I h8 n hn w hW
 rw[show mU i n=lvl (wid I) n by unfold mU;rw[if_neg h,hI,if_neg hn],show iU i n=0 by unfold iU;rw[if_neg h,hI,if_neg hn],e]
 exact aav I h8 n gA gA w hW
theorem MW (i n:Int)(a:Addr)(c:Nat)(w:World)(hW:oZ w a c) :
 Calls prog 63 #[.int .i64 i,.int .i64 n] w fun e w'=>e=.returned (.tuple #[.int .i64 (mU i n),.int .i64 (iU i n)])∧w'=w:=by
 by_cases h:i<0∨7<i
 ·rw[show mU i n=0 from if_pos h,show iU i n=4 from if_pos h]
  exact Jg i n h w
 obtain⟨I,e,h8,hI⟩:=MR i h
 by_cases hn:n<0∨(many (wid I):Int)-1<n
 ·rw[show mU i n=0 by unfold mU;rw[if_neg h,hI,if_pos hn],show iU i n=2 by unfold iU;rw[if_neg h,hI,if_pos hn],e]
  exact FE I h8 n hn a c w hW
 rw[show mU i n=lvl (wid I) n by unfold mU;rw[if_neg h,hI,if_neg hn],show iU i n=0 by unfold iU;rw[if_neg h,hI,if_neg hn],e]
 exact zP I h8 n gA gA a c w hW
def nA (i k:Int):Int:=if i<0∨7<i then 0 else if k < -32768∨32768<k then 0 else(one (wid i.toNat) k:Int)
def jd (i k:Int):Int:=if i<0∨7<i then 4 else if k < -32768∨32768<k then 2 else 0
theorem aff (i k:Int)(w:World)(hW:uf w) :
 Calls prog 103 #[.int .i64 i,.int .i64 k] w fun e w'=>e=.returned (.tuple #[.int .i64 (nA i k),.int .i64 (jd i k)])∧w'=w:=by
 by_cases h:i<0∨7<i
 ·rw[show nA i k=0 from if_pos h,show jd i k=4 from if_pos h]
  exact acP i k h w
 obtain⟨I,e,h8,hI⟩:=MR i h
 by_cases hn:k < -32768∨32768<k
 ·rw[show nA i k=0 by unfold nA;rw[if_neg h,if_pos hn],show jd i k=2 by unfold jd;rw[if_neg h,if_pos hn],e]
  exact aaw I h8 k hn w
 rw[show nA i k=one (wid I) k by unfold nA;rw[if_neg h,hI,if_neg hn],show jd i k=0 by unfold jd;rw[if_neg h,if_neg hn],e]
 exact afc I h8 k gA gA w hW
theorem VI (i k:Int)(a:Addr)(c:Nat)(w:World)(hW:oZ w a c) :
 Calls prog 62 #[.int .i64 i,.int .i64 k] w fun e w'=>e=.returned (.tuple #[.int .i64 (nA i k),.int .i64 (jd i k)])∧w.grownBy w' none:=by
 by_cases h:i<0∨7<i
 ·rw[show nA i k=0 from if_pos h,show jd i k=4 from if_pos h]
  exact(Qx i k h w).mono fun e w' ⟨h1,h2⟩=>⟨h1,by subst h2;exact aQ _ _⟩
 obtain⟨I,e,h8,hI⟩:=MR i h
 by_cases hn:k < -32768∨32768<k
 ·rw[show nA i k=0 by unfold nA;rw[if_neg h,if_pos hn],show jd i k=2 by unfold jd;rw[if_neg h,if_pos hn],e]
  exact(MQ I h8 k hn a c w hW).mono fun e w' ⟨h1,h2⟩=>⟨h1,by subst h2;exact aQ _ _⟩
 rw[show nA i k=one (wid I) k by unfold nA;rw[if_neg h,hI,if_neg hn],show jd i k=0 by unfold jd;rw[if_neg h,if_neg hn],e]
 exact VH I h8 k gA gA a c w hW
def fK (X:Nat→Int):Nat→Int
 | 0=>0
 | m+1=>if fK X m=0 then X m else fK X m
theorem qH (X:Nat→Int)(m:Nat)(h:fK X m=0):fK X (m+1)=X m:=if_pos h
theorem o_ (X:Nat→Int)(m:Nat)(h:fK X m=0)(hx:X m≠0):∀d,fK X (m+1+d)=X m
 | 0=>qH X m h
 | d+1=>by
  have:=o_ X m h hx d
  show(if fK X (m+1+d)=0 then X (m+1+d)else fK X (m+1+d))=X m
  rw[this,if_neg hx]
def jA (V X:Nat→Int):List Int:=if fK X 8=0 then(List.range 8).map V else ay 8
theorem KC (V X:Nat→Int):(jA V X).length=8:=by unfold jA;split<;>simp[ay]
theorem acQ (l:List Int)(hl:l.length=8)(w:World)(hW:uf w) :
 Calls prog 102 #[.agg (aD l),.func (.func 103) #[] #[]] w (rG w (jA (fun i=>nA i (aC l i)) (fun i=>jd i (aC l i))) (fK (fun i=>jd i (aC l i)) 8)):=by
 have L0:=Zd (nI w 26 26 l (ay 8))
 rw[rF]at L0
 have ON:=Zd (fun(m:Nat) wr (g:w.grownBy wr none)=>aff m (aC l m) wr (kJ hW g))
 have IX:=Zd (fun j hj=>fQ l underlying26 j hj hl)
 have hbd:=nH
 clear hW
 go_enter func102,ntmps102
 go_wp2_with (refine lA L0.out.1 (by rw[hl];exact aW) ?_)
 have M0:=Zs (iD w _ 26 26 l (ay 8)) (L0.out)
 generalize (w.alloc (.cells (aD l) 26)).alloc _=W0 at *
 go_loopw [11] (fun i wr=>∃(m:Nat) (rs:List Int),i=.int .i64 m∧m≤8∧Hid (fK (fun i=>jd i (aC l i)) m=0)∧Hid (jh 8 (fun i=>nA i (aC l i)) m rs)∧Hid (iD w wr 26 26 rs (ay 8))) (fun i _=>8-(intOf i).toNat)
 case atStart=>exact⟨0,l,rfl,Nat.zero_le _,rfl,⟨hl,fun j hj=>gA⟩,M0.out⟩
 case round=>
  obtain⟨m,rs,rfl,hm,h0,hF,hM⟩:=hrel
  clear M0
  by_cases vD:m<8
  ·have ix:=IX.out m gA
   have O1:=Zd (ON.out m wr hM.out.2.2)
   have hlen:rs.length=8:=hF.out.1
   have NF:=Zd (eP hF.out vD)
   have cd:=hM.out.1.cell m gA
   have fd:=hM.out.1.free m
   have NM:=Zd (hM.out.set m (nA m (aC l m)))
   have BB:=Zd hM.out.2.1
   have GM:=Zd hM.out.2.2
   have ST:=Zd (fun(hx:jd m (aC l m)≠0)=>show fK (fun i=>jd i (aC l i)) 8=jd m (aC l m) by
    have:=o_ (fun i=>jd i (aC l i)) m h0.out hx (8-(m+1))
    rw[show m+1+(8-(m+1))=8 by omega]at this
    exact this)
   have GO:=Zs (fK (fun i=>jd i (aC l i)) (m+1)=jd m (aC l m)) (qH _ m h0.out)
   have EL:=Zd (fun(hx:fK (fun i=>jd i (aC l i)) 8≠0)=>show jA (fun i=>nA i (aC l i)) (fun i=>jd i (aC l i))=ay 8 by unfold jA;rw[if_neg hx])
   clear hF h0 hM
   generalize nA m (aC l m)=v at *
   generalize jd m (aC l m)=x at *
   generalize aC l m=y at *
   generalize aC rs m=y' at *
   have i1:(m:Int)<8:=gA
   go_wp2_with fail
   refine O1.out.mono ?_
   rintro e w1 ⟨rfl,rfl⟩
   clear O1
   by_cases hx:x=0
   ·subst hx
    clear hbd
    go_wp2_with fail
    go_roundw
    case rel=>exact⟨m+1,_,by go_num,gA,GO.out,NF.out,NM.out⟩
    case measure=>simp[intOf];omega
   clear NM NF GO cd fd
   go_wp2_with (first|refine sA (ay 8) BB.out rfl (by rw[au];exact aW) ?_)
   have PU:=bB (rs':=ay 8) BB.out rfl
   have eO:=lS PU.1 (by rw[au];exact aW)
   have GF:=Zd (aG GM.out PU.2 gA)
   refine bodyPost_ret (v:=.tuple #[.agg (aD (ay 8)),.int .i64 x]) ?_ rfl ?_
   ·simp[results,results102,asAddr,Act.put,eO]
   rw[EL.out (by rw[ST.out hx];exact hx),ST.out hx];exact⟨rfl,GF.out⟩
  obtain rfl:m=8:=gA
  have hlen:rs.length=8:=hF.out.1
  have EL:=Zs (jA (fun i=>nA i (aC l i)) (fun i=>jd i (aC l i))=rs) (by rw[fB hF.out];unfold jA;rw[if_pos h0.out])
  have EE:=h0
  have BA:=Zd hM.out.1
  have BB:=Zd hM.out.2.1
  have GM:=Zd hM.out.2.2
  clear hF hM h0 hbd
  go_wp2_with (first|refine lA BA.out (by rw[hlen];exact aW) ?_|refine sA rs BB.out (by rw[hlen,au]) (by rw[au];exact aW) ?_)
  have PU:=bB (rs':=rs) BB.out (by rw[hlen,au])
  have eO:=lS PU.1 (by rw[hlen];exact aW)
  have GF:=Zd (aG GM.out PU.2 gA)
  refine bodyPost_ret (v:=.tuple #[.agg (aD rs),.int .i64 0]) ?_ rfl ?_
  ·simp[results,results102,asAddr,Act.put,eO]
  rw[EL.out,EE.out];exact⟨rfl,GF.out⟩
theorem afg (l:List Int)(hl:l.length=8)(w:World)(hW:uf w) :
 Calls prog 35 #[.agg (aD l)] w (rG w (jA (fun i=>nA i (aC l i)) (fun i=>jd i (aC l i))) (fK (fun i=>jd i (aC l i)) 8)):=by
 have L0:=Zd (nI w 26 26 l (ay 8))
 have E:=Zd (fun wr (g:w.grownBy wr none)=>acQ l hl wr (kJ hW g))
 have hlen:=KC (fun i=>nA i (aC l i)) (fun i=>jd i (aC l i))
 rw[rF]at L0
 clear hW
 generalize jA (fun i=>nA i (aC l i)) (fun i=>jd i (aC l i))=rs at *
 generalize fK (fun i=>jd i (aC l i)) 8=x at *
 go_enter func35,ntmps35
 go_wp2_with (refine lA L0.out.1 (by rw[hl];exact aW) ?_)
 refine(E.out _ L0.out.2.2).mono ?_
 rintro e w1 ⟨rfl,g1⟩
 have BB:=Zd (L0.out.2.1.aH g1)
 have GM:=Zd (aB L0.out.2.2 g1)
 clear L0 g1 E
 go_wp2_with (first|refine sA rs BB.out (by rw[hlen,au]) (by rw[au];exact aW) ?_)
 have PU:=bB (rs':=rs) BB.out (by rw[hlen,au])
 have eO:=lS PU.1 (by rw[hlen];exact aW)
 have GF:=Zd (aG GM.out PU.2 gA)
 refine bodyPost_ret (v:=.tuple #[.agg (aD rs),.int .i64 x]) ?_ rfl ⟨rfl,GF.out⟩
 simp[results,results35,asAddr,Act.put,eO]
theorem VJ (l:List Int)(hl:l.length=8)(w:World)(hW:uf w) :
 Calls prog 102 #[.agg (aD l),.func (.func 104) #[] #[]] w (rG w (jA (fun i=>mU i (aC l i)) (fun i=>iU i (aC l i))) (fK (fun i=>iU i (aC l i)) 8)):=by
 have L0:=Zd (nI w 26 26 l (ay 8))
 rw[rF]at L0
 have ON:=Zd (fun(m:Nat) wr (g:w.grownBy wr none)=>aax m (aC l m) wr (kJ hW g))
 have IX:=Zd (fun j hj=>fQ l underlying26 j hj hl)
 have hbd:=nH
 clear hW
 go_enter func102,ntmps102
 go_wp2_with (refine lA L0.out.1 (by rw[hl];exact aW) ?_)
 have M0:=Zs (iD w _ 26 26 l (ay 8)) (L0.out)
 generalize (w.alloc (.cells (aD l) 26)).alloc _=W0 at *
 go_loopw [11] (fun i wr=>∃(m:Nat) (rs:List Int),i=.int .i64 m∧m≤8∧Hid (fK (fun i=>iU i (aC l i)) m=0)∧Hid (jh 8 (fun i=>mU i (aC l i)) m rs)∧Hid (iD w wr 26 26 rs (ay 8))) (fun i _=>8-(intOf i).toNat)
 case atStart=>exact⟨0,l,rfl,Nat.zero_le _,rfl,⟨hl,fun j hj=>gA⟩,M0.out⟩
 case round=>
  obtain⟨m,rs,rfl,hm,h0,hF,hM⟩:=hrel
  clear M0
  by_cases vD:m<8
  ·have ix:=IX.out m gA
   have O1:=Zd (ON.out m wr hM.out.2.2)
   have hlen:rs.length=8:=hF.out.1
   have NF:=Zd (eP hF.out vD)
   have cd:=hM.out.1.cell m gA
   have fd:=hM.out.1.free m
   have NM:=Zd (hM.out.set m (mU m (aC l m)))
   have BB:=Zd hM.out.2.1
   have GM:=Zd hM.out.2.2
   have ST:=Zd (fun(hx:iU m (aC l m)≠0)=>show fK (fun i=>iU i (aC l i)) 8=iU m (aC l m) by
    have:=o_ (fun i=>iU i (aC l i)) m h0.out hx (8-(m+1))
    rw[show m+1+(8-(m+1))=8 by omega]at this
    exact this)
   have GO:=Zs (fK (fun i=>iU i (aC l i)) (m+1)=iU m (aC l m)) (qH _ m h0.out)
   have EL:=Zd (fun(hx:fK (fun i=>iU i (aC l i)) 8≠0)=>show jA (fun i=>mU i (aC l i)) (fun i=>iU i (aC l i))=ay 8 by unfold jA;rw[if_neg hx])
   clear hF h0 hM
   generalize mU m (aC l m)=v at *
   generalize iU m (aC l m)=x at *
   generalize aC l m=y at *
   generalize aC rs m=y' at *
   have i1:(m:Int)<8:=gA
   go_wp2_with fail
   refine O1.out.mono ?_
   rintro e w1 ⟨rfl,rfl⟩
   clear O1
   by_cases hx:x=0
   ·subst hx
    clear hbd
    go_wp2_with fail
    go_roundw
    case rel=>exact⟨m+1,_,by go_num,gA,GO.out,NF.out,NM.out⟩
    case measure=>simp[intOf];omega
   clear NM NF GO cd fd
   go_wp2_with (first|refine sA (ay 8) BB.out rfl (by rw[au];exact aW) ?_)
   have PU:=bB (rs':=ay 8) BB.out rfl
   have eO:=lS PU.1 (by rw[au];exact aW)
   have GF:=Zd (aG GM.out PU.2 gA)
   refine bodyPost_ret (v:=.tuple #[.agg (aD (ay 8)),.int .i64 x]) ?_ rfl ?_
   ·simp[results,results102,asAddr,Act.put,eO]
   rw[EL.out (by rw[ST.out hx];exact hx),ST.out hx];exact⟨rfl,GF.out⟩
  obtain rfl:m=8:=gA
  have hlen:rs.length=8:=hF.out.1
  have EL:=Zs (jA (fun i=>mU i (aC l i)) (fun i=>iU i (aC l i))=rs) (by rw[fB hF.out];unfold jA;rw[if_pos h0.out])
  have EE:=h0
  have BA:=Zd hM.out.1
  have BB:=Zd hM.out.2.1
  have GM:=Zd hM.out.2.2
  clear hF hM h0 hbd
  go_wp2_with (first|refine lA BA.out (by rw[hlen];exact aW) ?_|refine sA rs BB.out (by rw[hlen,au]) (by rw[au];exact aW) ?_)
  have PU:=bB (rs':=rs) BB.out (by rw[hlen,au])
  have eO:=lS PU.1 (by rw[hlen];exact aW)
  have GF:=Zd (aG GM.out PU.2 gA)
  refine bodyPost_ret (v:=.tuple #[.agg (aD rs),.int .i64 0]) ?_ rfl ?_
  ·simp[results,results102,asAddr,Act.put,eO]
  rw[EL.out,EE.out];exact⟨rfl,GF.out⟩
theorem FH (l:List Int)(hl:l.length=8)(w:World)(hW:uf w) :
 Calls prog 38 #[.agg (aD l)] w (rG w (jA (fun i=>mU i (aC l i)) (fun i=>iU i (aC l i))) (fK (fun i=>iU i (aC l i)) 8)):=by
 have L0:=Zd (nI w 26 26 l (ay 8))
 have E:=Zd (fun wr (g:w.grownBy wr none)=>VJ l hl wr (kJ hW g))
 have hlen:=KC (fun i=>mU i (aC l i)) (fun i=>iU i (aC l i))
 rw[rF]at L0
 clear hW
 generalize jA (fun i=>mU i (aC l i)) (fun i=>iU i (aC l i))=rs at *
 generalize fK (fun i=>iU i (aC l i)) 8=x at *
 go_enter func38,ntmps38
 go_wp2_with (refine lA L0.out.1 (by rw[hl];exact aW) ?_)
 refine(E.out _ L0.out.2.2).mono ?_
 rintro e w1 ⟨rfl,g1⟩
 have BB:=Zd (L0.out.2.1.aH g1)
 have GM:=Zd (aB L0.out.2.2 g1)
 clear L0 g1 E
 go_wp2_with (first|refine sA rs BB.out (by rw[hlen,au]) (by rw[au];exact aW) ?_)
 have PU:=bB (rs':=rs) BB.out (by rw[hlen,au])
 have eO:=lS PU.1 (by rw[hlen];exact aW)
 have GF:=Zd (aG GM.out PU.2 gA)
 refine bodyPost_ret (v:=.tuple #[.agg (aD rs),.int .i64 x]) ?_ rfl ⟨rfl,GF.out⟩
 simp[results,results38,asAddr,Act.put,eO]
theorem Qy (l:List Int)(hl:l.length=8)(a:Addr)(c:Nat)(w:World)(hW:oZ w a c) :
 Calls prog 19 #[.agg (aD l)] w (rG w (jA (fun i=>nA i (aC l i)) (fun i=>jd i (aC l i))) (fK (fun i=>jd i (aC l i)) 8)):=by
 have L0:=Zd (mW w 26 26 26 l (ay 8) (ay 8))
 rw[rF]at L0
 have ON:=Zd (fun(m:Nat) wr (g:w.grownBy wr none)=>VI m (aC l m) a c wr (jm hW g))
 have hbd:=nH
 clear hW
 go_enter func19,ntmps19
 go_wp2_with fail
 have M0:=Zs (g_ w _ 26 26 26 l (ay 8) (ay 8)) (L0.out)
 generalize ((w.alloc (.cells (aD l) 26)).alloc _).alloc _=W0 at *
 go_loopw [8] (fun i wr=>∃(m:Nat) (rs:List Int),i=.int .i64 m∧m≤8∧Hid (fK (fun i=>jd i (aC l i)) m=0)∧Hid (jh 8 (fun i=>nA i (aC l i)) m rs)∧Hid (g_ w wr 26 26 26 l (ay 8) rs)) (fun i _=>8-(intOf i).toNat)
 case atStart=>exact⟨0,ay 8,rfl,Nat.zero_le _,rfl,⟨au 8,fun j hj=>gA⟩,M0.out⟩
 case round=>
  obtain⟨m,rs,rfl,hm,h0,hF,hM⟩:=hrel
  clear M0
  by_cases vD:m<8
  ·have O1:=Zd (ON.out m wr hM.out.2.2.2)
   have hlen:rs.length=8:=hF.out.1
   have NF:=Zd (eP hF.out vD)
   have cl:=hM.out.1.cell m gA
   have ST:=Zd (fun(hx:jd m (aC l m)≠0)=>show fK (fun i=>jd i (aC l i)) 8=jd m (aC l m) by
    have:=o_ (fun i=>jd i (aC l i)) m h0.out hx (8-(m+1))
    rw[show m+1+(8-(m+1))=8 by omega]at this
    exact this)
   have GO:=Zs (fK (fun i=>jd i (aC l i)) (m+1)=jd m (aC l m)) (qH _ m h0.out)
   have EL:=Zd (fun(hx:fK (fun i=>jd i (aC l i)) 8≠0)=>show jA (fun i=>nA i (aC l i)) (fun i=>jd i (aC l i))=ay 8 by unfold jA;rw[if_neg hx])
   clear hF h0
   generalize nA m (aC l m)=v at *
   generalize jd m (aC l m)=x at *
   generalize aC l m=y at *
   have i1:(m:Int)<8:=gA
   go_wp2_with fail
   refine O1.out.mono ?_
   rintro e w1 ⟨rfl,g1⟩
   have M1:=Zd (hM.out.aH g1)
   clear O1 hM g1 cl
   have cd:=M1.out.2.2.1.cell m gA
   have fd:=M1.out.2.2.1.free m
   have NM:=Zd (M1.out.Li m v)
   have BB:=Zd M1.out.2.1
   have GM:=Zd M1.out.2.2.2
   generalize aC rs m=y' at *
   by_cases hx:x=0
   ·subst hx
    clear hbd
    go_wp2_with fail
    go_roundw
    case rel=>exact⟨m+1,_,by go_num,gA,GO.out,NF.out,NM.out⟩
    case measure=>simp[intOf];omega
   clear NM NF GO cd fd
   go_wp2_with (first|refine sA (ay 8) BB.out rfl (by rw[au];exact aW) ?_)
   have PU:=bB (rs':=ay 8) BB.out rfl
   have eO:=lS PU.1 (by rw[au];exact aW)
   have GF:=Zd (aG GM.out PU.2 gA)
   refine bodyPost_ret (v:=.tuple #[.agg (aD (ay 8)),.int .i64 x]) ?_ rfl ?_
   ·simp[results,results19,asAddr,Act.put,eO]
   rw[EL.out (by rw[ST.out hx];exact hx),ST.out hx];exact⟨rfl,GF.out⟩
  obtain rfl:m=8:=gA
  have hlen:rs.length=8:=hF.out.1
  have EL:=Zs (jA (fun i=>nA i (aC l i)) (fun i=>jd i (aC l i))=rs) (by rw[fB hF.out];unfold jA;rw[if_pos h0.out])
  have EE:=h0
  have BA:=Zd hM.out.2.2.1
  have BB:=Zd hM.out.2.1
  have GM:=Zd hM.out.2.2.2
  clear hF hM h0 hbd
  go_wp2_with (first|refine lA BA.out (by rw[hlen];exact aW) ?_|refine sA rs BB.out (by rw[hlen,au]) (by rw[au];exact aW) ?_)
  have PU:=bB (rs':=rs) BB.out (by rw[hlen,au])
  have eO:=lS PU.1 (by rw[hlen];exact aW)
  have GF:=Zd (aG GM.out PU.2 gA)
  refine bodyPost_ret (v:=.tuple #[.agg (aD rs),.int .i64 0]) ?_ rfl ?_
  ·simp[results,results19,asAddr,Act.put,eO]
  rw[EL.out,EE.out];exact⟨rfl,GF.out⟩
theorem sO (l:List Int)(hl:l.length=8)(a:Addr)(c:Nat)(w:World)(hW:oZ w a c) :
 Calls prog 20 #[.agg (aD l)] w (rG w (jA (fun i=>mU i (aC l i)) (fun i=>iU i (aC l i))) (fK (fun i=>iU i (aC l i)) 8)):=by
 have L0:=Zd (mW w 26 26 26 l (ay 8) (ay 8))
 rw[rF]at L0
 have ON:=Zd (fun(m:Nat) wr (g:w.grownBy wr none)=>MW m (aC l m) a c wr (jm hW g))
 have hbd:=nH
 clear hW
 go_enter func20,ntmps20
 go_wp2_with fail
 have M0:=Zs (g_ w _ 26 26 26 l (ay 8) (ay 8)) (L0.out)
 generalize ((w.alloc (.cells (aD l) 26)).alloc _).alloc _=W0 at *
 go_loopw [8] (fun i wr=>∃(m:Nat) (rs:List Int),i=.int .i64 m∧m≤8∧Hid (fK (fun i=>iU i (aC l i)) m=0)∧Hid (jh 8 (fun i=>mU i (aC l i)) m rs)∧Hid (g_ w wr 26 26 26 l (ay 8) rs)) (fun i _=>8-(intOf i).toNat)
 case atStart=>exact⟨0,ay 8,rfl,Nat.zero_le _,rfl,⟨au 8,fun j hj=>gA⟩,M0.out⟩
 case round=>
  obtain⟨m,rs,rfl,hm,h0,hF,hM⟩:=hrel
  clear M0
  by_cases vD:m<8
  ·have O1:=Zd (ON.out m wr hM.out.2.2.2)
   have hlen:rs.length=8:=hF.out.1
   have NF:=Zd (eP hF.out vD)
   have cl:=hM.out.1.cell m gA
   have ST:=Zd (fun(hx:iU m (aC l m)≠0)=>show fK (fun i=>iU i (aC l i)) 8=iU m (aC l m) by
    have:=o_ (fun i=>iU i (aC l i)) m h0.out hx (8-(m+1))
    rw[show m+1+(8-(m+1))=8 by omega]at this
    exact this)
   have GO:=Zs (fK (fun i=>iU i (aC l i)) (m+1)=iU m (aC l m)) (qH _ m h0.out)
   have EL:=Zd (fun(hx:fK (fun i=>iU i (aC l i)) 8≠0)=>show jA (fun i=>mU i (aC l i)) (fun i=>iU i (aC l i))=ay 8 by unfold jA;rw[if_neg hx])
   clear hF h0
   generalize mU m (aC l m)=v at *
   generalize iU m (aC l m)=x at *
   generalize aC l m=y at *
   have i1:(m:Int)<8:=gA
   go_wp2_with fail
   refine O1.out.mono ?_
   rintro e w1 ⟨rfl,rfl⟩
   have g1:=aQ w1 none
   have M1:=Zd (hM.out.aH g1)
   clear O1 hM g1 cl
   have cd:=M1.out.2.2.1.cell m gA
   have fd:=M1.out.2.2.1.free m
   have NM:=Zd (M1.out.Li m v)
   have BB:=Zd M1.out.2.1
   have GM:=Zd M1.out.2.2.2
   generalize aC rs m=y' at *
   by_cases hx:x=0
   ·subst hx
    clear hbd
    go_wp2_with fail
    go_roundw
    case rel=>exact⟨m+1,_,by go_num,gA,GO.out,NF.out,NM.out⟩
    case measure=>simp[intOf];omega
   clear NM NF GO cd fd
   go_wp2_with (first|refine sA (ay 8) BB.out rfl (by rw[au];exact aW) ?_)
   have PU:=bB (rs':=ay 8) BB.out rfl
   have eO:=lS PU.1 (by rw[au];exact aW)
   have GF:=Zd (aG GM.out PU.2 gA)
   refine bodyPost_ret (v:=.tuple #[.agg (aD (ay 8)),.int .i64 x]) ?_ rfl ?_
   ·simp[results,results20,asAddr,Act.put,eO]
   rw[EL.out (by rw[ST.out hx];exact hx),ST.out hx];exact⟨rfl,GF.out⟩
  obtain rfl:m=8:=gA
  have hlen:rs.length=8:=hF.out.1
  have EL:=Zs (jA (fun i=>mU i (aC l i)) (fun i=>iU i (aC l i))=rs) (by rw[fB hF.out];unfold jA;rw[if_pos h0.out])
  have EE:=h0
  have BA:=Zd hM.out.2.2.1
  have BB:=Zd hM.out.2.1
  have GM:=Zd hM.out.2.2.2
  clear hF hM h0 hbd
  go_wp2_with (first|refine lA BA.out (by rw[hlen];exact aW) ?_|refine sA rs BB.out (by rw[hlen,au]) (by rw[au];exact aW) ?_)
  have PU:=bB (rs':=rs) BB.out (by rw[hlen,au])
  have eO:=lS PU.1 (by rw[hlen];exact aW)
  have GF:=Zd (aG GM.out PU.2 gA)
  refine bodyPost_ret (v:=.tuple #[.agg (aD rs),.int .i64 0]) ?_ rfl ?_
  ·simp[results,results20,asAddr,Act.put,eO]
  rw[EL.out,EE.out];exact⟨rfl,GF.out⟩
def quL (k:List Int):List Int:=fM 8 (fun i=>(one (wid i) (aC k i):Int))
theorem uS (k:List Int):(quL k).length=8:=bQ _ _
theorem Cq (X:Nat→Int):∀m,(∀i,i<m→X i=0)→fK X m=0
 | 0,_=>rfl
 | m+1,h=>by
  have:=Cq X m (fun i hi=>h i gA)
  rw[qH X m this]
  exact h m gA
theorem FJ (V X:Nat→Int)(h:∀i,i<8→X i=0):jA V X=fM 8 V∧fK X 8=0:=by
 have:=Cq X 8 h
 exact⟨if_pos this,this⟩
theorem ow (n:Nat)(f g:Nat→Int)(h:∀i,i<n→f i=g i):fM n f=fM n g:=
 dJ (bQ _ _) (fun i hi=>by rw[dN _ _ _ hi];exact h i hi)
theorem DL (k:List Int)(hk:∀i,i<8→-32768≤aC k i∧aC k i≤32768):jA (fun i=>nA i (aC k i)) (fun i=>jd i (aC k i))=quL k∧fK (fun i=>jd i (aC k i)) 8=0:=by
 have h:=FJ (fun i=>nA i (aC k i)) (fun i=>jd i (aC k i)) (fun i hi=>by
  have:=hk i hi
  show jd (i:Int) (aC k i)=0
  unfold jd
  rw[if_neg gA,if_neg gA])
 refine⟨h.1.trans (ow 8 _ _ (fun i hi=>?_)),h.2⟩
 have:=hk i hi
 show nA (i:Int) (aC k i)=_
 unfold nA
 rw[if_neg gA,if_neg gA,show((i:Nat):Int).toNat=i by omega]
def gY (q:List Int):List Int:=fM 8 (fun i=>lvl (wid i) (aC q i))
theorem kX (q:List Int):(gY q).length=8:=bQ _ _
def VO (q:List Int):Prop:=q.length=8∧∀i,i<8→0≤aC q i∧aC q i<(many (wid i):Int)
theorem vY (k:List Int):VO (quL k):=by
 refine⟨uS k,fun i hi=>?_⟩
 unfold quL
 rw[dN _ _ _ hi]
 have:=ahw (wid i) (aC k i) (Ey i)
 omega
theorem zQ (q:List Int)(hq:VO q):jA (fun i=>mU i (aC q i)) (fun i=>iU i (aC q i))=gY q∧fK (fun i=>iU i (aC q i)) 8=0:=by
 have h:=FJ (fun i=>mU i (aC q i)) (fun i=>iU i (aC q i)) (fun i hi=>by
  have:=hq.2 i hi
  show iU (i:Int) (aC q i)=0
  unfold iU
  rw[if_neg gA,show((i:Nat):Int).toNat=i by omega]
  (repeat' split)<;>first|rfl|omega)
 refine⟨h.1.trans (ow 8 _ _ (fun i hi=>?_)),h.2⟩
 have:=hq.2 i hi
 show mU (i:Int) (aC q i)=_
 unfold mU
 rw[if_neg gA,show((i:Nat):Int).toNat=i by omega]
 (repeat' split)<;>first|rfl|omega
theorem rW (q:List Int)(hq:VO q):bN (gY q)=true:=by
 rw[gQ,kX]
 intro i hi
 unfold gY
 rw[dN _ _ _ hi]
 have h:=hq.2 i hi
 have:=Ma (wid i) (aC q i) (Ey i) h.1 h.2
 omega
theorem afh {p:List Int}(h:j4 p=true):VO (bP p 1 8):=by
 refine⟨aR _ _ _,fun i hi=>?_⟩
 rw[fV _ _ _ _ hi]
 have:=(kF p).1 h (1+i) gA
 rw[Ml i hi]at this
 omega
theorem afi (p:List Int):gY (bP p 1 8)=vlL p:=ow 8 _ _ (fun i hi=>by rw[fV _ _ _ _ hi])
theorem xG {p:List Int}(h:j4 p=true):jA (fun i=>mU i (aC (bP p 1 8) i)) (fun i=>iU i (aC (bP p 1 8) i))=vlL p∧fK (fun i=>iU i (aC (bP p 1 8) i)) 8=0:=by
 have:=zQ _ (afh h)
 rw[afi]at this
 exact this
theorem YV (l u:List Int):lK true l u=yX l:=if_pos rfl
theorem YW (l u:List Int):lK false l u=yK l u:=if_neg (by decide)
theorem acR (l u:List Int):vK true l u=yY l:=if_pos rfl
theorem YX (l u:List Int):vK false l u=qG l u:=if_neg (by decide)
theorem acZ (S:Int)(h1:-262144≤S)(h2:S≤262144):-262144≤S.tdiv 4∧S.tdiv 4≤262144:=by
 rcases Int.le_total 0 S with h|h
 ·rw[Int.tdiv_eq_ediv_of_nonneg h];omega
 have e:S.tdiv 4=-((-S).tdiv 4):=by rw[Int.neg_tdiv];omega
 rw[e,Int.tdiv_eq_ediv_of_nonneg gA];omega
theorem afn (a b:List Int)(num:Int)(hn:¬(0≤num∧num≤4))(w:World):Calls prog 105 #[.agg (aD a),.agg (aD b),.int .i64 num] w (rG w (ay 8) 2):=by
 have L0:=Zd (mW w 26 26 26 a b (ay 8))
 rw[rF]at L0
 have hbd:=nH
 have W:=Zd (oh num 0 4)
 rw[show(decide (0≤num)&&decide (num≤4))=false by simp;omega]at W
 go_enter func105,ntmps105
 go_wp2_with fail
 refine(W.out _).mono ?_
 rintro e w1 ⟨rfl,rfl⟩
 have BB:=Zd L0.out.2.2.1
 have GM:=Zd L0.out.2.2.2
 clear W
 go_wp2_with (first|refine sA (ay 8) BB.out rfl (by rw[au];exact aW) ?_)
 have PU:=bB (rs':=ay 8) BB.out rfl
 have eO:=lS PU.1 (by rw[au];exact aW)
 have GF:=Zd (aG GM.out PU.2 gA)
 refine bodyPost_ret (v:=.tuple #[.agg (aD (ay 8)),.int .i64 2]) ?_ rfl ⟨rfl,GF.out⟩
 simp[results,results105,asAddr,Act.put,eO]
theorem afo (a b:List Int)(ha:a.length=8)(num:Int)(hn:0≤num∧num≤4)(sa:bN a=false)(w:World):Calls prog 105 #[.agg (aD a),.agg (aD b),.int .i64 num] w (rG w (ay 8) 2):=by
 have L0:=Zd (mW w 26 26 26 a b (ay 8))
 rw[rF]at L0
 have hbd:=nH
 have W:=Zd (oh num 0 4)
 rw[show(decide (0≤num)&&decide (num≤4))=true by simp;omega]at W
 have SA:=Zd (iM a ha)
 rw[sa]at SA
 go_enter func105,ntmps105
 go_wp2_with fail
 refine(W.out _).mono ?_
 rintro e w1 ⟨rfl,rfl⟩
 clear W
 go_wp2_with (first|refine eZ (by first|rfl|(simp[Region.wanted,yielded];omega)) 26 _ rfl _ rfl _ L0.out.1 _ underlying26 rfl (by rw[ha];exact aW) ?_)
 refine(SA.out _).mono ?_
 rintro e w1 ⟨rfl,g1⟩
 have BB:=Zd (L0.out.2.2.1.aH g1)
 have GM:=Zd (aB L0.out.2.2.2 g1)
 clear g1 SA
 go_wp2_with (first|refine sA (ay 8) BB.out rfl (by rw[au];exact aW) ?_)
 have PU:=bB (rs':=ay 8) BB.out rfl
 have eO:=lS PU.1 (by rw[au];exact aW)
 have GF:=Zd (aG GM.out PU.2 gA)
 refine bodyPost_ret (v:=.tuple #[.agg (aD (ay 8)),.int .i64 2]) ?_ rfl ⟨rfl,GF.out⟩
 simp[results,results105,asAddr,Act.put,eO]
theorem afp (a b:List Int)(ha:a.length=8)(hb:b.length=8)(num:Int)(hn:0≤num∧num≤4)(sa:bN a=true)(sb:bN b=false)(w:World):Calls prog 105 #[.agg (aD a),.agg (aD b),.int .i64 num] w (rG w (ay 8) 2):=by
 have L0:=Zd (mW w 26 26 26 a b (ay 8))
 rw[rF]at L0
 have hbd:=nH
 have W:=Zd (oh num 0 4)
 rw[show(decide (0≤num)&&decide (num≤4))=true by simp;omega]at W
 have SA:=Zd (iM a ha)
 have SB:=Zd (iM b hb)
 rw[sa]at SA
 rw[sb]at SB
 go_enter func105,ntmps105
 go_wp2_with fail
 refine(W.out _).mono ?_
 rintro e w1 ⟨rfl,rfl⟩
 clear W
 go_wp2_with (first|refine eZ (by first|rfl|(simp[Region.wanted,yielded];omega)) 26 _ rfl _ rfl _ L0.out.1 _ underlying26 rfl (by rw[ha];exact aW) ?_)
 refine(SA.out _).mono ?_
 rintro e w1 ⟨rfl,g1⟩
 have L1:=Zd (L0.out.2.1.aH g1)
 have B1:=Zd (L0.out.2.2.1.aH g1)
 have G1:=Zd (aB L0.out.2.2.2 g1)
 clear g1 SA
 go_wp2_with (first|refine eZ (by first|rfl|(simp[Region.wanted,yielded];omega)) 26 _ rfl _ rfl _ L1.out _ underlying26 rfl (by rw[hb];exact aW) ?_)
 refine(SB.out _).mono ?_
 rintro e w2 ⟨rfl,g2⟩
 have BB:=Zd (B1.out.aH g2)
 have GM:=Zd (aB G1.out g2)
 clear g2 SB
 go_wp2_with (first|refine sA (ay 8) BB.out rfl (by rw[au];exact aW) ?_)
 have PU:=bB (rs':=ay 8) BB.out rfl
 have eO:=lS PU.1 (by rw[au];exact aW)
 have GF:=Zd (aG GM.out PU.2 gA)
 refine bodyPost_ret (v:=.tuple #[.agg (aD (ay 8)),.int .i64 2]) ?_ rfl ⟨rfl,GF.out⟩
 simp[results,results105,asAddr,Act.put,eO]
theorem afq (a b:List Int)(ha:a.length=8)(hb:b.length=8)(num:Int)(n0:0≤num)(n4:num≤4)(sa:bN a=true)(sb:bN b=true)(w:World):Calls prog 105 #[.agg (aD a),.agg (aD b),.int .i64 num] w (rG w (nG a b num) (ze a b num)):=by
 have L0:=Zd (mW w 26 26 26 a b (ay 8))
 rw[rF]at L0
 have W:=Zd (oh num 0 4)
 rw[show(decide (0≤num)&&decide (num≤4))=true by simp;omega]at W
 have SA:=Zd (iM a ha)
 have SB:=Zd (iM b hb)
 rw[sa]at SA
 rw[sb]at SB
 have IX:=Zd (fun j hj=>fQ a underlying26 j hj ha)
 go_enter func105,ntmps105
 go_wp2_with fail
 refine(W.out _).mono ?_
 rintro e w1 ⟨rfl,rfl⟩
 clear W
 go_wp2_with (first|refine eZ (by first|rfl|(simp[Region.wanted,yielded];omega)) 26 _ rfl _ rfl _ L0.out.1 _ underlying26 rfl (by rw[ha];exact aW) ?_)
 refine(SA.out _).mono ?_
 rintro e w1 ⟨rfl,g1⟩
 have M1:=Zs (g_ w w1 26 26 26 a b (ay 8)) (g_.aH L0.out g1)
 clear g1 SA
 go_wp2_with (first|refine eZ (by first|rfl|(simp[Region.wanted,yielded];omega)) 26 _ rfl _ rfl _ M1.out.2.1 _ underlying26 rfl (by rw[hb];exact aW) ?_)
 refine(SB.out _).mono ?_
 rintro e w2 ⟨rfl,g2⟩
 have M2:=Zd (M1.out.aH g2)
 clear g2 SB
 go_wp2_with (refine lA M2.out.1 (by rw[ha];exact aW) ?_)
 have SY:=Zd ((gQ a).1 sa)
 have SZ:=Zd ((gQ b).1 sb)
 have OK:=Zs (Pn a b num=true) (by unfold Pn;simp[n0,n4,sa,sb])
 clear sa sb
 go_loopw [25] (fun i wr=>∃(m:Nat) (rs:List Int),i=.int .i64 m∧m≤8∧Hid (jh 8 (CV a b num) m rs)∧Hid (g_ w wr 26 26 26 rs b (ay 8))) (fun i _=>8-(intOf i).toNat)
 case atStart=>exact⟨0,a,rfl,Nat.zero_le _,⟨ha,fun j hj=>gA⟩,M2.out⟩
 case round=>
  obtain⟨m,rs,rfl,hm,hF,hM⟩:=hrel
  clear M2
  by_cases vD:m<8
  ·have ix:=IX.out m gA
   have cb:=hM.out.2.1.cell m gA
   obtain⟨a1,a2⟩:=SY.out m gA
   obtain⟨b1,b2⟩:=SZ.out m gA
   have hlen:rs.length=8:=hF.out.1
   have NF:=Zd (eP hF.out vD)
   have MX:=Zs (CV a b num m=(aC a m*(4-num)+aC b m*num).tdiv 4) (rfl)
   have cd:=hM.out.1.cell m gA
   have fd:=hM.out.1.free m
   have NM:=Zd (hM.out.set m (CV a b num m))
   clear hF hM
   generalize CV a b num m=z at *
   generalize aC a m=x at *
   generalize aC b m=y at *
   generalize aC rs m=y' at *
   have i0:(0:Int)≤m:=gA
   have i1:(m:Int)<8:=gA
   have e1:-131072≤x*(4-num)∧x*(4-num)≤131072:=by
    have h:num=0∨num=1∨num=2∨num=3∨num=4:=gA
    rcases h with rfl|rfl|rfl|rfl|rfl<;>omega
   have e2:-131072≤y*num∧y*num≤131072:=by
    have h:num=0∨num=1∨num=2∨num=3∨num=4:=gA
    rcases h with rfl|rfl|rfl|rfl|rfl<;>omega
   obtain⟨e11,e12⟩:=e1
   obtain⟨e21,e22⟩:=e2
   have hq:=acZ (x*(4-num)+y*num) gA gA
   obtain⟨q1,q2⟩:=hq
   go_wp2_with fail
   rw[←MX.out]
   go_roundw
   case rel=>exact⟨m+1,_,by go_num,gA,NF.out,NM.out⟩
   case measure=>simp[intOf];omega
  obtain rfl:m=8:=gA
  have hlen:rs.length=8:=hF.out.1
  have EL:=Zs (nG a b num=rs) (by rw[fB hF.out];simp[nG,OK.out])
  have EE:=Zs (ze a b num=0) (by simp[ze,OK.out])
  have BA:=Zd hM.out.1
  have BB:=Zd hM.out.2.2.1
  have GM:=Zd hM.out.2.2.2
  clear hF hM
  go_wp2_with (first|refine lA BA.out (by rw[hlen];exact aW) ?_|refine sA rs BB.out (by rw[hlen,au]) (by rw[au];exact aW) ?_)
  have PU:=bB (rs':=rs) BB.out (by rw[hlen,au])
  have eO:=lS PU.1 (by rw[hlen];exact aW)
  have GF:=Zd (aG GM.out PU.2 gA)
  refine bodyPost_ret (v:=.tuple #[.agg (aD rs),.int .i64 0]) ?_ rfl ?_
  ·simp[results,results105,asAddr,Act.put,eO]
  rw[EL.out,EE.out];exact⟨rfl,GF.out⟩
theorem afr (a b:List Int)(ha:a.length=8)(hb:b.length=8)(num:Int)(w:World):Calls prog 105 #[.agg (aD a),.agg (aD b),.int .i64 num] w (rG w (nG a b num) (ze a b num)):=by
 have no:Pn a b num=false→nG a b num=ay 8∧ze a b num=2:=fun h=>by simp[nG,ze,h]
 by_cases hn:0≤num∧num≤4
 ·rcases sa:bN a with _|_
  ·obtain⟨e1,e2⟩:=no (by unfold Pn;rw[sa];simp)
   rw[e1,e2];exact afo a b ha num hn sa w
  rcases sb:bN b with _|_
  ·obtain⟨e1,e2⟩:=no (by unfold Pn;rw[sb];simp)
   rw[e1,e2];exact afp a b ha hb num hn sa sb w
  exact afq a b ha hb num hn.1 hn.2 sa sb w
 obtain⟨e1,e2⟩:=no (by
  unfold Pn
  have:(decide (0≤num)&&decide (num≤4))=false:=by simp;omega
  rw[this];rfl)
 rw[e1,e2];exact afn a b num hn w
def QE (A:List Int)(m:Nat)(q:Int)(k:Nat)(rs:List Int):Prop:=rs.length=9∧∀j,aC rs j=if j<k then gr (aC A) m q j else aC A j
theorem VX {A:List Int}{m:Nat}{q:Int}{k:Nat}{rs:List Int}(h:QE A m q k rs)(h1:1≤k)(h2:k≤m)(hm:m≤8):QE A m q (k+1) (rs.set k (aC A k+q*aC A (m-k) / 32768)):=by
 refine⟨by simpa using h.1,fun j=>?_⟩
 by_cases e:j=k
 ·subst e
  have hl:=h.1
  rw[if_pos gA]
  unfold gr
  rw[if_pos ⟨h1,h2⟩]
  simp[aC,List.getD,show j<rs.length by omega]
 have e1:aC (rs.set k (aC A k+q*aC A (m-k) / 32768)) j=aC rs j:=by simp[aC,List.getD,List.getElem?_set,Ne.symm e]
 rw[e1,h.2 j]
 by_cases c:j<k
 ·rw[if_pos c,if_pos gA]
 rw[if_neg c,if_neg gA]
theorem QF (A:List Int)(hA:A.length=9)(m:Nat)(q:Int):QE A m q 1 A:=⟨hA,fun j=>by
 by_cases c:j<1
 ·rw[if_pos c];unfold gr;rw[if_neg gA]
 rw[if_neg c]⟩
theorem aay {A:List Int}{m:Nat}{q:Int}{rs:List Int}(h:QE A m q (m+1) rs):rs=fM 9 (gr (aC A) m q):=dJ h.1 (fun i _=>by
 rw[h.2 i]
 by_cases c:i<m+1
 ·rw[if_pos c]
 rw[if_neg c];unfold gr;rw[if_neg gA])
def afs (w wr:World)(A rs:List Int):Prop:=g_ w wr 58 58 58 A (ay 9) rs
theorem ac0 {w wr:World}{A rs:List Int}(h:afs w wr A rs)(k:Nat)(z:Int):afs w (wr.setCell ⟨w.heap.size+1+1,k,none⟩ (.int .i64 z)) A (rs.set k z):=
 ⟨h.1.aJ (aF _ ⟨w.heap.size+1+1,k,none⟩ _) (by simp;omega),h.2.1.aJ (aF _ ⟨w.heap.size+1+1,k,none⟩ _) (by simp),h.2.2.1.set k z,aG h.2.2.2 (aF _ ⟨w.heap.size+1+1,k,none⟩ _) (by simp;omega)⟩
theorem VY (w:World)(A:List Int)(hA:A.length=9):afs w (bT (((w.alloc (.cells (aD A) 58)).alloc (.cells (aD (ay 9)) 58)).alloc (.cells (aD (ay 9)) 58)) (w.heap.size+1+1) A) A A:=by
 obtain⟨h1,h2,h3,h4⟩:=mW w 58 58 58 A (ay 9) (ay 9)
 have PU:=bB (rs':=A) h3 (by rw[hA,au])
 exact⟨h1.aJ PU.2 gA,h2.aJ PU.2 gA,PU.1,aG h4 PU.2 gA⟩
theorem KG (A:List Int)(hA:A.length=9)(m:Nat)(hm:m≤8)(q:Int)(q1:-32768≤q)(q2:q≤32768)(hW:Wi (aC A) 4294967296)(w:World) :
 Calls prog 101 #[.agg (aD A),.int .i64 m,.int .i64 q] w (qQ w (.agg (aD (fM 9 (gr (aC A) m q))))):=by
 have L0:=Zd (mW w 58 58 58 A (ay 9) (ay 9))
 rw[J7]at L0
 have BA:=Zd (bO.new w 58 A)
 have BA2:=Zd (nI w 58 58 A (ay 9))
 rw[J7]at BA2
 have B3:=Zd L0.out.2.2.1
 have MS:=Zd (VY w A hA)
 rw[J7]at MS
 have HW:=Zd hW
 clear hW
 go_enter func101,ntmps101
 go_wp2_with (first|refine lA BA2.out.1 (by rw[hA];exact dz) ?_|refine sA A B3.out (by rw[hA,au]) (by rw[au];exact dz) ?_)
 generalize bT _ (w.heap.size+1+1) A=W0 at *
 go_loopw [8] (fun i wr=>∃(k:Nat) (rs:List Int),i=.int .i64 k∧1≤k∧k≤m+1∧Hid (QE A m q k rs)∧Hid (afs w wr A rs)) (fun i _=>9-(intOf i).toNat)
 case atStart=>exact⟨1,A,rfl,gA,gA,QF A hA m q,MS.out⟩
 case round=>
  obtain⟨k,rs,rfl,hk1,hk2,hF,hM⟩:=hrel
  clear MS
  by_cases hkm:k≤m
  ·have hlen:rs.length=9:=hF.out.1
   have cz:=hM.out.2.2.1.cell k gA
   have fz:=hM.out.2.2.1.free k
   have cx:=hM.out.1.cell (m-k) gA
   have ez:aC rs k=aC A k:=by rw[hF.out.2 k,if_neg gA]
   rw[ez]at cz
   have NF:=Zd (VX hF.out hk1 hkm hm)
   have NM:=Zd (ac0 hM.out k (aC A k+q*aC A (m-k) / 32768))
   obtain⟨z1,z2⟩:=HW.out k
   obtain⟨x1,x2⟩:=HW.out (m-k)
   obtain⟨p1,p2⟩:=zf q _ _ q1 q2 x1 x2
   have EJ:=Zs (IntKind.i64.wrap ((m:Int)-(k:Int))=((m-k:Nat):Int)) (by rw[fH _ gA gA];omega)
   have j8:((m-k:Nat):Int)<9:=gA
   have j0:(0:Int)≤((m-k:Nat):Int):=gA
   clear hF hM ez
   have EM:=Zd (fH (q*aC A (m-k)) gA gA)
   have EZ:=Zd (fH (aC A k+q*aC A (m-k) / 32768) gA gA)
   generalize hx:aC A (m-k)=x at *
   generalize hz:aC A k=z at *
   clear hx hz
   generalize m-k=j at *
   have k9:(k:Int)<9:=gA
   have k0:(0:Int)≤k:=gA
   have km:(k:Int)≤m:=gA
   have hS:=And.intro cz cx
   go_wp2_with fail
   refine b_ 13 ((fun w'=>w'.cell? ⟨w.heap.size+1+1,k,none⟩=some (.int .i64 z)∧w'.cell? ⟨w.heap.size,j,none⟩=some (.int .i64 x))) 14 (by rfl) _ rfl (by kernel_rfl) (fun aK=>?_)
   refine jq (hy:=by intro w' bL;obtain⟨s1,s2⟩:=bL;go_simp;try with_reducible rfl) 0 hS aK fun aK=>?_
   refine jq (hy:=by intro w' bL;obtain⟨s1,s2⟩:=bL;go_simp;try with_reducible rfl) 1 hS aK fun aK=>?_
   refine jq (hy:=by intro w' bL;obtain⟨s1,s2⟩:=bL;go_simp;try with_reducible rfl) 2 hS aK fun aK=>?_
   refine jq (hy:=by intro w' bL;obtain⟨s1,s2⟩:=bL;go_simp;try with_reducible rfl) 3 hS aK fun aK=>?_
   refine jq (hy:=by intro w' bL;obtain⟨s1,s2⟩:=bL;go_simp;try with_reducible rfl) 4 hS aK fun aK=>?_
   refine jq (hy:=by intro w' bL;obtain⟨s1,s2⟩:=bL;go_simp;try with_reducible rfl) 5 hS aK fun aK=>?_
   refine jq (hy:=by intro w' bL;obtain⟨s1,s2⟩:=bL;go_simp;(first|exact EJ.out|rw[EJ.out]|(simp;omega))) (v:=.int .i64 (j:Int)) 6 hS aK fun aK=>?_
   refine jq (hy:=by intro w' bL;obtain⟨s1,s2⟩:=bL;go_simp;try with_reducible rfl) 7 hS aK fun aK=>?_
   refine jq (hy:=by intro w' bL;obtain⟨s1,s2⟩:=bL;go_simp;try with_reducible rfl) 8 hS aK fun aK=>?_
   refine jq (hy:=by intro w' bL;obtain⟨s1,s2⟩:=bL;go_simp;(first|exact EM.out|rw[EM.out]|(simp;omega))) (v:=.int .i64 (q*x)) 9 hS aK fun aK=>?_
   refine jq (hy:=by intro w' bL;obtain⟨s1,s2⟩:=bL;go_simp;try with_reducible rfl) 10 hS aK fun aK=>?_
   refine jq (hy:=by intro w' bL;obtain⟨s1,s2⟩:=bL;go_simp;try with_reducible rfl) 11 hS aK fun aK=>?_
   refine jq (hy:=by intro w' bL;obtain⟨s1,s2⟩:=bL;go_simp;try with_reducible rfl) 12 hS aK fun aK=>?_
   refine kT 13 aK fun K hK=>?_
   (try simp only[sZ])
   go_simp
   go_wp2_with fail
   refine hK.out _ _ (fun h=>by cases h) (fun aK=>?_)
   (try simp only[sZ])
   refine bI _ _ _ _ (by rfl) ?_
   refine xP ?_
   go_wp2_with fail
   go_roundw
   case rel=>exact⟨k+1,_,by go_num,gA,gA,NF.out,g_.aH NM.out (bW (aQ _ none))⟩
   case measure=>simp[intOf];omega
  obtain rfl:k=m+1:=gA
  have hlen:rs.length=9:=hF.out.1
  have ER:=Zd (aay hF.out)
  have BA:=Zd hM.out.2.2.1
  have BB:=Zd hM.out.2.1
  have GM:=Zd hM.out.2.2.2
  clear hF hM
  have km:¬((m+1:Nat):Int)≤m:=gA
  go_wp2_with (first|refine lA BA.out (by rw[hlen];exact dz) ?_|refine sA rs BB.out (by rw[hlen,au]) (by rw[au];exact dz) ?_)
  have PU:=bB (rs':=rs) BB.out (by rw[hlen,au])
  have eO:=lS PU.1 (by rw[hlen];exact dz)
  have GF:=Zd (aG GM.out PU.2 gA)
  refine bodyPost_ret (v:=.agg (aD rs)) ?_ rfl ?_
  ·simp[results,results101,asAddr,Act.put,eO]
  rw[←ER.out];exact⟨rfl,GF.out⟩
theorem VZ (A R:List Int)(hA:A.length=9)(hR:R.length=9)(m:Nat)(h1:1≤m)(h8:m≤8)(hW:Wi (aC A) 4294967296)(hB:RB (aC R))(w:World) :
 Calls prog 99 #[.agg (aD A),.agg (aD R),.int .i64 m] w (qQ w (.int .i64 (mis (aC A) (aC R) m m))):=by
 have L0:=Zd (nI w 58 58 A R)
 have F:=Zs (∀z,z=mis (aC A) (aC R) m m→qQ w (.int .i64 (mis (aC A) (aC R) m m)) (.returned (.int .i64 z)) ((w.alloc (.cells (aD A) 58)).alloc (.cells (aD R) 58))) (fun z hz=>⟨by rw[hz],L0.out.2.2⟩)
 generalize qQ w (.int .i64 (mis (aC A) (aC R) m m))=T at *
 have HW:=Zd hW
 have HB:=Zd hB
 have MB:=Zd (Lj hW hB m)
 clear hW hB
 have m0:(0:Int)≤m:=gA
 have m9:(m:Int)≤9:=gA
 go_enter func99,ntmps99
 go_wp2_with fail
 generalize (w.alloc (.cells (aD A) 58)).alloc _=W0 at *
 go_loop [7,13] (fun s i=>∃k:Nat,s=.int .i64 (mis (aC A) (aC R) m k)∧i=.int .i64 k∧k≤m) (fun _ i=>m-(intOf i).toNat)
 case atStart=>exact⟨0,rfl,rfl,Nat.zero_le _⟩
 case round=>
  obtain⟨k,rfl,rfl,hk⟩:=hrel
  by_cases hkm:k<m
  ·have ca:=L0.out.1.cell k gA
   have cr:=L0.out.2.1.cell (m-k) gA
   obtain⟨a1,a2⟩:=HW.out k
   obtain⟨r1,r2⟩:=HB.out (m-k)
   obtain⟨⟨p1,p2⟩,p3,p4⟩:=Eh _ _ a1 a2 r1 r2
   obtain⟨s1,s2⟩:=MB.out k
   have E:=Zs (mis (aC A) (aC R) m (k+1)=mis (aC A) (aC R) m k+(aC A k / 512*aC R (m-k)) / 32768) (rfl)
   have ht:((m:Int)-(k:Int)).toNat=m-k:=gA
   have t0:(0:Int)≤(m:Int)-k:=gA
   have t9:(m:Int)-k<9:=gA
   generalize mis (aC A) (aC R) m k=s at *
   generalize aC A k=x at *
   generalize aC R (m-k)=y at *
   go_wp2_with fail
   go_round
   case rel=>exact⟨k+1,by rw[E.out],by go_num,gA⟩
   case measure=>simp[intOf];omega
  obtain rfl:k=m:=gA
  have G:=Zd (F.out _ rfl)
  generalize mis (aC A) (aC R) k k=s at *
  go_wp2_with fail
  exact G.out
theorem ac1 (p:Nat→Int)(m:Nat)(hm:m≤8)(q:Int):fM 9 (gr (aC (fM 9 p)) m q)=fM 9 (gr p m q):=by
 apply dJ (bQ _ _)
 intro i hi
 rw[dN _ _ _ hi]
 unfold gr
 rw[dN _ _ _ hi,dN _ _ _ (show m-i<9 by omega)]
theorem ac2 {p:Nat→Int}{B:Int}(h:Wi p B)(hB:0≤B)(n:Nat):Wi (aC (fM n p)) B:=fun i=>by
 by_cases hi:i<n
 ·rw[dN _ _ _ hi];exact h i
 rw[dO _ i (by rw[bQ];omega)];omega
theorem KH {p p' r:Nat→Int}{m:Nat}:∀i,(∀j,j<i→p j=p' j)→mis p r m i=mis p' r m i
 | 0,_=>rfl
 | i+1,h=>by
  show mis p r m i+_=mis p' r m i+_
  rw[KH i (fun j hj=>h j gA),h i gA]
theorem aft (p r:Nat→Int)(m:Nat)(hm:m≤9):mis (aC (fM 9 p)) r m m=mis p r m m:=KH m (fun j hj=>dN _ _ _ gA)
def afu:List Int:=[16777216,0,0,0,0,0,0,0,0]
theorem QG:afu=fM 9 zh:=by decide
theorem QI:aD afu=#[.int .i64 16777216,.int .i64 0,.int .i64 0,.int .i64 0,.int .i64 0,.int .i64 0,.int .i64 0,.int .i64 0,.int .i64 0]:=rfl
def Na (w wr:World)(k:List Int)(ba:Nat)(A:List Int):Prop:=
 bO wr w.heap.size 26 k∧bO wr (w.heap.size+1) 58 (ay 9)∧bO wr ba 58 A∧w.heap.size+1<ba∧w.grownBy wr none
theorem aaz {w wr wr':World}{k:List Int}{ba:Nat}{A:List Int}(h:Na w wr k ba A)(g:wr.grownBy wr' none):Na w wr' k ba A:=
 ⟨h.1.aH g,h.2.1.aH g,h.2.2.1.aH g,h.2.2.2.1,aB h.2.2.2.2 g⟩
theorem ac3 {w wr:World}{k:List Int}{ba:Nat}{A:List Int}(h:Na w wr k ba A)(A':List Int)(hl:A'.length=A.length):Na w (bT wr ba A') k ba A':=by
 have PU:=bB (rs':=A') h.2.2.1 hl
 have hb:=h.2.2.2.1
 exact⟨h.1.aJ PU.2 gA,h.2.1.aJ PU.2 gA,PU.1,hb,aG h.2.2.2.2 PU.2 gA⟩
theorem ac4 {w wr:World}{k:List Int}{ba:Nat}{A:List Int}(h:Na w wr k ba A)(i:Nat)(z:Int):Na w (wr.setCell ⟨ba,i,none⟩ (.int .i64 z)) k ba (A.set i z):=by
 have g:=aF wr ⟨ba,i,none⟩ (.int .i64 z)
 have hb:=h.2.2.2.1
 exact⟨h.1.aJ g (by simp;omega),h.2.1.aJ g (by simp;omega),h.2.2.1.set i z,hb,aG h.2.2.2.2 g (by simp;omega)⟩
theorem V4 {w w1:World}{k:List Int}(h:iD w w1 26 58 k (ay 9))(L:List Int)(hL:L.length=9):Na w (bT (w1.alloc (.cells (aD (ay 9)) 58)) w1.heap.size L) k w1.heap.size L:=by
 obtain⟨f1,f2,f3⟩:=dL w1 58 9 L hL
 exact⟨h.1.aH f3,h.2.1.aH f3,f2,h.2.1.lt,aB h.2.2 f3⟩
theorem aaA (k:List Int)(hk:k.length=8)(sk:bN k=false)(w:World):Calls prog 106 #[.agg (aD k)] w (rG w (ay 9) 2):=by
 have L0:=Zd (nI w 26 58 k (ay 9))
 rw[J7]at L0
 have hbd:=ahj
 have SA:=Zd (iM k hk)
 rw[sk]at SA
 go_enter func106,ntmps106
 go_wp2_with (refine lA L0.out.1 (by rw[hk];exact aW) ?_)
 refine(SA.out _).mono ?_
 rintro e w1 ⟨rfl,g1⟩
 have BB:=Zd (L0.out.2.1.aH g1)
 have GM:=Zd (aB L0.out.2.2 g1)
 clear g1 SA
 go_wp2_with (first|refine sA (ay 9) BB.out rfl (by rw[au];exact dz) ?_)
 have PU:=bB (rs':=ay 9) BB.out rfl
 have eO:=lS PU.1 (by rw[au];exact dz)
 have GF:=Zd (aG GM.out PU.2 gA)
 refine bodyPost_ret (v:=.tuple #[.agg (aD (ay 9)),.int .i64 2]) ?_ rfl ⟨rfl,GF.out⟩
 simp[results,results106,asAddr,Act.put,eO]
theorem V5 (k:List Int)(hk:k.length=8)(sk:bN k=true)(w:World):Calls prog 106 #[.agg (aD k)] w (rG w (qL k) (yD k)):=by
 have L0:=Zd (nI w 26 58 k (ay 9))
 rw[J7]at L0
 have SA:=Zd (iM k hk)
 rw[sk]at SA
 have SK:=Zd (AJ hk sk)
 have EL:=Zs (qL k=fM 9 (Az (aC k))) (by simp[qL,sk])
 have EE:=Zs (yD k=0) (by simp[yD,sk])
 have IX:=Zd (fun j hj=>fQ k underlying26 j hj hk)
 clear sk
 go_enter func106,ntmps106
 go_wp2_with (refine lA L0.out.1 (by rw[hk];exact aW) ?_)
 refine(SA.out _).mono ?_
 rintro e w1 ⟨rfl,g1⟩
 have M1:=Zs (iD w w1 26 58 k (ay 9)) (iD.aH L0.out g1)
 have BN:=Zd (bO.new w1 58 (ay 9))
 rw[J7]at BN
 obtain⟨L,hL⟩:∃L,L=afu:=⟨_,rfl⟩
 have hl:L.length=9:=by subst hL;rfl
 have OA:=Zs (aD L=_) (by subst hL;exact QI)
 have MS:=Zd (V4 M1.out L hl)
 rw[J7]at MS
 have HL:=Zd hL
 clear g1 SA hL
 go_wp2_with (first|(refine og rfl 58 _ _ rfl _ (ay 9) L rfl (by rw[OA.out];rfl) BN.out (by rw[hl,au]) (by rw[au];exact dz) ?_;generalize bT _ w1.heap.size L=W0 at *)|refine lA MS.out.1 (by rw[hk];exact aW) ?_)
 rw[HL.out,QG]at MS
 generalize w1.heap.size=ba at *
 go_loopw [15] (fun i wr=>∃m:Nat,i=.int .i64 m∧m≤8∧Hid (Na w wr k ba (fM 9 (wU (aC k) m)))) (fun i _=>8-(intOf i).toNat)
 case atStart=>exact⟨0,rfl,Nat.zero_le _,MS.out⟩
 case round=>
  obtain⟨m,rfl,hm,hM⟩:=hrel
  clear MS
  by_cases vD:m<8
  ·have ix:=IX.out m gA
   obtain⟨q1,q2⟩:=SK.out m vD
   have hlen:=bQ 9 (wU (aC k) m)
   have GR:=Zd (KG (fM 9 (wU (aC k) m)) hlen (m+1) gA (aC k m) q1 q2 (ac2 ((vP (aC k) SK.out m gA).le (by decide)) (by decide) 9))
   rw[ac1 _ _ gA]at GR
   have EP:=Zs (fM 9 (gr (wU (aC k) m) (m+1) (aC k m))=fM 9 (wU (aC k) (m+1))) (rfl)
   rw[EP.out]at GR
   have ac5:=bQ 9 (wU (aC k) (m+1))
   have BA:=Zd hM.out.2.2.1
   obtain⟨A',hA'⟩:∃A',A'=fM 9 (wU (aC k) (m+1)):=⟨_,rfl⟩
   rw[←hA']at GR ac5
   have HA:=Zd hA'
   clear hA'
   generalize fM 9 (wU (aC k) m)=A at *
   generalize hq:aC k m=q at *
   clear hq
   rw[show((m+1:Nat):Int)=(m:Int)+1 from rfl]at GR
   go_wp2_with (refine lA BA.out (by rw[hlen];exact dz) ?_)
   refine(GR.out _).mono ?_
   rintro e w2 ⟨rfl,g2⟩
   have M2:=Zd (aaz hM.out g2)
   have B2:=Zd M2.out.2.2.1
   clear hM g2 GR
   go_wp2_with (refine sA A' B2.out (by rw[hlen,ac5]) (by rw[hlen];exact dz) ?_)
   have M3:=Zd (ac3 M2.out A' (by rw[hlen,ac5]))
   go_roundw
   case rel=>exact⟨m+1,by go_num,gA,by rw[←HA.out];exact M3.out⟩
   case measure=>simp[intOf];omega
  obtain rfl:m=8:=gA
  have hlen:=bQ 9 (wU (aC k) 8)
  have NA:=Zd (fun i hi=>dN 9 (wU (aC k) 8) i hi)
  have PB:=Zd (vP (aC k) SK.out 8 gA)
  have DN:=Zs (∀i,Az (aC k) i=(wU (aC k) 8 i+2048) / 4096) (fun i=>rfl)
  have BA:=Zd hM.out.2.2.1
  generalize Az (aC k)=dn at *
  generalize wU (aC k) 8=pk at *
  generalize hA:fM 9 pk=A at *
  clear hA
  have IX:=Zd (fun j hj=>fQ A underlying58 j hj hlen)
  go_wp2_with (refine lA BA.out (by rw[hlen];exact dz) ?_)
  go_loopw [26] (fun i wr=>∃(m:Nat) (rs:List Int),i=.int .i64 m∧m≤9∧Hid (jh 9 dn m rs)∧Hid (Na w wr k ba rs)) (fun i _=>9-(intOf i).toNat)
  case atStart=>exact⟨0,A,rfl,Nat.zero_le _,⟨hlen,fun j hj=>gA⟩,hM.out⟩
  case round=>
   obtain⟨m,rs,rfl,hm',hF,hM'⟩:=hrel
   clear hM
   by_cases hm9:m<9
   ·have ix:=IX.out m gA
    rw[NA.out m hm9]at ix
    obtain⟨b1,b2⟩:=PB.out m
    have R:=Zd (aac (pk m) gA gA)
    rw[←DN.out m]at R
    have hlr:rs.length=9:=hF.out.1
    have NF:=Zd (eP hF.out hm9)
    have NM:=Zd (ac4 hM'.out m (dn m))
    have cd:=hM'.out.2.2.1.cell m gA
    have fd:=hM'.out.2.2.1.free m
    clear hF hM'
    generalize dn m=z at *
    generalize pk m=x at *
    generalize aC rs m=y' at *
    have i1:(m:Int)<9:=gA
    go_wp2_with fail
    refine(R.out _).mono ?_
    rintro e w3 ⟨rfl,rfl⟩
    clear R
    go_wp2_with fail
    go_roundw
    case rel=>exact⟨m+1,_,by go_num,gA,NF.out,NM.out⟩
    case measure=>simp[intOf];omega
   obtain rfl:m=9:=gA
   have hlr:rs.length=9:=hF.out.1
   have ER:=Zs (rs=fM 9 dn) (fB hF.out)
   have BA:=Zd hM'.out.2.2.1
   have BB:=Zd hM'.out.2.1
   have GM:=Zd hM'.out.2.2.2.2
   clear hF hM'
   go_wp2_with (first|refine lA BA.out (by rw[hlr];exact dz) ?_|refine sA rs BB.out (by rw[hlr,au]) (by rw[au];exact dz) ?_)
   have PU:=bB (rs':=rs) BB.out (by rw[hlr,au])
   have eO:=lS PU.1 (by rw[hlr];exact dz)
   have GF:=Zd (aG GM.out PU.2 gA)
   refine bodyPost_ret (v:=.tuple #[.agg (aD rs),.int .i64 0]) ?_ rfl ?_
   ·simp[results,results106,asAddr,Act.put,eO]
   rw[EL.out,EE.out,←ER.out];exact⟨rfl,GF.out⟩
theorem V7 (k:List Int)(hk:k.length=8)(w:World):Calls prog 106 #[.agg (aD k)] w (rG w (qL k) (yD k)):=by
 rcases sk:bN k with _|_
 ·rw[show qL k=ay 9 by simp[qL,sk],show yD k=2 by simp[yD,sk]]
  exact aaA k hk sk w
 exact V5 k hk sk w
theorem sP (x a b:Int)(w:World):Calls prog 179 #[.int .i64 x,.int .i64 a,.int .i64 b] w (mO w (.bool (decide (a≤x∧x≤b)))):=by
 by_cases h1:a≤x
 ·by_cases h2:x≤b
  ·rw[decide_eq_true (show a≤x∧x≤b from⟨h1,h2⟩)]
   go_enter func179,ntmps179
   go_wp2_with fail
   go_ret
   exact⟨rfl,rfl⟩
  rw[decide_eq_false (show ¬(a≤x∧x≤b)from fun h=>h2 h.2)]
  go_enter func179,ntmps179
  go_wp2_with fail
  go_ret
  exact⟨rfl,rfl⟩
 rw[decide_eq_false (show ¬(a≤x∧x≤b)from fun h=>h1 h.1)]
 go_enter func179,ntmps179
 go_wp2_with fail
 go_ret
 exact⟨rfl,rfl⟩
theorem kY (v:Value)(l:List Int)(w:World)(h:aS w v l)(hl:l.length≤1000000000000000000) :
 Calls prog 174 #[v] w (mO w (.bool (aL l))):=by
 obtain⟨ad,c,rfl,hc,bH⟩:=h
 have Y:=Zd (fun(hh:∀i,i<l.length→-32768≤aC l i∧aC l i≤32767)=>(show mO w (.bool (aL l)) (.returned (.bool true)) w from⟨by rw[(aV l).2 hh],rfl⟩))
 have N:=Zd (fun i (hi':i<l.length) (hh:¬(-32768≤aC l i∧aC l i≤32767))=>(show mO w (.bool (aL l)) (.returned (.bool false)) w from⟨by
  rcases hb:aL l with _|_
  ·rfl
  exact absurd ((aV l).1 hb i hi') hh,rfl⟩))
 generalize mO w (.bool (aL l))=T at *
 go_enter func174,ntmps174
 go_wp2_with fail
 go_loop [7] (fun i=>∃k:Nat,i=.int .i64 k∧k≤l.length∧Hid (∀i,i<k→-32768≤aC l i∧aC l i≤32767)) (fun i=>l.length-(intOf i).toNat)
 case atStart=>exact⟨0,rfl,Nat.zero_le _,fun i hi=>gA⟩
 case round=>
  obtain⟨k,rfl,hk,hG⟩:=hrel
  by_cases jS:k<l.length
  ·obtain⟨a,rfl,hv⟩:=bH gA
   have hck:=hv k jS
   have NK:=Zd (N.out k jS)
   have GK:=Zd (fun(hh:-32768≤aC l k∧aC l k≤32767)=>(show ∀i,i<k+1→-32768≤aC l i∧aC l i≤32767 from fun i hi=>by
    rcases Nat.lt_or_ge i k with g|g
    ·exact hG.out i g
    obtain rfl:i=k:=gA
    exact hh))
   clear bH hv hG
   generalize aC l k=z at *
   have kl1:(k:Int)<l.length:=gA
   have ST:=Zd (sP z (-32768) 32767 w)
   by_cases hz:-32768≤z∧z≤32767
   ·have F:=Zd (GK.out hz)
    rw[decide_eq_true hz]at ST
    clear hz
    go_wp2_with fail
    refine ST.out.mono ?_
    rintro e w1 ⟨rfl,rfl⟩
    clear ST
    go_wp2_with fail
    go_round
    case rel=>exact⟨k+1,by go_num,gA,F.out⟩
    case measure=>simp[intOf];omega
   have F:=Zd (NK.out hz)
   rw[decide_eq_false hz]at ST
   clear hz
   go_wp2_with fail
   refine ST.out.mono ?_
   rintro e w1 ⟨rfl,rfl⟩
   clear ST
   go_wp2_with fail
   exact F.out
  obtain rfl:k=l.length:=gA
  have F:=Zd (Y.out hG.out)
  clear bH hG
  go_wp2_with fail
  exact F.out
theorem KJ (a b:List Int)(n:Nat):fE a b (n+1)=fE a b n+aC a n*aC b n:=rfl
theorem wo (v u:Value)(a b:List Int)(w:World)(ha:aS w v a)(hb:aS w u b)(hl:a.length≤b.length)(hn:a.length≤100)(ra:aL a=true)(rb:aL b=true) :
 Calls prog 210 #[v,u] w (mO w (.int .i64 (fE a b a.length))):=by
 have F:=Zs (mO w (.int .i64 (fE a b a.length)) (.returned (.int .i64 (fE a b a.length))) w) (⟨rfl,rfl⟩)
 have DB:=Zd (mq a b ra rb)
 have RA:=Zd (jE a (-32768) 32767 gA gA ((aV a).1 ra))
 have RB:=Zd (jE b (-32768) 32767 gA gA ((aV b).1 rb))
 obtain⟨ad,c,rfl,hc,qZ⟩:=ha
 obtain⟨bd,d,rfl,hd,qc⟩:=hb
 have VA:=Zd qZ
 have VB:=Zd qc
 clear qZ qc ra rb
 generalize mO w (.int .i64 (fE a b a.length))=T at *
 go_enter func210,ntmps210
 go_wp2_with fail
 go_loop [5,10] (fun s i=>∃m:Nat,i=.int .i64 m∧s=.int .i64 (fE a b m)∧m≤a.length) (fun _ i=>a.length-(intOf i).toNat)
 case atStart=>exact⟨0,rfl,rfl,Nat.zero_le _⟩
 case round=>
  obtain⟨m,rfl,rfl,hm⟩:=hrel
  by_cases hml:m<a.length
  ·obtain⟨pa,rfl,ca⟩:=VA.out gA
   obtain⟨pb,rfl,cb⟩:=VB.out gA
   have cx:=ca m hml
   have cy:=cb m gA
   obtain⟨x1,x2⟩:=RA.out m
   obtain⟨y1,y2⟩:=RB.out m
   have pq:=pK _ _ x1 x2 y1 y2
   have dd:=DB.out m
   have ST:=KJ a b m
   have i1:(m:Int)<a.length:=gA
   have i2:(m:Int)<b.length:=gA
   have HS:=Zd ST
   clear ca cb ST
   obtain⟨p1,p2⟩:=pq
   obtain⟨d1,d2⟩:=dd
   have d3:-107374182400≤fE a b m:=gA
   have d4:fE a b m≤107374182400:=gA
   clear d1 d2
   generalize fE a b m=s at *
   generalize aC a m=x at *
   generalize aC b m=y at *
   go_wp2_with fail
   go_round
   case rel=>exact⟨m+1,by go_num,by rw[HS.out],gA⟩
   case measure=>simp[intOf];omega
  obtain rfl:m=a.length:=gA
  generalize fE a b a.length=s at *
  go_wp2_with fail
  exact F.out
theorem F8 {w:World}{b base:Nat}{rs:List Int}(h:bO w b 3 rs)(hb:base≤b)(hl:rs.length≤35184372088832):gP base w (.slice (some ⟨b,0,none⟩) rs.length rs.length) rs:=
 ⟨by simp,.inr ⟨b,rs.length,aD rs,rfl,hb,h,Nat.le_refl _,by unfold maxLen;omega,by simp[aD],by simp[aD,List.take_of_length_le]⟩⟩
theorem afv:(prog.info? 27).map (·.size)=some 80:=by kernel_rfl
theorem afw (b J:Nat)(hJ:J≤79)(u:World):Sem.run prog (Instr.sliceAt 27 (.pointer (some ⟨b,0,none⟩)) (some (.int .i64 (J:Int))) none none) u=.ok (.slice (some ⟨b,J,none⟩) (80-J) (80-J)) u:=by
 have e:prog.arrayLen 27=80:=by kernel_rfl
 obtain⟨i0,hi,hz0,hz1,hz2⟩:=info_parts nE
 rw[run_sliceAt_array_l (P:=prog) u 27 _ (by kernel_rfl) .i64 J gA gA,e]
 simp[go_sem,slicedAt]
 omega
theorem iD.set2 {w wr:World}{T1 T2:TypeId}{a b:List Int}(h:iD w wr T1 T2 a b)(k:Nat)(z:Int):iD w (wr.setCell ⟨w.heap.size+1,k,none⟩ (.int .i64 z)) T1 T2 a (b.set k z):=
 ⟨h.1.aJ (aF wr ⟨w.heap.size+1,k,none⟩ (.int .i64 z)) (by simp),h.2.1.set k z,aG h.2.2 (aF wr ⟨w.heap.size+1,k,none⟩ (.int .i64 z)) (by simp)⟩
theorem ac6 (m L:Nat):(m:Int).tmod (L:Int)=((m % L:Nat):Int):=by
 rw[Int.tmod_eq_emod_of_nonneg gA];exact(Int.natCast_emod m L).symm
theorem rX (h:List Int)(hh:h.length=80)(eH:Int)(w:World) :
 Calls prog 114 #[.agg (aD h),.int .i64 eH] w (fO w (mJ h eH) (AU eH)):=by
 have WI:=Zd (fun w'=>sP eH 20 79 w')
 have G0:=Zd (ak w (.cells (aD h) 27) none)
 by_cases C_:20≤eH∧eH≤79
 ·rw[decide_eq_true C_]at WI
  obtain⟨L,rfl⟩:∃L:Nat,eH=(L:Int):=⟨eH.toNat,gA⟩
  obtain⟨e1,e2⟩:=qO h L gA gA
  rw[e1,e2]
  obtain⟨l1,l2⟩:=C_
  have M0:=Zs (iD w ((w.alloc (.cells (aD h) 27)).alloc (.cells (aD (ay 40)) 3)) 27 3 h (ay 40)) (nI w 27 3 h (ay 40))
  have tZ:=afw w.heap.size (80-L) gA
  have hJ:(80:Int)-(L:Int)=((80-L:Nat):Int):=gA
  have hJ2:80-(80-L)=L:=gA
  rw[hJ2]at tZ
  have jg:=fZ 40 gA
  rw[show((40:Nat):Int)=40 from rfl]at jg
  have BJ:=Zs (∀i,80-L+i=(80-L)+i) (fun _=>rfl)
  clear e1 e2
  generalize hj:80-L=J at *
  have HJ:=Zd hj
  have jb:J+L=80:=gA
  clear hj hJ2
  go_enter func114,ntmps114
  go_wp2_with fail
  refine(WI.out _).mono ?_
  rintro e w1 ⟨rfl,rfl⟩
  clear WI
  go_wp2_with fail
  clear jg tZ
  generalize (w.alloc (.cells (aD h) 27)).alloc _=W0 at *
  go_loopw [18] (fun i wr=>∃(m:Nat) (rs:List Int),i=.int .i64 m∧m≤40∧Hid (jh 40 (yG h L) m rs)∧Hid (iD w wr 27 3 h rs)) (fun i _=>40-(intOf i).toNat)
  case atStart=>exact⟨0,ay 40,rfl,Nat.zero_le _,gZ 40 _,M0.out⟩
  case round=>
   obtain⟨m,rs,rfl,hm,hF,hM⟩:=hrel
   clear M0
   by_cases kP:m<40
   ·have hlen:rs.length=40:=hF.out.1
    have hq:m % L<L:=Nat.mod_lt m gA
    have cx:=hM.out.1.cell (J+m % L) gA
    rw[show aC h (J+m % L)=yG h L m by unfold yG;rw[HJ.out]]at cx
    have cd:=hM.out.2.1.cell m gA
    have fd:=hM.out.2.1.free m
    have NF:=Zd (eP hF.out kP)
    have NM:=Zd (hM.out.set2 m (yG h L m))
    have tm:=ac6 m L
    have i1:(m:Int)<40:=gA
    have i2:¬(L:Int)=0:=gA
    have i3:((m % L:Nat):Int)<L:=gA
    clear hF hM hlen
    generalize yG h L m=z at *
    generalize aC rs m=q at *
    generalize m % L=M at *
    go_wp2_with fail
    go_roundw
    case rel=>exact⟨m+1,_,by go_num,gA,NF.out,NM.out⟩
    case measure=>simp[intOf];omega
   obtain rfl:m=40:=gA
   have EL:=Zs (rs=jV h L) (fB hF.out)
   have hlen:rs.length=40:=hF.out.1
   have OF:=F8 (base:=w.heap.size) hM.out.2.1 gA gA
   rw[hlen]at OF
   have GF:=Zd hM.out.2.2
   have OO:=Zd OF
   clear hF hM OF
   go_wp2_with fail
   go_ret2
   rw[EL.out]at OO
   exact⟨_,rfl,OO.out,GF.out⟩
 rw[show mJ h eH=[]from if_neg C_,show AU eH=2 from if_neg C_]
 rw[decide_eq_false C_]at WI
 clear C_
 go_enter func114,ntmps114
 go_wp2_with fail
 refine(WI.out _).mono ?_
 rintro e w1 ⟨rfl,rfl⟩
 clear WI
 go_wp2_with fail
 go_ret2
 exact⟨_,rfl,bZ _ _,G0.out⟩
theorem Cr (n:Int)(w:World)(ht:TabA w 2 gains 8):Calls prog 121 #[.int .i64 n] w (mO w (.tuple #[.int .i64 (Aq n),.int .i64 (gaE n)])):=by
 have WI:=Zd (sP n 0 7 w)
 by_cases h:0≤n∧n≤7
 ·rw[decide_eq_true h]at WI
  rw[show Aq n=iR n.toNat from if_pos h,show gaE n=0 from if_pos h]
  obtain⟨k,rfl⟩:∃k:Nat,n=(k:Int):=⟨n.toNat,gA⟩
  rw[Int.toNat_natCast]
  have ck:=ht k gA
  rw[show gains.getD k 0=iR k from rfl]at ck
  have i1:(k:Int)<8:=gA
  clear ht h
  generalize iR k=z at *
  go_enter func121,ntmps121
  go_wp2_with fail
  refine WI.out.mono ?_
  rintro e w1 ⟨rfl,rfl⟩
  clear WI
  go_wp2_with fail
  go_ret2
  exact⟨rfl,rfl⟩
 rw[decide_eq_false h]at WI
 rw[show Aq n=0 from if_neg h,show gaE n=2 from if_neg h]
 clear ht h
 go_enter func121,ntmps121
 go_wp2_with fail
 refine WI.out.mono ?_
 rintro e w1 ⟨rfl,rfl⟩
 clear WI
 go_wp2_with fail
 go_ret2
 exact⟨rfl,rfl⟩
theorem afx (c e:Int)(m:Nat)(h8:m+1<8)(h:(iR (m+1)+iR m)*e<32768*c):Ut c e (m+1)=m+1:=if_pos ⟨h8,gA⟩
theorem ahM (c e:Int)(m:Nat)(h:¬(iR (m+1)+iR m)*e<32768*c):Ut c e (m+1)=Ut c e m:=if_neg (fun x=>h (by have:=x.2;omega))
theorem QJ (c e:Int)(w:World)(ht:TabA w 2 gains 8)(c0:0<c)(c9:c≤9223372036854775807)(e0:0<e)(e9:e≤9223372036854775807) :
 Calls prog 113 #[.int .i64 c,.int .i64 e] w (qQ w (.int .i64 (Ut (iT c) (iT e) 7:Int))):=by
 have HT:=Zd ht
 have e1:min c 1099511627776=iT c:=by unfold iT;split<;>omega
 have e2:min e 1099511627776=iT e:=by unfold iT;split<;>omega
 have e3:(if 1099511627776<c then 1099511627776 else c)=iT c:=rfl
 have e4:(if 1099511627776<e then 1099511627776 else e)=iT e:=rfl
 obtain⟨b1,b2⟩:=zo c c0
 obtain⟨b3,b4⟩:=zo e e0
 clear ht
 go_enter func113,ntmps113
 go_upto_region 4 with fail
 clear e1 e2 e3 e4
 generalize iT c=C at *
 generalize iT e=E at *
 clear c0 c9 e0 e9
 go_wp2_with fail
 go_loopw [5,6] (fun s i wr=>∃m:Nat,i=.int .i64 ((m+1:Nat):Int)∧s=.int .i64 (Ut C E m:Int)∧m≤7∧Hid (dM w wr)) (fun _ i _=>9-(intOf i).toNat)
 case atStart=>exact⟨0,rfl,rfl,gA,aQ _ _⟩
 case round=>
  obtain⟨m,rfl,rfl,hm,hG⟩:=hrel
  by_cases hm7:m<7
  ·have tw:=gF HT.out hG.out
   have c1:=tw (m+1) gA
   have c2:=tw m gA
   rw[show gains.getD (m+1) 0=iR (m+1)from rfl]at c1
   rw[show gains.getD m 0=iR m from rfl]at c2
   have NY:=Zd (afx C E m gA)
   have NN:=Zd (ahM C E m)
   obtain⟨g1,g2⟩:=tK (m+1)
   obtain⟨g3,g4⟩:=tK m
   clear tw
   generalize Ut C E m=s at *
   generalize iR (m+1)=x at *
   generalize iR m=y at *
   have q1:0≤(x+y)*E:=Int.mul_nonneg gA gA
   have q2:(x+y)*E≤36044*1099511627776:=Int.mul_le_mul gA gA gA gA
   have i1:((m+1:Nat):Int)<8:=gA
   have i2:((m+1:Nat):Int)-1=(m:Int):=gA
   have i3:(m:Int)<8:=gA
   have w1:wrap64 (32768*C)=32768*C:=by simp only[wrap64];omega
   have w2:wrap64 ((x+y)*E)=(x+y)*E:=by simp only[wrap64];omega
   generalize hJ:m+1=J at *
   by_cases hd:(x+y)*E<32768*C
   ·have HEN:=Zd (NY.out hd)
    go_wp2_with fail
    go_big_quiet (fail)
    go_wp2_with fail
    go_roundw
    case rel=>exact⟨J,by go_num,by rw[HEN.out],gA,bD hG.out (by first|exact dR _ _ none|exact bW (aQ _ none))⟩
    case measure=>simp[intOf];omega
   have HEN:=Zd (NN.out hd)
   have hd':32768*C≤(x+y)*E:=gA
   go_wp2_with fail
   go_big_quiet (fail)
   go_wp2_with fail
   go_roundw
   case rel=>exact⟨J,by go_num,by rw[HEN.out],gA,bD hG.out (by first|exact dR _ _ none|exact bW (aQ _ none))⟩
   case measure=>simp[intOf];omega
  obtain rfl:m=7:=gA
  rw[show((7+1:Nat):Int)=8 from rfl]
  generalize Ut C E 7=s at *
  go_wp2_with fail
  go_ret
  exact⟨rfl,hG.out⟩
theorem QK (c e:Int)(w:World)(ht:TabA w 2 gains 8)(c9:c≤9223372036854775807)(e9:e≤9223372036854775807) :
 Calls prog 113 #[.int .i64 c,.int .i64 e] w (qQ w (.int .i64 (Ym c e))):=by
 by_cases hc:c≤0
 ·rw[show Ym c e=0 from if_pos (.inl hc)]
  clear ht
  go_enter func113,ntmps113
  go_wp2_with fail
  go_ret
  exact⟨rfl,aQ _ _⟩
 by_cases he:e≤0
 ·rw[show Ym c e=0 from if_pos (.inr he)]
  clear ht
  go_enter func113,ntmps113
  go_wp2_with fail
  go_ret
  exact⟨rfl,aQ _ _⟩
 rw[show Ym c e=(Ut (iT c) (iT e) 7:Int)from if_neg (fun x=>x.elim hc he)]
 exact QJ c e w ht gA c9 gA e9
theorem Y4 {w:World}{base:Nat}{v vb:Value}{A B:List Int}(ha:gP base w v A)(hb:aS w vb B)(hB:0<B.length)(hl:(A.length+B.length)*8≤140737488355328)(qP:base≤w.heap.size)(ty:TypeId) :
 ∃v' w',Sem.run prog (Builtin.append_ #[32,32] ty #[v,vb]) w=.ok v' w'∧gP base w' v' (A++B)∧w.grownBy w' v.ownBlock∧∀g',v'.ownBlock=some g'→v.ownBlock=some g'∨w.heap.size≤g':=by
 obtain⟨i0,hi,hz0,hz1,hz2⟩:=info_parts nE
 obtain⟨ad,c,rfl,hc,hv⟩:=hb
 obtain⟨ab,rfl,bH⟩:=hv hB
 have hnews:∀j u,(B.map (Value.int .i64))[j]?=some u→w.cell? (ab.add j)=some u:=fun j u hu=>by
  have hj:j<B.length:=by
   by_cases hj:j<B.length
   ·exact hj
   rw[List.getElem?_eq_none (by simp;omega)]at hu;cases hu
  rw[bH j hj]
  simpa [aC,List.getD,hj] using hu
 have hone:∀u∈B.map (Value.int .i64),u.oneCell'=true:=fun u hu=>by
  obtain⟨x,_,rfl⟩:=List.mem_map.1 hu
  rfl
 obtain⟨v',w',hr,h2,h3,_⟩:=run_append_own (P:=prog) w base 32 ty 3 i0 (.int .i64 0) 1 8 underlying32 hi hz0 hz1 hz2 rfl (by decide) v A.length _ ha ab B.length c (B.map (Value.int .i64)) (by simp) hnews hone (by unfold maxLen;omega) gA qP
 refine⟨v',w',hr,by unfold gP;simpa using h2,h3,fun g' hg'=>?_⟩
 rcases ha.2 with⟨rfl,hA⟩|⟨g,cap,cur,rfl,hbg,hg,hnc,hcm,hcs,htake⟩
 ·have hA0:A=[]:=List.eq_nil_of_length_eq_zero hA
  subst hA0
  obtain⟨v2,w2,hr2,o2,_,_⟩:=run_append_own (P:=prog) w w.heap.size 32 ty 3 i0 (.int .i64 0) 1 8 underlying32 hi hz0 hz1 hz2 rfl (by decide) (.slice none 0 0) 0 [] (World.ownsRow_nil _ _ _ _) ab B.length c (B.map (Value.int .i64)) (by simp) hnews hone (by unfold maxLen;simp at hl;omega) (by simpa using hl) (Nat.le_refl _)
  rw[hr]at hr2
  cases hr2
  exact .inr (o2.lt g' hg').1
 by_cases hroom:A.length+B.length≤cap
 ·have hr2:=run_append_room (P:=prog) w 32 ty 3 i0 underlying32 hi g A.length cap cur hg ab B.length c (B.map (Value.int .i64)) (by rw[hz1];simp) hnews hone hroom (by rw[hz1,hcs];simp;omega)
  rw[hr]at hr2
  cases hr2
  exact .inl hg'
 have hr2:=run_append_grow (P:=prog) w 32 ty 3 i0 (.int .i64 0) underlying32 hi hz0 ⟨g,0,none⟩ A.length cap (A.map (Value.int .i64)) (by rw[hz1];simp) (World.ownsRow.cells ha (g:=g) rfl) ab B.length c (B.map (Value.int .i64)) (by rw[hz1];simp) hnews gA gA (by rw[hz2];exact growslice_fits gA gA)
 rw[hr]at hr2
 cases hr2
 simp[Value.ownBlock]at hg'
 exact .inr gA
theorem F9 {ops:Array Oper}{rest:List Oper}{o:Oper}{a:Act}{w:World}{Q:Exit→Act→World→Prop}(hgd:Region.wanted o (yielded ops a.tmps)=true)(s x:Operand)
 (hop:o.op=Op.call { callee:=Callee.builtin Builtin.append,args:=#[s,x],argTypes:=#[32,32] }) (base:Nat) (va vb:Value) (A B:List Int) (hs:a.eval s=va) (hx:a.eval x=vb) (ha:gP base w va A) (hb:aS w vb B) (hB:0<B.length)
 (hl:(A.length+B.length)*8≤140737488355328) (qP:base≤w.heap.size)
 (h:∀v' w',gP base w' v' (A++B)→w.grownBy w' va.ownBlock→(∀g',v'.ownBlock=some g'→va.ownBlock=some g'∨w.heap.size≤g')→wpList prog ops Q rest (a.put o.dst v') w'):wpList prog ops Q (o::rest) a w:=by
 obtain⟨v',w',hr,h1,h2,h3⟩:=Y4 ha hb hB hl qP o.type
 refine wpList_step fun K hK=>?_
 rw[if_pos hgd]
 unfold Oper.wp
 simp[execOp,hop,resolve,invoke,builtin,hs,hx,hr,Result.andThen]
 exact hK _ _ (h v' w' h1 h2 h3)
def Cu (base:Nat)(w:World)(vs:List (Value×List Int)):Prop:=
 (∀(i:Nat) (v:Value) (A:List Int),vs[i]?=some (v,A)→gP base w v A)∧∀(i j:Nat) (v:Value) (A:List Int) (u:Value) (B:List Int),vs[i]?=some (v,A)→vs[j]?=some (u,B)→i≠j→∀g,v.ownBlock=some g→u.ownBlock≠some g
theorem Cu.get {base:Nat}{w:World}{vs:List (Value×List Int)}(h:Cu base w vs)(i:Nat){v:Value}{A:List Int}(hi:vs[i]?=some (v,A)):gP base w v A:=h.1 i v A hi
theorem Cu.aH {base:Nat}{w w':World}{vs:List (Value×List Int)}(h:Cu base w vs)(g:w.grownBy w' none):Cu base w' vs:=⟨fun i v A hi=>(h.1 i v A hi).aH g,h.2⟩
theorem Cu.upd {base:Nat}{w w':World}{vs:List (Value×List Int)}(h:Cu base w vs)(i:Nat)(v v':Value)(A A':List Int)(hi:vs[i]?=some (v,A))(g:w.grownBy w' v.ownBlock)(o:gP base w' v' A')(n:∀g',v'.ownBlock=some g'→v.ownBlock=some g'∨w.heap.size≤g'):Cu base w' (vs.set i (v',A')):=by
 have hlen:i<vs.length:=by
  rcases Nat.lt_or_ge i vs.length with h|h
  ·exact h
  rw[List.getElem?_eq_none h]at hi;cases hi
 have get:∀(j:Nat) (u:Value) (B:List Int),(vs.set i (v',A'))[j]?=some (u,B)→(j=i∧u=v'∧B=A')∨(j≠i∧vs[j]?=some (u,B)):=fun j u B hj=>by
  by_cases e:j=i
  ·subst e
   rw[List.getElem?_set_self hlen]at hj
   cases hj
   exact .inl ⟨rfl,rfl,rfl⟩
  rw[List.getElem?_set_ne (Ne.symm e)]at hj
  exact .inr ⟨e,hj⟩
 have old:∀(j:Nat) (u:Value) (B:List Int),j≠i→vs[j]?=some (u,B)→gP base w' u B:=fun j u B hj hu=>by
  refine(h.1 j u B hu).kept g ?_
  rcases e:u.ownBlock with _|b
  ·exact .inl rfl
  right
  intro e'
  exact h.2 j i u B v A hu hi hj b e e'.symm
 have new:∀(j:Nat) (u:Value) (B:List Int),j≠i→vs[j]?=some (u,B)→∀g,u.ownBlock=some g→v'.ownBlock≠some g:=fun j u B hj hu k hk e=>by
  rcases n k e with q|q
  ·exact h.2 j i u B v A hu hi hj k hk q
  have:=((h.1 j u B hu).lt k hk).2
  omega
 refine⟨fun j u B hj=>?_,fun j k u B u2 B2 hj hk hjk g hg=>?_⟩
 ·rcases get j u B hj with⟨_,rfl,rfl⟩|⟨e,hu⟩
  ·exact o
  exact old j u B e hu
 rcases get j u B hj with⟨rfl,rfl,rfl⟩|⟨e,hu⟩<;>rcases get k u2 B2 hk with⟨rfl,rfl,rfl⟩|⟨e2,hu2⟩
 ·exact absurd rfl hjk
 ·intro q
  exact new k u2 B2 e2 hu2 g q hg
 ·exact new j u B e hu g hg
 exact h.2 j k u B u2 B2 hu hu2 hjk g hg
theorem Cu.put {base:Nat}{w w':World}{vs:List (Value×List Int)}(h:Cu base w vs)(i:Nat)(v':Value)(A':List Int)(hi:vs[i]?=some (.slice none 0 0,[]))(g:w.grownBy w' none)(o:gP base w' v' A')(n:∀g',v'.ownBlock=some g'→w.heap.size≤g'):Cu base w' (vs.set i (v',A')):=
 h.upd i _ v' [] A' hi g o (fun g' hg'=>.inr (n g' hg'))
theorem Cu.nil {base:Nat}{w:World}{n:Nat}:Cu base w (List.replicate n (.slice none 0 0,[])):=
 ⟨fun i v A hi=>by
  have:=(List.mem_replicate.1 (List.mem_of_getElem? hi)).2
  cases this
  exact bZ _ _,fun i j v A u B hi _ _ g hg=>by
  have:=(List.mem_replicate.1 (List.mem_of_getElem? hi)).2
  cases this
  cases hg⟩
theorem DW (u:World)(base:Nat)(hb:base≤u.heap.size)(l:List Int)(hl:l.length≤1000):gP base (u.alloc (.cells (aD l) 3)) (.slice (some ⟨u.heap.size,0,none⟩) l.length l.length) l:=
 ⟨by simp,.inr ⟨u.heap.size,l.length,aD l,rfl,hb,cK u _,Nat.le_refl _,by unfold maxLen;omega,by simp[aD],by simp[aD];exact List.take_of_length_le (by simp)⟩⟩
theorem QO {y:Nat→Option Bool}{o:Oper}{a:Act}{w:World}{K:Act→World→Prop}{Q:Exit→Act→World→Prop}{E:Prop}(hg:o.guard=none)(s x:Operand)
 (hop:o.op=Op.call { callee:=Callee.builtin Builtin.append,args:=#[s,x],argTypes:=#[32,32] }) (base:Nat) (va vb:Value) (A B:List Int) (hs:a.eval s=va) (hx:a.eval x=vb) (ha:gP base w va A) (hb:aS w vb B) (hB:0<B.length)
 (hl:(A.length+B.length)*8≤140737488355328) (qP:base≤w.heap.size)
 (h:∀v' w',gP base w' v' (A++B)→w.grownBy w' va.ownBlock→(∀g',v'.ownBlock=some g'→va.ownBlock=some g'∨w.heap.size≤g')→K (a.put o.dst v') w'):if Region.wanted o y=true then Oper.wp prog o a w K Q else E:=by
 have hw:Region.wanted o y=true:=by simp[Region.wanted,hg]
 rw[if_pos hw]
 obtain⟨v',w',hr,h1,h2,h3⟩:=Y4 ha hb hB hl qP o.type
 unfold Oper.wp
 simp[execOp,hop,resolve,invoke,builtin,hs,hx,hr,Result.andThen]
 exact h v' w' h1 h2 h3
theorem gP.ahO {base:Nat}{w:World}{v:Value}{A:List Int}{b:Nat}{T:TypeId}{rs:List Int}(h:gP base w v A)(hb:bO w b T rs)(hT:T≠3):∀g,v.ownBlock=some g→b≠g:=by
 intro g hg e
 rcases h.2 with⟨rfl,_⟩|⟨g',cap,cur,rfl,_,hh,_⟩
 ·cases hg
 simp[Value.ownBlock]at hg
 subst hg
 subst e
 unfold bO at hb
 rw[hh]at hb
 simp at hb
 exact hT hb.2.symm
theorem bO.DX {base:Nat}{w w':World}{v:Value}{A:List Int}{b:Nat}{T:TypeId}{rs:List Int}(hb:bO w b T rs)(h:gP base w v A)(hT:T≠3)(g:w.grownBy w' v.ownBlock):bO w' b T rs:=by
 rcases e:v.ownBlock with _|k
 ·rw[e]at g;exact hb.aH g
 rw[e]at g;exact hb.aJ g (h.ahO hb hT k e)
def Jl (L:List Int)(off:Nat)(M:List Int):List Int:=L.take off++M++L.drop (off+M.length)
theorem ac7 (L:List Int)(off:Nat)(M:List Int)(h:off+M.length≤L.length):(Jl L off M).length=L.length:=by simp[Jl];omega
theorem ac8 (L:List Int)(off:Nat)(M:List Int)(h:off+M.length≤L.length)(k:Nat):aC (Jl L off M) k=if k<off then aC L k else if k<off+M.length then aC M (k-off)else aC L k:=by
 unfold Jl aC
 have e:min off L.length=off:=gA
 by_cases h1:k<off
 ·rw[if_pos h1]
  simp[List.getD,List.getElem?_append,h1,e,show k<L.length by omega,show k<off+M.length by omega]
 rw[if_neg h1]
 by_cases h2:k<off+M.length
 ·rw[if_pos h2]
  simp[List.getD,List.getElem?_append,e,h1,h2]
  rw[if_pos gA]
 rw[if_neg h2]
 simp[List.getD,List.getElem?_append,e,h1,h2]
 rw[if_neg gA,show off+M.length+(k-off-M.length)=k by omega]
theorem Jm (w:World)(g:Nat)(cs:Array Value):w.grownBy (w.setRow g cs) (some g):=
 ⟨rfl,rfl,rfl,by simp,fun k _ h=>setRow_other w g k cs (fun e=>h (by rw[e]))⟩
theorem Nc (s x:Int)(w:World):Calls prog 217 #[.int .i64 s,.int .i64 x] w fun e w'=>e=.returned (.tuple #[.int .i64 (vS s),.int .i64 (Us s x)])∧w'=w:=by
 have e2:bits .and .i64 (wrap64 (wrap64 (s*31821)+13849)) 65535=vS s:=UH _ _ (by simp only[wrap64];omega)
 obtain⟨a1,a2⟩:=AR s
 obtain⟨p1,p2⟩:=abQ s x
 rw[show Us s x=(vS s-32768)*Iw x / 32768 from rfl]
 generalize vS s=t at *
 by_cases h1:x<0
 ·rw[show Iw x=0 from if_pos h1,Int.mul_zero,show(0:Int) / 32768=0 from rfl]
  clear p1 p2
  have m1:max x 0=0:=gA
  have m2:min (0:Int) 32767=0:=gA
  go_enter func217,ntmps217
  go_wp2_with fail
  go_ret2
  exact⟨rfl,rfl⟩
 by_cases h2:32767<x
 ·rw[show Iw x=32767 from by unfold Iw;rw[if_neg h1,if_pos h2]]at *
  have m1:max x 0=x:=gA
  have m2:min x 32767=32767:=gA
  go_enter func217,ntmps217
  go_wp2_with fail
  go_ret2
  exact⟨rfl,rfl⟩
 rw[show Iw x=x from by unfold Iw;rw[if_neg h1,if_neg h2]]at *
 have m1:max x 0=x:=gA
 have m2:min x 32767=x:=gA
 have w1:wrap64 ((t-32768)*x)=(t-32768)*x:=by simp only[wrap64];omega
 go_enter func217,ntmps217
 go_wp2_with fail
 go_ret2
 exact⟨rfl,rfl⟩
section
variable {P:Program} {ops:Array Oper} {Q:Exit→Act→World→Prop} {md:Region.Mode} {S:World→Prop} {g:Nat}
theorem Nf {i:Nat}{oi:Oper}{v:Value}(hi:ops[i]?=some oi)(hsel:∀(j:Nat) (o:Oper) cs b,ops[j]?=some o→o.op≠.select cs b)
 (hQ:∀c a w,Q (.panic c) (a.put oi.dst v) w→Q (.panic c) a w) (hgi:g≠i) (fuel:Nat) :
 ∀(listed:Array Bool) (a:Act) (w:World),Alone md ops i oi listed→i∈Region.ready md ops listed→YieldsIf P ops (fun _=>True) oi v a→(listed.getD g false=false→S w)→
  jD P md ops Q S g fuel (listed.setIfInBounds i true) (a.put oi.dst v) w→jD P md ops Q S g (fuel+1) listed a w:=by
 have here:∀(listed:Array Bool) (w:World),(listed.getD g false=false→S w)→((listed.setIfInBounds i true).getD g false=false→S w):=fun listed w h e=>h (by rw[getD_set_ne false (Ne.symm hgi)]at e;exact e)
 induction fuel with
 | zero=>
  intro listed a w _ hr hy hS H
  constructor
  ·intro h0;rw[h0]at hr;cases hr
  intro j hj
  rcases Nat.decEq j i with hji|rfl
  ·have hnone:=ready_mono hj hji
   rw[H.1]at hnone;cases hnone
  exact hy.wpOp hi trivial ⟨here _ _ hS,H⟩
 | succ fuel ih=>
  intro listed a w hal hr hy hS H
  have Zz:=getD_both (mem_ready.1 hr).1
  constructor
  ·intro h0;rw[h0]at hr;cases hr
  intro j hj
  rcases Nat.decEq j i with hji|rfl
  ·obtain⟨hjun,oj,hoj,-⟩:=mem_ready.1 hj
   have step:=wpOp_putIf hoj (hal j oj hoj hji hjun (Ea Zz hj hoj)) (fun cs b=>hsel i oi cs b hi) (fun cs b=>hsel j oj cs b hoj) hQ hy (H.2 j (ready_mono hj hji))
   refine wpOp_mono (fun a' w' k=>?_) step
   obtain⟨ky,ks,kw⟩:=k
   rw[Array.setIfInBounds_comm _ _ (Ne.symm hji)]at kw ks
   have ks':(listed.setIfInBounds j true).getD g false=false→S w':=fun e=>ks (by rw[getD_set_ne false (Ne.symm hgi)];exact e)
   exact⟨ks',ih _ a' w' hal.more (ready_mono hr (Ne.symm hji)) ky ks' kw⟩
  exact hy.wpOp hi trivial ⟨here _ _ hS,H⟩
theorem kC {i:Nat}{oi:Oper}{v:Value}{fuel:Nat}{listed:Array Bool}{a:Act}{w:World}(hi:ops[i]?=some oi)
 (hst:(Region.noSelect ops&&Region.free md ops listed i&&(Region.ready md ops listed).contains i&&g != i)=true)
 (aK:Closed md ops listed)
 (hQ:∀c a w,Q (.panic c) (a.put oi.dst v) w→Q (.panic c) a w) (hy:YieldsIf P ops (fun _=>True) oi v a) (hS:S w)
 (h:Closed md ops (listed.setIfInBounds i true)→jD P md ops Q S g fuel (listed.setIfInBounds i true) (a.put oi.dst v) w):jD P md ops Q S g (fuel+1) listed a w:=by
 simp only[Bool.and_eq_true,bne_iff_ne]at hst
 obtain⟨⟨⟨h1,h2⟩,h3⟩,h5⟩:=hst
 have h3':i∈Region.ready md ops listed:=by simpa using h3
 exact Nf hi (Region.noSelect_spec h1) hQ h5 fuel listed a w (Region.free_spec hi h2) h3' hy (fun _=>hS) (h (aK.set h3'))
end
theorem ade (u:World):Sem.run prog (Instr.build 44 #[]) u=.ok (.agg (aD (ay 4))) u:=run_build u 44 #[] (aD (ay 4)) (by kernel_rfl)
theorem jB:(prog.info? 44).map (·.size)=some 4:=by kernel_rfl
theorem jO (x a b:Int)(w:World):Calls prog 187 #[.int .i64 x,.int .i64 a,.int .i64 b] w (mO w (.bool (decide (a≤x∧x≤b)))):=by
 by_cases h1:a≤x
 ·by_cases h2:x≤b
  ·rw[decide_eq_true (show a≤x∧x≤b from⟨h1,h2⟩)]
   go_enter func187,ntmps187
   go_wp2_with fail
   go_ret
   exact⟨rfl,rfl⟩
  rw[decide_eq_false (show ¬(a≤x∧x≤b)from fun h=>h2 h.2)]
  go_enter func187,ntmps187
  go_wp2_with fail
  go_ret
  exact⟨rfl,rfl⟩
 rw[decide_eq_false (show ¬(a≤x∧x≤b)from fun h=>h1 h.1)]
 go_enter func187,ntmps187
 go_wp2_with fail
 go_ret
 exact⟨rfl,rfl⟩
theorem xK (t p:Int)(h1:0≤t)(h2:t≤3)(h3:0≤p)(h4:p≤9)(w:World):Calls prog 189 #[.int .i64 t,.int .i64 p] w (mO w (.int .i64 (t+4*p))):=by
 have F:=Zs (mO w (.int .i64 (t+4*p)) (.returned (.int .i64 (t+4*p))) w) (⟨rfl,rfl⟩)
 generalize mO w (.int .i64 (t+4*p))=T at *
 go_enter func189,ntmps189
 go_wp2_with fail
 exact F.out
theorem rZ (x:Int)(w:World):Calls prog 214 #[.int .i64 x] w (mO w (.int .i64 (sg x))):=by
 rcases oO x with⟨h,e⟩|⟨h,e⟩
 ·rw[e];clear e
  go_enter func214,ntmps214
  go_wp2_with fail
  go_ret
  exact⟨rfl,rfl⟩
 rw[e];clear e
 go_enter func214,ntmps214
 go_wp2_with fail
 go_ret
 exact⟨rfl,rfl⟩
theorem x9 (x:List Int)(hx:x.length=4)(w:World):Calls prog 188 #[.agg (aD x)] w (qQ w (.bool (f_ x))):=by
 have B0:=Zd (bO.new w 44 x)
 have G0:=Zd (ak w (.cells (aD x) 44) none)
 have Y:=Zd (fun(hh:∀i,i<4→0≤aC x i∧aC x i≤9)=>(show qQ w (.bool (f_ x)) (.returned (.bool true)) (w.alloc (.cells (aD x) 44))from⟨by rw[(iq x).2 (by rw[hx];exact hh)],G0.out⟩))
 have N:=Zd (fun i (hi':i<4) (hh:¬(0≤aC x i∧aC x i≤9))=>(show qQ w (.bool (f_ x)) (.returned (.bool false)) (w.alloc (.cells (aD x) 44))from⟨by
  rcases hb:f_ x with _|_
  ·rfl
  exact absurd ((iq x).1 hb i gA) hh,G0.out⟩))
 have IX:=Zd (fun(k:Nat) (hk:k<4)=>fQ x underlying44 k gA hx)
 generalize qQ w (.bool (f_ x))=T at *
 go_enter func188,ntmps188
 go_wp2_with (first|refine lA B0.out (by rw[hx];exact jB) ?_)
 generalize w.alloc (.cells (aD x) 44)=W0 at *
 go_loop [4,6] (fun _ i=>∃k:Nat,i=.int .i64 k∧k≤4∧Hid (∀i,i<k→0≤aC x i∧aC x i≤9)) (fun _ i=>4-(intOf i).toNat)
 case atStart=>exact⟨0,rfl,Nat.zero_le _,fun i hi=>gA⟩
 case round=>
  obtain⟨k,rfl,hk,hG⟩:=hrel
  by_cases hk4:k<4
  ·have uT:=IX.out k hk4
   have NK:=Zd (N.out k hk4)
   have GK:=Zd (fun(hh:0≤aC x k∧aC x k≤9)=>(show ∀i,i<k+1→0≤aC x i∧aC x i≤9 from fun i hi=>by
    rcases Nat.lt_or_ge i k with g|g
    ·exact hG.out i g
    obtain rfl:i=k:=gA
    exact hh))
   clear hG
   generalize aC x k=z at *
   have kl1:(k:Int)<4:=gA
   have ST:=Zd (jO z 0 9 W0)
   by_cases hz:0≤z∧z≤9
   ·have F:=Zd (GK.out hz)
    rw[decide_eq_true hz]at ST
    clear hz
    go_wp2_with fail
    refine ST.out.mono ?_
    rintro e w1 ⟨rfl,rfl⟩
    clear ST
    go_wp2_with fail
    go_round
    case rel=>exact⟨k+1,by go_num,gA,F.out⟩
    case measure=>simp[intOf];omega
   have F:=Zd (NK.out hz)
   rw[decide_eq_false hz]at ST
   clear hz
   go_wp2_with fail
   refine ST.out.mono ?_
   rintro e w1 ⟨rfl,rfl⟩
   clear ST
   go_wp2_with fail
   exact F.out
  obtain rfl:k=4:=gA
  have F:=Zd (Y.out hG.out)
  clear hG
  go_wp2_with fail
  exact F.out
theorem kZ (v:Value)(l:List Int)(w:World)(h:aS w v l)(hl:l.length≤1000000000000000000) :
 Calls prog 180 #[v] w (mO w (.bool (aL l))):=by
 obtain⟨ad,c,rfl,hc,bH⟩:=h
 have Y:=Zd (fun(hh:∀i,i<l.length→-32768≤aC l i∧aC l i≤32767)=>(show mO w (.bool (aL l)) (.returned (.bool true)) w from⟨by rw[(aV l).2 hh],rfl⟩))
 have N:=Zd (fun i (hi':i<l.length) (hh:¬(-32768≤aC l i∧aC l i≤32767))=>(show mO w (.bool (aL l)) (.returned (.bool false)) w from⟨by
  rcases hb:aL l with _|_
  ·rfl
  exact absurd ((aV l).1 hb i hi') hh,rfl⟩))
 generalize mO w (.bool (aL l))=T at *
 go_enter func180,ntmps180
 go_wp2_with fail
 go_loop [7] (fun i=>∃k:Nat,i=.int .i64 k∧k≤l.length∧Hid (∀i,i<k→-32768≤aC l i∧aC l i≤32767)) (fun i=>l.length-(intOf i).toNat)
 case atStart=>exact⟨0,rfl,Nat.zero_le _,fun i hi=>gA⟩
 case round=>
  obtain⟨k,rfl,hk,hG⟩:=hrel
  by_cases jS:k<l.length
  ·obtain⟨a,rfl,hv⟩:=bH gA
   have hck:=hv k jS
   have NK:=Zd (N.out k jS)
   have GK:=Zd (fun(hh:-32768≤aC l k∧aC l k≤32767)=>(show ∀i,i<k+1→-32768≤aC l i∧aC l i≤32767 from fun i hi=>by
    rcases Nat.lt_or_ge i k with g|g
    ·exact hG.out i g
    obtain rfl:i=k:=gA
    exact hh))
   clear bH hv hG
   generalize aC l k=z at *
   have kl1:(k:Int)<l.length:=gA
   have ST:=Zd (jO z (-32768) 32767 w)
   by_cases hz:-32768≤z∧z≤32767
   ·have F:=Zd (GK.out hz)
    rw[decide_eq_true hz]at ST
    clear hz
    go_wp2_with fail
    refine ST.out.mono ?_
    rintro e w1 ⟨rfl,rfl⟩
    clear ST
    go_wp2_with fail
    go_round
    case rel=>exact⟨k+1,by go_num,gA,F.out⟩
    case measure=>simp[intOf];omega
   have F:=Zd (NK.out hz)
   rw[decide_eq_false hz]at ST
   clear hz
   go_wp2_with fail
   refine ST.out.mono ?_
   rintro e w1 ⟨rfl,rfl⟩
   clear ST
   go_wp2_with fail
   exact F.out
  obtain rfl:k=l.length:=gA
  have F:=Zd (Y.out hG.out)
  clear bH hG
  go_wp2_with fail
  exact F.out
theorem Wn (a b:List Int)(n:Nat):fE a b (n+1)=fE a b n+aC a n*aC b n:=rfl
theorem Ga (v u:Value)(a b:List Int)(w:World)(ha:aS w v a)(hb:aS w u b)(hl:a.length≤b.length)(hn:a.length≤100)(ra:aL a=true)(rb:aL b=true) :
 Calls prog 181 #[v,u] w (mO w (.int .i64 (fE a b a.length))):=by
 have F:=Zs (mO w (.int .i64 (fE a b a.length)) (.returned (.int .i64 (fE a b a.length))) w) (⟨rfl,rfl⟩)
 have DB:=Zd (mq a b ra rb)
 have RA:=Zd (jE a (-32768) 32767 gA gA ((aV a).1 ra))
 have RB:=Zd (jE b (-32768) 32767 gA gA ((aV b).1 rb))
 obtain⟨ad,c,rfl,hc,qZ⟩:=ha
 obtain⟨bd,d,rfl,hd,qc⟩:=hb
 have VA:=Zd qZ
 have VB:=Zd qc
 clear qZ qc ra rb
 generalize mO w (.int .i64 (fE a b a.length))=T at *
 go_enter func181,ntmps181
 go_wp2_with fail
 go_loop [5,10] (fun s i=>∃m:Nat,i=.int .i64 m∧s=.int .i64 (fE a b m)∧m≤a.length) (fun _ i=>a.length-(intOf i).toNat)
 case atStart=>exact⟨0,rfl,rfl,Nat.zero_le _⟩
 case round=>
  obtain⟨m,rfl,rfl,hm⟩:=hrel
  by_cases hml:m<a.length
  ·obtain⟨pa,rfl,ca⟩:=VA.out gA
   obtain⟨pb,rfl,cb⟩:=VB.out gA
   have cx:=ca m hml
   have cy:=cb m gA
   obtain⟨x1,x2⟩:=RA.out m
   obtain⟨y1,y2⟩:=RB.out m
   have pq:=pK _ _ x1 x2 y1 y2
   have dd:=DB.out m
   have ST:=Wn a b m
   have i1:(m:Int)<a.length:=gA
   have i2:(m:Int)<b.length:=gA
   have HS:=Zd ST
   clear ca cb ST
   obtain⟨p1,p2⟩:=pq
   obtain⟨d1,d2⟩:=dd
   have d3:-107374182400≤fE a b m:=gA
   have d4:fE a b m≤107374182400:=gA
   clear d1 d2
   generalize fE a b m=s at *
   generalize aC a m=x at *
   generalize aC b m=y at *
   go_wp2_with fail
   go_round
   case rel=>exact⟨m+1,by go_num,by rw[HS.out],gA⟩
   case measure=>simp[intOf];omega
  obtain rfl:m=a.length:=gA
  generalize fE a b a.length=s at *
  go_wp2_with fail
  exact F.out
theorem aiK:∀q:Fin 16,bits BinOp.and IntKind.i64 (q.val:Int) 1=(q.val:Int) % 2:=by decide +kernel
theorem aaB (s:Int)(m:Nat)(h0:0≤s)(h1:s≤15):(s / 2^m % 2=1∧bits BinOp.and IntKind.i64 (s / 2^m) 1=1)∨(¬s / 2^m % 2=1∧bits BinOp.and IntKind.i64 (s / 2^m) 1=0):=by
 have hp:(1:Int)≤2^m:=Int.pow_pos gA
 have a1:0≤s / 2^m:=Int.ediv_nonneg h0 gA
 have a2:s / 2^m≤s:=Int.ediv_le_self _ h0
 generalize s / 2^m=q at *
 have:=aiK ⟨q.toNat,gA⟩
 simp only at this
 rw[show((q.toNat:Nat):Int)=q by omega]at this
 by_cases h:q % 2=1
 ·exact .inl ⟨h,by rw[this,h]⟩
 exact .inr ⟨h,by rw[this];omega⟩
theorem QW (x:List Int)(hx:x.length=4)(s z:Int)(h:¬((0≤s∧s≤15)∧(0≤z∧z≤32767)∧f_ x=true))(w:World) :
 Calls prog 118 #[.agg (aD x),.int .i64 s,.int .i64 z] w (fO w [] 2):=by
 have B0:=Zd (bO.new w 44 x)
 have G0:=Zd (ak w (.cells (aD x) 44) none)
 have PC:=Zd (x9 x hx)
 have WS:=Zd (jO s 0 15)
 have WZ:=Zd (jO z 0 32767)
 by_cases h1:0≤s∧s≤15
 ·rw[decide_eq_true h1]at WS
  by_cases h2:0≤z∧z≤32767
  ·have hg:f_ x=false:=by
    rcases hb:f_ x with _|_
    ·rfl
    exact absurd ⟨h1,h2,hb⟩ h
   rw[decide_eq_true h2]at WZ
   rw[hg]at PC
   clear h h1 h2 hg
   go_enter func118,ntmps118
   go_upto_region 1 with fail
   generalize w.alloc _=W1 at *
   go_wp2_with fail
   refine(WS.out W1).mono ?_
   rintro e w1 ⟨rfl,rfl⟩
   clear WS
   go_wp2_with fail
   refine(WZ.out w1).mono ?_
   rintro e w2 ⟨rfl,rfl⟩
   clear WZ
   go_wp2_with (first|refine eZ (by rfl) 44 _ rfl _ rfl _ B0.out _ underlying44 rfl (by rw[hx];exact jB) ?_)
   refine(PC.out w2).mono ?_
   rintro e w3 ⟨rfl,g3⟩
   have GF:=Zd (aB G0.out g3)
   clear PC g3
   go_wp2_with fail
   go_ret2
   exact⟨_,rfl,bZ _ _,GF.out⟩
  rw[decide_eq_false h2]at WZ
  clear h h1 h2 PC
  go_enter func118,ntmps118
  go_upto_region 1 with fail
  generalize w.alloc _=W1 at *
  go_wp2_with fail
  refine(WS.out W1).mono ?_
  rintro e w1 ⟨rfl,rfl⟩
  clear WS
  go_wp2_with fail
  refine(WZ.out w1).mono ?_
  rintro e w2 ⟨rfl,rfl⟩
  clear WZ
  go_wp2_with fail
  go_ret2
  exact⟨_,rfl,bZ _ _,G0.out⟩
 rw[decide_eq_false h1]at WS
 clear h h1 PC WZ
 go_enter func118,ntmps118
 go_upto_region 1 with fail
 generalize w.alloc _=W1 at *
 go_wp2_with fail
 refine(WS.out W1).mono ?_
 rintro e w1 ⟨rfl,rfl⟩
 clear WS
 go_wp2_with fail
 go_ret2
 exact⟨_,rfl,bZ _ _,G0.out⟩
theorem Ni (x:List Int)(hx:x.length=4)(s z:Int)(h:(0≤s∧s≤15)∧(0≤z∧z≤32767)∧f_ x=true)(w:World) :
 Calls prog 118 #[.agg (aD x),.int .i64 s,.int .i64 z] w (fO w (fM 40 (Mg x s z)) 0):=by
 have B0:=Zd (bO.new w 44 x)
 have G0:=Zd (ak w (.cells (aD x) 44) none)
 have PC:=Zd (x9 x hx)
 have WS:=Zd (jO s 0 15)
 have WZ:=Zd (jO z 0 32767)
 obtain⟨h1,h2,hg⟩:=h
 rw[decide_eq_true h1]at WS
 rw[decide_eq_true h2]at WZ
 rw[hg]at PC
 have jg:=fZ 40 gA
 rw[show((40:Nat):Int)=40 from rfl]at jg
 have HG:=Zd hg
 have HX:=Zd hx
 have IX:=Zd (fun(k:Nat) (hk:k<4)=>fQ x underlying44 k gA hx)
 obtain⟨s1,s2⟩:=h1
 obtain⟨z1,z2⟩:=h2
 clear hg
 go_enter func118,ntmps118
 go_upto_region 1 with fail
 generalize w.alloc _=W1 at *
 go_wp2_with fail
 refine(WS.out W1).mono ?_
 rintro e w1 ⟨rfl,rfl⟩
 clear WS
 go_wp2_with fail
 refine(WZ.out w1).mono ?_
 rintro e w2 ⟨rfl,rfl⟩
 clear WZ
 go_wp2_with (first|refine eZ (by rfl) 44 _ rfl _ rfl _ B0.out _ underlying44 rfl (by rw[hx];exact jB) ?_)
 refine(PC.out w2).mono ?_
 rintro e w3 ⟨rfl,g3⟩
 have ga:=ak w3 (.cells (aD (ay 40)) 3) none
 have M0:=Zs (bO (w3.alloc (.cells (aD (ay 40)) 3)) w3.heap.size 3 (ay 40)∧w.heap.size≤w3.heap.size∧w.grownBy (w3.alloc (.cells (aD (ay 40)) 3)) none) (⟨bO.new w3 _ _,Nat.le_trans G0.out.size g3.size,aB (aB G0.out g3) ga⟩)
 have BX:=Zd ((B0.out.aH g3).aH ga)
 clear PC g3 ga
 go_upto_region 4 with fail
 generalize w3.alloc _=W4 at *
 generalize w3.heap.size=B at *
 clear jg
 go_wp2_with (first|refine lA BX.out (by rw[hx];exact jB) ?_)
 go_loopw [27] (fun i wr=>∃(m:Nat) (rs:List Int),i=.int .i64 m∧m≤4∧Hid (Qe x s z m rs)∧Hid (bO wr B 3 rs∧w.heap.size≤B∧w.grownBy wr none)) (fun i _=>4-(intOf i).toNat)
 case atStart=>exact⟨0,ay 40,rfl,Nat.zero_le _,Qf x s z,M0.out⟩
 case round=>
  obtain⟨m,rs,rfl,hm,hF,hM⟩:=hrel
  clear M0
  by_cases hm4:m<4
  ·have uT:=IX.out m hm4
   have i1:(m:Int)<4:=gA
   have hPL:=Bc HG.out HX.out m hm4
   obtain⟨g1,g2⟩:=(iq x).1 HG.out m gA
   have AT:=Zd (xK (m:Int) (aC x m) gA gA g1 g2 wr)
   rw[show(m:Int)+4*aC x m=((iW x m:Nat):Int) by unfold iW;omega]at AT
   have NF:=Zd (Ve HG.out HX.out hm4 hF.out)
   have rl:=hF.out.1
   have cd:=hM.out.1.cell (iW x m) gA
   have fd:=hM.out.1.free (iW x m)
   have gs:=aF wr ⟨B,iW x m,none⟩ (.int .i64 (blV s z m))
   have NM:=Zs (bO (wr.setCell ⟨B,iW x m,none⟩ (.int .i64 (blV s z m))) B 3 (rs.set (iW x m) (blV s z m))∧w.heap.size≤B∧w.grownBy (wr.setCell ⟨B,iW x m,none⟩ (.int .i64 (blV s z m))) none) (⟨hM.out.1.set _ _,hM.out.2.1,aG hM.out.2.2 gs hM.out.2.1⟩)
   have QB:=Zd (aaB s m s1 s2)
   have EV:=Zs (blV s z m=if s / 2^m % 2=1 then z else -z) (rfl)
   have i2:((iW x m:Nat):Int)<40:=gA
   clear hF hM gs rl g1 g2
   generalize iW x m=P at *
   generalize aC x m=pl at *
   generalize aC rs P=q at *
   generalize blV s z m=V at *
   rcases QB.out with⟨hq,hb⟩|⟨hq,hb⟩
   ·have HV:=Zs (V=z) (by rw[EV.out,if_pos hq])
    clear hq QB
    go_wp2_with fail
    refine AT.out.mono ?_
    rintro e wy ⟨rfl,rfl⟩
    clear AT hb
    rw[HV.out]at NF NM
    go_wp2_with fail
    go_roundw
    case rel=>exact⟨m+1,_,by go_num,gA,NF.out,NM.out⟩
    case measure=>simp[intOf];omega
   have HV:=Zs (V=-z) (by rw[EV.out,if_neg hq])
   clear hq QB
   go_wp2_with fail
   refine AT.out.mono ?_
   rintro e wy ⟨rfl,rfl⟩
   clear AT hb
   rw[HV.out]at NF NM
   go_wp2_with fail
   go_roundw
   case rel=>exact⟨m+1,_,by go_num,gA,NF.out,NM.out⟩
   case measure=>simp[intOf];omega
  obtain rfl:m=4:=gA
  have rl:=hF.out.1
  have OF:=zx (base:=w.heap.size) hM.out.1 hM.out.2.1 gA
  rw[rl,aak hF.out]at OF
  have OO:=Zd OF
  have GF:=Zd hM.out.2.2
  clear hF hM rl OF
  rw[show((4:Nat):Int)=4 from rfl]
  go_wp2_with fail
  go_ret2
  exact⟨_,rfl,OO.out,GF.out⟩
theorem zT (x:List Int)(hx:x.length=4)(s z:Int)(w:World):Calls prog 118 #[.agg (aD x),.int .i64 s,.int .i64 z] w (fO w (Vd x s z) (Ux x s z)):=by
 by_cases h:(0≤s∧s≤15)∧(0≤z∧z≤32767)∧f_ x=true
 ·obtain⟨e1,e2⟩:=Dx h
  rw[e1,e2]
  exact Ni x hx s z h w
 obtain⟨e1,e2⟩:=Vf h
 rw[e1,e2]
 exact QW x hx s z h w
theorem aaC (t r:List Int):(¬(t.length=40∧r.length=40)∧Km t r=1∧Jb t r=[])∨((t.length=40∧r.length=40)∧aL t=false∧Km t r=2∧Jb t r=[])∨((t.length=40∧r.length=40)∧aL t=true∧aL r=false∧Km t r=2∧Jb t r=[])∨((t.length=40∧r.length=40)∧aL t=true∧aL r=true∧Km t r=0∧Jb t r=tgL t r):=by
 by_cases h:t.length=40∧r.length=40
 ·rcases ht:aL t with _|_
  ·exact .inr (.inl ⟨h,rfl,by unfold Km;rw[if_pos h,ht];rfl,by unfold Jb;rw[if_neg (by rw[ht];simp)]⟩)
  rcases hr:aL r with _|_
  ·exact .inr (.inr (.inl ⟨h,rfl,rfl,by unfold Km;rw[if_pos h,ht,hr];rfl,by unfold Jb;rw[if_neg (by rw[ht,hr];simp)]⟩))
  exact .inr (.inr (.inr ⟨h,rfl,rfl,by unfold Km;rw[if_pos h,ht,hr];rfl,by unfold Jb;rw[if_pos (by rw[ht,hr];exact⟨h.1,h.2,rfl⟩)]⟩))
 exact .inl ⟨h,if_neg h,by unfold Jb;rw[if_neg (fun x=>h ⟨x.1,x.2.1⟩)]⟩
theorem QX {t:List Int}(h:aL t=true)(n:Nat):aL (t.drop n)=true:=by
 rw[aV]
 intro i hi
 rw[zm]
 exact jE _ _ _ gA gA ((aV t).1 h) _
theorem Jq (vt vr:Value)(t r:List Int)(w:World)(ht:aS w vt t)(hr:aS w vr r)(hs:rR vt t)(hl:t.length≤1000000000000000000)(ni:r.length≤1000000000000000000) :
 Calls prog 116 #[vt,vr] w (fO w (Jb t r) (Km t r)):=by
 rcases aaC t r with⟨h,e1,e2⟩|⟨h,h1,e1,e2⟩|⟨h,h1,h2,e1,e2⟩|⟨h,h1,h2,e1,e2⟩
 ·rw[e1,e2]
  clear e1 e2 hs
  obtain⟨at',ct,rfl,_,_⟩:=ht
  obtain⟨ar,cr,rfl,_,_⟩:=hr
  generalize t.length=nt at *
  generalize r.length=nr at *
  by_cases q1:nt=40
  ·have b2:((nr:Int) != 40)=true:=by simp;omega
   subst q1
   clear h
   go_enter func116,ntmps116
   go_wp2_with fail
   go_ret2
   exact⟨_,rfl,bZ _ _,aQ _ _⟩
  have b1:((nt:Int) != 40)=true:=by simp;omega
  clear h q1
  go_enter func116,ntmps116
  go_wp2_with fail
  go_ret2
  exact⟨_,rfl,bZ _ _,aQ _ _⟩
 ·rw[e1,e2]
  have ST:=Zd (kZ vt t w ht hl)
  rw[h1]at ST
  clear e1 e2 hs h1
  obtain⟨at',ct,rfl,_,_⟩:=ht
  obtain⟨ar,cr,rfl,_,_⟩:=hr
  rw[h.1]at ST
  rw[h.1,h.2]
  clear h hl ni
  go_enter func116,ntmps116
  go_wp2_with fail
  refine ST.out.mono ?_
  rintro e w1 ⟨rfl,rfl⟩
  clear ST
  go_wp2_with fail
  go_ret2
  exact⟨_,rfl,bZ _ _,aQ _ _⟩
 ·rw[e1,e2]
  have ST:=Zd (kZ vt t w ht hl)
  have SR:=Zd (kZ vr r w hr ni)
  rw[h1]at ST
  rw[h2]at SR
  clear e1 e2 hs h1 h2
  obtain⟨at',ct,rfl,_,_⟩:=ht
  obtain⟨ar,cr,rfl,_,_⟩:=hr
  rw[h.1]at ST
  rw[h.2]at SR
  rw[h.1,h.2]
  clear h hl ni
  go_enter func116,ntmps116
  go_wp2_with fail
  refine ST.out.mono ?_
  rintro e w1 ⟨rfl,rfl⟩
  clear ST
  go_wp2_with fail
  refine SR.out.mono ?_
  rintro e w2 ⟨rfl,rfl⟩
  clear SR
  go_wp2_with fail
  go_ret2
  exact⟨_,rfl,bZ _ _,aQ _ _⟩
 rw[e1,e2]
 have ST:=Zd (kZ vt t w ht hl)
 have SR:=Zd (kZ vr r w hr ni)
 have SL:=Zd (fun(k:Nat) (hk:k≤40)=>aeR ht hs k gA)
 have PR:=Zd (fun(k:Nat) (hk:k≤40) W (g:w.grownBy W none) (vB:Value) (iv:aS w vB (t.drop k))=>Ga vB vr (t.drop k) r W (aP iv g) (aP hr g) (by rw[List.length_drop];omega) (by rw[List.length_drop];omega) (QX h1 k) h2)
 have EP:=Zd (fun(k:Nat) (hk:k≤40)=>(show fE (t.drop k) r (t.drop k).length=Kl t r k by rw[List.length_drop,h.1];exact acj t r h2 k hk))
 rw[h1]at ST
 rw[h2]at SR
 clear e1 e2 hs h1 h2
 obtain⟨at',ct,rfl,_,_⟩:=ht
 obtain⟨ar,cr,rfl,_,_⟩:=hr
 rw[h.1]at ST SL
 rw[h.2]at SR PR
 rw[h.1,h.2]
 clear h hl ni
 have jg:=fZ 40 gA
 rw[show((40:Nat):Int)=40 from rfl]at jg
 have M0:=Zs (bO (w.alloc (.cells (aD (ay 40)) 3)) w.heap.size 3 (ay 40)∧w.grownBy (w.alloc (.cells (aD (ay 40)) 3)) none) (⟨bO.new w 3 (ay 40),ak _ _ none⟩)
 go_enter func116,ntmps116
 go_wp2_with fail
 refine ST.out.mono ?_
 rintro e w1 ⟨rfl,rfl⟩
 clear ST
 go_wp2_with fail
 refine SR.out.mono ?_
 rintro e w2 ⟨rfl,rfl⟩
 clear SR
 go_wp2_with fail
 clear jg
 generalize w2.alloc _=W0 at *
 go_loopw [27] (fun i wr=>∃(m:Nat) (rs:List Int),i=.int .i64 m∧m≤40∧Hid (jh 40 (Kl t r) m rs)∧Hid (bO wr w2.heap.size 3 rs∧w2.grownBy wr none)) (fun i _=>40-(intOf i).toNat)
 case atStart=>exact⟨0,ay 40,rfl,Nat.zero_le _,gZ 40 _,M0.out⟩
 case round=>
  obtain⟨m,rs,rfl,hm,hF,hM⟩:=hrel
  clear M0
  by_cases kP:m<40
  ·have hlen:rs.length=40:=hF.out.1
   obtain⟨vB,tZ,iv,_⟩:=SL.out m hm
   have P1:=Zd (PR.out m hm wr hM.out.2 vB iv)
   rw[EP.out m hm]at P1
   have cd:=hM.out.1.cell m gA
   have fd:=hM.out.1.free m
   have NF:=Zd (eP hF.out kP)
   have NM:=Zs (bO (wr.setCell ⟨w2.heap.size,m,none⟩ (.int .i64 (Kl t r m))) w2.heap.size 3 (rs.set m (Kl t r m))∧w2.grownBy (wr.setCell ⟨w2.heap.size,m,none⟩ (.int .i64 (Kl t r m))) none) (⟨hM.out.1.set m _,aG hM.out.2 (aF wr ⟨w2.heap.size,m,none⟩ _) (Nat.le_refl _)⟩)
   have i1:(m:Int)<40:=gA
   clear hF hM hlen iv
   generalize Kl t r m=z at *
   generalize aC rs m=q at *
   go_wp2_with fail
   refine P1.out.mono ?_
   rintro e wy ⟨rfl,rfl⟩
   clear P1 tZ
   go_wp2_with fail
   go_roundw
   case rel=>exact⟨m+1,_,by go_num,gA,NF.out,NM.out⟩
   case measure=>simp[intOf];omega
  obtain rfl:m=40:=gA
  have hlen:rs.length=40:=hF.out.1
  have OF:=zx (base:=w2.heap.size) hM.out.1 (Nat.le_refl _) gA
  rw[hlen,show rs=tgL t r from fB hF.out]at OF
  have OO:=Zd OF
  have GF:=Zd hM.out.2
  clear hF hM OF hlen
  rw[show((40:Nat):Int)=40 from rfl]
  go_wp2_with fail
  go_ret2
  exact⟨_,rfl,OO.out,GF.out⟩
theorem Gb (x l m:Int)(h1:l≤x)(h2:x≤m)(w:World) :
 Calls prog 218 #[.int .i64 x,.int .i64 l,.int .i64 m] w fun e w'=>e=.returned (.bool true)∧w'=w:=by
 go_enter func218,ntmps218
 go_wp2
 go_ret
 exact⟨rfl,rfl⟩
theorem QY (n:Int)(h0:0≤n)(h1:n<9223372036854775808):IntKind.i64.wrap n=n:=by
 have e:n % 2^64=n:=Int.emod_eq_of_lt gA gA
 simp only[IntKind.wrap,IntKind.bits,IntKind.signed,e]
 rw[if_neg (by simp;omega)]
theorem adf (x:Int):bits .and .i64 x 1=x % 2:=by
 show IntKind.i64.wrap ((BitVec.ofInt 64 x &&& BitVec.ofInt 64 1).toNat:Int)=_
 rw[BitVec.toNat_and,BitVec.toNat_ofInt,show(BitVec.ofInt 64 1).toNat=2^1-1 by decide,Nat.and_two_pow_sub_one_eq_mod]
 rw[QY _ gA gA]
 omega
def afy:Value:=.agg #[.int .i64 444758425,.int .i64 203159592,.int .i64 97181937,.int .i64 47538611,.int .i64 23511884,.int .i64 11692281,.int .i64 5830311,.int .i64 2911209,.int .i64 1454619,.int .i64 727063,.int .i64 363470,.int .i64 181719,.int .i64 90856,.int .i64 45427,.int .i64 22713]
theorem aaD (k:Nat)(hk:k<15)(w:World):Sem.run prog (Instr.index 213 afy (.int .i64 k)) w=.ok (.int .i64 (lJ k)) w:=by
 have h:k=0∨k=1∨k=2∨k=3∨k=4∨k=5∨k=6∨k=7∨k=8∨k=9∨k=10∨k=11∨k=12∨k=13∨k=14:=gA
 rcases h with rfl|rfl|rfl|rfl|rfl|rfl|rfl|rfl|rfl|rfl|rfl|rfl|rfl|rfl|rfl
 all_goals simp[Instr.index,go_sem,afy,lJ,gro]
theorem QZ (k:Nat)(h:k<15):0≤lJ k∧lJ k≤444758425:=by
 have:∀k:Fin 15,0≤lJ k.val∧lJ k.val≤444758425:=by decide
 exact this ⟨k,h⟩
theorem agR (x r:Int)(h1:1073741824≤x)(h2:x≤2147438200)(h3:0≤r)(h4:r≤444758425):0≤x*r∧x*r≤955091231616835000:=by
 have e1:=Int.mul_le_mul h2 h4 h3 (by decide)
 exact⟨Int.mul_nonneg gA h3,gA⟩
def r_ (w:World):Prop:=∀i,i<15→w.cell? ⟨5,i,none⟩=some (.int .i64 (lJ i))
theorem afz (n:Nat)(f:Int)(hn:n≤30)(h1:0≤f)(h2:f≤32767)(w:World)(hG:r_ w) :
 Calls prog 191 #[.int .i64 n,.int .i64 f] w fun e w'=>e=.returned (.tuple #[.int .i64 (C9 n f),.int .i64 0])∧w'=w:=by
 have c0:w.cell? ⟨5,0,none⟩=some (.int .i64 444758425):=hG 0 gA
 have c1:w.cell? ⟨5,1,none⟩=some (.int .i64 203159592):=hG 1 gA
 have c2:w.cell? ⟨5,2,none⟩=some (.int .i64 97181937):=hG 2 gA
 have c3:w.cell? ⟨5,3,none⟩=some (.int .i64 47538611):=hG 3 gA
 have c4:w.cell? ⟨5,4,none⟩=some (.int .i64 23511884):=hG 4 gA
 have c5:w.cell? ⟨5,5,none⟩=some (.int .i64 11692281):=hG 5 gA
 have c6:w.cell? ⟨5,6,none⟩=some (.int .i64 5830311):=hG 6 gA
 have c7:w.cell? ⟨5,7,none⟩=some (.int .i64 2911209):=hG 7 gA
 have c8:w.cell? ⟨5,8,none⟩=some (.int .i64 1454619):=hG 8 gA
 have c9:w.cell? ⟨5,9,none⟩=some (.int .i64 727063):=hG 9 gA
 have c10:w.cell? ⟨5,10,none⟩=some (.int .i64 363470):=hG 10 gA
 have c11:w.cell? ⟨5,11,none⟩=some (.int .i64 181719):=hG 11 gA
 have c12:w.cell? ⟨5,12,none⟩=some (.int .i64 90856):=hG 12 gA
 have c13:w.cell? ⟨5,13,none⟩=some (.int .i64 45427):=hG 13 gA
 have c14:w.cell? ⟨5,14,none⟩=some (.int .i64 22713):=hG 14 gA
 clear hG
 go_enter func191,ntmps191
 go_wp2_with fail
 refine(Gb _ _ _ gA gA _).mono ?_
 rintro e w1 ⟨rfl,rfl⟩
 go_wp2_with fail
 refine(Gb _ _ _ h1 h2 _).mono ?_
 rintro e w1 ⟨rfl,rfl⟩
 go_wp2_with fail
 have IX:=Zd aaD
 have eV:(.agg #[.int .i64 444758425,.int .i64 203159592,.int .i64 97181937,.int .i64 47538611,.int .i64 23511884,.int .i64 11692281,.int .i64 5830311,.int .i64 2911209,.int .i64 1454619,.int .i64 727063,.int .i64 363470,.int .i64 181719,.int .i64 90856,.int .i64 45427,.int .i64 22713]:Value)=afy:=rfl
 rw[eV]
 clear eV
 clear c0 c1 c2 c3 c4 c5 c6 c7 c8 c9 c10 c11 c12 c13 c14
 generalize afy=V at *
 have HB:=Zd (Lm f)
 have HN:=Zd (Ye n f hn)
 go_loop [6,18] (fun x i=>∃k:Nat,i=.int .i64 k∧x=.int .i64 (pw f k)∧k≤15) (fun _ i=>15-(intOf i).toNat)
 case atStart=>exact⟨0,rfl,rfl,gA⟩
 case round=>
  obtain⟨k,rfl,rfl,hk⟩:=hrel
  by_cases hk':k=15
  ·subst hk'
   have x1:=(HN.out).2.2
   have HP:=Zs (C9 n f=pw f 15 / 2^(30-n)) (rfl)
   rw[HP.out]at x1
   generalize pw f 15=x at *
   go_wp2_with fail
   go_ret2
   exact⟨by rw[HP.out];rfl,rfl⟩
  have ix:=IX.out k gA w1
  obtain⟨x1,x2⟩:=HB.out k hk
  obtain⟨r1,r2⟩:=QZ k gA
  obtain⟨m1,m2⟩:=agR _ _ x1 x2 r1 r2
  obtain⟨y1,y2⟩:=HB.out (k+1) gA
  have b:=adf (f / 2^(14-k))
  by_cases hb:pJ f k=1
  ·have e:=Zs (pw f (k+1)=pw f k+pw f k*lJ k / 1073741824) (by show(if pJ f k=1 then _ else _)=_;rw[if_pos hb];rfl)
   rw[e.out]at y1 y2
   rw[show f / 2^(14-k) % 2=pJ f k from rfl,hb]at b
   have E:pw f (k+1)=pw f k+pw f k*lJ k / 1073741824:=e.out
   have E':=Zd E
   clear E hb
   generalize pw f k=x at *
   generalize lJ k=r at *
   go_wp2_with fail
   go_round
   case rel=>exact⟨k+1,by go_num,by rw[E'.out],gA⟩
   case measure=>simp[intOf];omega
  have e:=Zs (pw f (k+1)=pw f k) (by show(if pJ f k=1 then _ else _)=_;rw[if_neg hb])
  have hb0:pJ f k=0:=by
   unfold pJ at *
   omega
  rw[show f / 2^(14-k) % 2=pJ f k from rfl,hb0]at b
  clear hb hb0 y1 y2
  generalize pw f k=x at *
  generalize lJ k=r at *
  go_wp2_with fail
  go_round
  case rel=>exact⟨k+1,by go_num,by rw[e.out],gA⟩
  case measure=>simp[intOf];omega
theorem zU (n:Int)(w:World)(hG:r_ w):Calls prog 122 #[.int .i64 n] w fun e w'=>e=.returned (.tuple #[.int .i64 (glV n),.int .i64 (glE n)])∧w'=w:=by
 by_cases h:0≤n∧n≤31
 ·obtain⟨k,rfl⟩:∃k:Nat,n=(k:Int):=⟨n.toNat,gA⟩
  have hk:k≤31:=gA
  rw[(rP k hk).1,(rP k hk).2]
  have P:=Zd (afz (3+3*k / 8) ((3*k % 8*4096:Nat):Int) gA gA gA w hG)
  rw[Yf k gA]at P
  have e1:(3*(k:Int)).tdiv 8=((3*k / 8:Nat):Int):=by rw[Int.tdiv_eq_ediv_of_nonneg gA];omega
  have e2:(3*(k:Int)) / 8=((3*k / 8:Nat):Int):=gA
  have e3:(3*(k:Int)).tmod 8=((3*k % 8:Nat):Int):=by rw[Int.tmod_eq_emod_of_nonneg gA];omega
  have e4:(3*(k:Int)) % 8=((3*k % 8:Nat):Int):=gA
  rw[show((3+3*k / 8:Nat):Int)=3+((3*k / 8:Nat):Int) by omega,show((3*k % 8*4096:Nat):Int)=((3*k % 8:Nat):Int)*4096 by omega]at P
  have b1:3*k / 8≤11:=gA
  have b2:3*k % 8≤7:=gA
  generalize 3*k / 8=q at *
  generalize 3*k % 8=r at *
  generalize kL k=z at *
  have c1:(q:Int)≤11:=gA
  have c2:(r:Int)≤7:=gA
  have c3:(k:Int)≤31:=gA
  clear hG h b1 b2
  go_enter func122,ntmps122
  go_wp2_with fail
  refine P.out.mono ?_
  rintro e w1 ⟨rfl,rfl⟩
  clear P
  go_wp2_with fail
  go_ret2
  exact⟨rfl,rfl⟩
 rw[show glV n=0 from if_neg h,show glE n=2 from if_neg h]
 clear hG
 by_cases h1:n<0
 ·clear h
  go_enter func122,ntmps122
  go_wp2_with fail
  go_ret2
  exact⟨rfl,rfl⟩
 have h2:32≤n:=gA
 clear h
 go_enter func122,ntmps122
 go_wp2_with fail
 go_ret2
 exact⟨rfl,rfl⟩
theorem Wo (c e:Int)(w:World)(hG:r_ w)(c0:0<c)(c9:c≤9223372036854775807)(e0:0<e)(e9:e≤9223372036854775807) :
 Calls prog 119 #[.int .i64 c,.int .i64 e] w fun x w'=>x=.returned (.int .i64 (goN (rH c) (rJ e) 31:Int))∧w'=w:=by
 have L:=Zd (fun n=>zU n w hG)
 have e1:min c 1152921504606846976=rH c:=by unfold rH;split<;>omega
 have e2:min e 17592186044416=rJ e:=by unfold rJ;split<;>omega
 have e3:(if 1152921504606846976<c then 1152921504606846976 else c)=rH c:=rfl
 have e4:(if 17592186044416<e then 17592186044416 else e)=rJ e:=rfl
 obtain⟨b1,b2⟩:=Yh c c0
 obtain⟨b3,b4⟩:=Yi e e0
 have L0:=Zd (L.out 0)
 rw[aiD.1,aiD.2]at L0
 clear hG
 go_enter func119,ntmps119
 go_wp2_with fail
 refine L0.out.mono ?_
 rintro x w1 ⟨rfl,rfl⟩
 clear L0 e1 e2 e3 e4
 generalize hC:rH c=C at *
 generalize hE:rJ e=E at *
 have HC:=Zd hC
 have HE:=Zd hE
 clear hC hE
 clear c0 c9 e0 e9
 go_wp2_with fail
 go_loop [5,6,8] (fun s b i=>∃m:Nat,i=.int .i64 ((m+1:Nat):Int)∧s=.int .i64 (goN C E m:Int)∧b=.int .i64 (kL m)∧m≤31) (fun _ _ i=>40-(intOf i).toNat)
 case atStart=>exact⟨0,rfl,rfl,rfl,gA⟩
 case round=>
  obtain⟨m,rfl,rfl,rfl,hm⟩:=hrel
  by_cases an4:m<31
  ·have LL:=Zd (L.out ((m+1:Nat):Int))
   rw[(rP (m+1) gA).1,(rP (m+1) gA).2]at LL
   have NY:=Zd (aeL C E m)
   have NN:=Zd (aho C E m)
   obtain⟨g1,g2⟩:=Dq (m+1)
   obtain⟨g3,g4⟩:=Dq m
   have i1:((m+1:Nat):Int)<32:=gA
   generalize goN C E m=s at *
   generalize kL m=y at *
   have q1:0≤(kL (m+1)+y)*E:=Int.mul_nonneg gA gA
   have q2:(kL (m+1)+y)*E≤50534*17592186044416:=Int.mul_le_mul gA gA gA gA
   generalize hJ:m+1=J at *
   generalize hX:kL J=x at *
   have HX:=Zd hX
   clear hX
   by_cases hd:(x+y)*E<2*C
   ·have HEN:=Zd (NY.out hd)
    go_wp2_with fail
    refine LL.out.mono ?_
    rintro ee w2 ⟨rfl,rfl⟩
    clear LL
    go_wp2_with fail
    go_round
    case rel=>exact⟨J,by go_num,by rw[HEN.out],by rw[HX.out],gA⟩
    case measure=>simp[intOf];omega
   have HEN:=Zd (NN.out hd)
   go_wp2_with fail
   refine LL.out.mono ?_
   rintro ee w2 ⟨rfl,rfl⟩
   clear LL
   go_wp2_with fail
   go_round
   case rel=>exact⟨J,by go_num,by rw[HEN.out],by rw[HX.out],gA⟩
   case measure=>simp[intOf];omega
  obtain rfl:m=31:=gA
  rw[show((31+1:Nat):Int)=32 from rfl]
  generalize hS:goN C E 31=s at *
  have HS:=Zd hS
  clear hS
  generalize kL 31=z at *
  go_wp2_with fail
  go_ret
  exact⟨by rw[HC.out,HE.out,HS.out];rfl,rfl⟩
theorem Wp (c e:Int)(w:World)(hG:r_ w)(c9:c≤9223372036854775807)(e9:e≤9223372036854775807) :
 Calls prog 119 #[.int .i64 c,.int .i64 e] w fun x w'=>x=.returned (.int .i64 (Yg c e))∧w'=w:=by
 by_cases hc:c≤0
 ·rw[show Yg c e=0 from if_pos (.inl hc)]
  clear hG
  go_enter func119,ntmps119
  go_wp2_with fail
  go_ret
  exact⟨rfl,rfl⟩
 by_cases he:e≤0
 ·rw[show Yg c e=0 from if_pos (.inr he)]
  clear hG
  go_enter func119,ntmps119
  go_wp2_with fail
  go_ret
  exact⟨rfl,rfl⟩
 rw[show Yg c e=(goN (rH c) (rJ e) 31:Int)from if_neg (fun x=>x.elim hc he)]
 exact Wo c e w hG gA c9 gA e9
def Gf (w:World)(v:Value)(l:List Int):Prop:=
 ∃(ad:Option Addr) (c:Nat),v=.slice ad l.length c∧l.length≤c∧(0<l.length→∃a,ad=some a∧∀i,i<l.length→w.cell? (a.add i)=some (.int .u8 (aC l i)))
def lX (l:List Int):Array Value:=(l.map (Value.int .u8)).toArray
theorem Q_ (l:List Int)(i:Nat)(h:i<l.length):(lX l)[i]?=some (.int .u8 (aC l i)):=by
 simp[lX,aC,List.getD,h]
theorem Ra (l:List Int)(k:Nat)(v:Int):(lX l).setIfInBounds k (.int .u8 v)=lX (l.set k v):=by
 simp[lX,List.map_set]
theorem adg:(prog.info? 5).map (fun i=>(i.zero,i.size,i.bytes))=some (some (.int .u8 0),1,1):=by kernel_rfl
theorem aaE (n:Nat):madeCells #[.int .u8 0] n=lX (List.replicate n 0):=by
 unfold lX madeCells
 apply Array.ext
 ·simp
 intro i h1 h2
 simp[Nat.mod_one]
theorem Gg (z:Int)(h0:0≤z)(h1:z≤35184372088832)(u:World) :
 (Instr.makeSlice 33 (.int .i64 z) (.int .i64 z)).run prog u=.ok (.slice (some ⟨u.heap.size,0,none⟩) z.toNat z.toNat) (u.alloc (.cells (lX (List.replicate z.toNat 0)) 5)):=by
 obtain⟨i0,hi,hz0,hz1,hz2⟩:=info_parts adg
 have h:=run_make (P:=prog) u 33 5 i0 (.int .u8 0) underlying33 hi hz0 .i64 .i64 z z h0 (Int.le_refl _) (by rw[hz2];omega) gA
 rw[←aaE]
 simpa [hz1,Value.cells] using h
theorem Nj {w:World}{base:Nat}{v:Value}{l:List Int}(h:w.ownsRow base 5 1 v l.length (l.map (Value.int .u8))):Gf w v l:=by
 obtain⟨h1,h2⟩:=h
 rcases h2 with⟨h2,h3⟩|⟨g,cap,cur,h2,_,h4,h5,_,h7,h8⟩
 ·exact⟨none,0,by rw[h2,h3],gA,fun h=>gA⟩
 refine⟨some ⟨g,0,none⟩,cap,h2,h5,fun _=>⟨_,rfl,fun i hi=>?_⟩⟩
 have e:(cur.toList.take (l.length*1))[i]?=(l.map (Value.int .u8))[i]?:=by rw[h8]
 rw[List.getElem?_take,if_pos gA,Array.getElem?_toList]at e
 have ea:(⟨g,0,none⟩:Addr).add i=⟨g,i,none⟩:=by unfold Addr.add;split<;>simp_all
 rw[ea,aI h4,e]
 simp[aC,List.getD,hi]
def jw (base:Nat)(w:World)(v:Value)(l:List Int):Prop:=w.ownsRow base 5 1 v l.length (l.map (Value.int .u8))
theorem jw.aaF {base:Nat}{w:World}{v:Value}{l:List Int}(h:jw base w v l):Gf w v l:=Nj h
theorem jw.aH {base:Nat}{w w':World}{v:Value}{l:List Int}(h:jw base w v l)(g:w.grownBy w' none):jw base w' v l:=
 h.kept g (by rcases v.ownBlock with _|b<;>simp)
theorem jw.aJ {base:Nat}{w w':World}{v:Value}{l:List Int}{b:Nat}{cs:Array Value}{t:TypeId}{f:Nat×Nat}(h:jw base w v l)(g:w.grownBy w' (some b))(hb:w.heap[b]?=some (.cells cs t f))(ht:t≠5):jw base w' v l:=by
 refine h.kept g ?_
 rcases h.2 with⟨rfl,_⟩|⟨g',cap,cur,rfl,_,hg,_⟩
 ·exact .inl rfl
 right
 intro e
 simp[Value.ownBlock]at e
 subst e
 rw[hg]at hb
 simp at hb
 exact ht hb.2.1.symm
theorem jw.base {b b':Nat}{w:World}{v:Value}{l:List Int}(h:jw b w v l)(hb:b'≤b):jw b' w v l:=by
 refine⟨h.1,?_⟩
 rcases h.2 with h|⟨g,cap,cur,e,h1,h2⟩
 ·exact .inl h
 exact .inr ⟨g,cap,cur,e,gA,h2⟩
theorem uj (b:Nat)(w:World):jw b w (.slice none 0 0) []:=World.ownsRow_nil _ _ _ _
theorem KQ {W:World}{a:Addr}{n c:Nat}{l:List Int}(h:Gf W (.slice (some a) n c) l):n=l.length∧n≤c∧∀i,i<l.length→W.cell? (a.add i)=some (.int .u8 (aC l i)):=by
 obtain⟨ad,c',e,h1,h2⟩:=h
 simp only[Value.slice.injEq]at e
 obtain⟨rfl,rfl,rfl⟩:=e
 refine⟨rfl,h1,fun i hi=>?_⟩
 obtain⟨a',e',h3⟩:=h2 gA
 cases e'
 exact h3 i hi
theorem aaG {W:World}{l:List Int}(h:Gf W (.slice none 0 0) l):l=[]:=by
 obtain⟨ad,c,e,_,_⟩:=h
 simp only[Value.slice.injEq]at e
 exact List.length_eq_zero_iff.1 e.2.1.symm
theorem xV {ops:Array Oper}{rest:List Oper}{o:Oper}{a:Act}{w:World}{Q:Exit→Act→World→Prop}(hgd:Region.wanted o (yielded ops a.tmps)=true)(s x:Operand)
 (hop:o.op=Op.call { callee:=Callee.builtin Builtin.append,args:=#[s,x],argTypes:=#[33,33] }) (base:Nat) (va vb:Value) (A B:List Int) (hs:a.eval s=va) (hx:a.eval x=vb) (ha:jw base w va A) (hb:Gf w vb B) (hsh:rR vb B)
 (hl:(A.length+B.length)*1≤140737488355328) (qP:base≤w.heap.size)
 (h:∀v' w',jw base w' v' (A++B)→w.grownBy w' va.ownBlock→wpList prog ops Q rest (a.put o.dst v') w'):wpList prog ops Q (o::rest) a w:=by
 obtain⟨i0,hi,hz0,hz1,hz2⟩:=info_parts adg
 have key:∀K:Act→World→Prop,(∀v' w',jw base w' v' (A++B)→w.grownBy w' va.ownBlock→K (a.put o.dst v') w')→Oper.wp prog o a w K Q:=by
  intro K hK
  rcases hsh with rfl|⟨ad,c,rfl⟩
  ·obtain rfl:=aaG hb
   have hrun:=run_append_owned_none (P:=prog) (w:=w) base 33 o.type 5 i0 1 underlying33 hi va _ _ ha
   unfold Oper.wp
   simp[execOp,hop,resolve,invoke,builtin,hs,hx,hrun,Result.andThen]
   exact hK _ _ (by rw[List.append_nil];exact ha) (aQ _ _)
  obtain⟨_,hc,bH⟩:=KQ hb
  refine wp_append_own w s x 33 hop base 5 i0 (.int .u8 0) 1 1 underlying33 hi hz0 hz1 hz2 rfl (by decide) va A.length _ hs ha ad B.length c (B.map (Value.int .u8)) hx (by simp) (fun j u hu=>?_) (fun u hu=>?_) (by unfold maxLen;omega) gA qP (fun v' w' h2 h3 _=>hK v' w' ?_ h3)
  ·have hj:j<B.length:=by
    by_cases hj:j<B.length
    ·exact hj
    rw[List.getElem?_eq_none (by simp;omega)]at hu;cases hu
   rw[bH j hj]
   simpa [aC,List.getD,hj] using hu
  ·obtain⟨x,_,rfl⟩:=List.mem_map.1 hu
   rfl
  unfold jw;simpa using h2
 refine wpList_step fun K hK=>?_
 rw[if_pos hgd]
 exact key K fun v' w' h1 h2=>hK _ _ (h v' w' h1 h2)
theorem jw.lt {base:Nat}{w:World}{v:Value}{l:List Int}(h:jw base w v l)(g:Nat)(hg:v.ownBlock=some g):base≤g∧g<w.heap.size:=by
 rcases h.2 with⟨rfl,_⟩|⟨g',cap,cur,rfl,h1,h2,_⟩
 ·cases hg
 simp[Value.ownBlock]at hg
 subst hg
 exact⟨h1,aN h2⟩
theorem jw.Iy {base:Nat}{w:World}{v:Value}{l:List Int}(h:jw base w v l):rR v l:=by
 rcases h.2 with⟨rfl,_⟩|⟨g',cap,cur,rfl,_⟩
 ·exact .inl rfl
 exact .inr ⟨_,cap,rfl⟩
theorem adh (u:World)(z:Int):Gf (u.alloc (.cells #[.int .u8 z] 5)) (.slice (some ⟨u.heap.size,0,none⟩) 1 1) [z]:=by
 refine⟨some ⟨u.heap.size,0,none⟩,1,rfl,Nat.le_refl _,fun _=>⟨_,rfl,fun i hi=>?_⟩⟩
 rw[Addr.add_mid,Nat.zero_add,aI (cK u _)]
 match i,hi with
 | 0,_=>rfl
theorem jw.form {base:Nat}{w:World}{v:Value}{l:List Int}(h:jw base w v l)(hl:0<l.length):∃g cap,v=.slice (some ⟨g,0,none⟩) l.length cap∧base≤g∧g<w.heap.size∧l.length≤cap:=by
 rcases h.2 with⟨_,h0⟩|⟨g,cap,cur,hv,hb,hg,hn,_⟩
 ·omega
 exact⟨g,cap,hv,hb,aN hg,hn⟩
theorem jw.cell {base:Nat}{w:World}{g cap n:Nat}{l:List Int}(h:jw base w (.slice (some ⟨g,0,none⟩) n cap) l)(hn:n=l.length)(j:Nat)(hj:j<l.length):w.cell? ⟨g,j,none⟩=some (.int .u8 (aC l j)):=by
 subst hn
 have:=World.ownsRow.cellAt h j gA
 rw[this]
 simp[aC,List.getD,hj]
theorem jw.free {base:Nat}{w:World}{g cap n:Nat}{l:List Int}(h:jw base w (.slice (some ⟨g,0,none⟩) n cap) l)(hn:n=l.length)(j:Nat):w.frozen? ⟨g,j,none⟩=false:=by
 subst hn
 exact World.ownsRow.frozenAt h j
theorem jw.set {base:Nat}{w:World}{g cap n:Nat}{l:List Int}(h:jw base w (.slice (some ⟨g,0,none⟩) n cap) l)(hn:n=l.length)(j:Nat)(z:Int):jw base (w.setCell ⟨g,j,none⟩ (.int .u8 z)) (.slice (some ⟨g,0,none⟩) n cap) (l.set j z)∧w.grownBy (w.setCell ⟨g,j,none⟩ (.int .u8 z)) (some g):=by
 subst hn
 have:=World.ownsRow.stored h j (.int .u8 z)
 refine⟨?_,this.2⟩
 unfold jw
 rw[List.length_set,List.map_set]
 exact this.1
theorem jw.dK {base:Nat}{w w':World}{v:Value}{l:List Int}{b:Nat}(h:jw base w v l)(g:w.grownBy w' (some b))(hb:b<base):jw base w' v l:=by
 refine h.kept g ?_
 rcases e:v.ownBlock with _|c
 ·exact .inl rfl
 right
 intro e'
 have:=(h.lt c e).1
 cases e'
 omega
theorem jw.UW {base:Nat}{w w':World}{g n cap:Nat}{l:List Int}{b:Nat}(h:jw base w (.slice (some ⟨g,0,none⟩) n cap) l)(gr:w.grownBy w' (some b))(hb:g≠b):jw base w' (.slice (some ⟨g,0,none⟩) n cap) l:=
 h.kept gr (.inr (by simpa [Value.ownBlock] using hb))
theorem aiL:(prog.info? 49).bind (·.zero)=some (.agg (aD (ay 25))):=by kernel_rfl
theorem nS:(prog.info? 49).map (·.size)=some 25:=by kernel_rfl
def afA (w:World)(v:Value)(e:Ending)(w':World):Prop:=e=.returned v∧w.grownBy w' none
def PkP (w:World)(l:List Int)(e:Ending)(w':World):Prop:=∃v',e=.returned (.tuple #[v',.int .i64 (ae2 l)])∧jw w.heap.size w' v' (pkR l)∧w.grownBy w' none
theorem jw.plain {base:Nat}{w:World}{v:Value}{b:List Int}(h:jw base w v b):v=.slice none 0 0∨∃a n c,v=.slice (some a) n c:=by
 rcases h.2 with⟨rfl,_⟩|⟨g',cap,cur,rfl,_⟩
 ·exact .inl rfl
 exact .inr ⟨_,_,_,rfl⟩
theorem Y5 {l:List Int}(h:j4 l=true):pkR l=Cg l∧ae2 l=0:=⟨if_pos h,if_pos h⟩
theorem adi {l:List Int}(h:j4 l=false):pkR l=[]∧ae2 l=2:=⟨if_neg (by rw[h];decide),if_neg (by rw[h];decide)⟩
theorem sj (u:List Int)(o n:Nat)(h:o+n≤u.length):((aO u).drop o).take n=aO (bP u o n):=by
 have:=qz u [] o n h
 unfold kE at this
 rwa [List.append_nil]at this
theorem yO (u:List Int)(i:Nat)(h:i<u.length):(aO u)[i]?=some (.int .i64 (aC u i)):=by
 have:=jU u [] i h
 unfold kE at this
 rwa [List.append_nil]at this
theorem dA.cellS {w:World}{b:Nat}{l:List Int}{s:Bool}(h:dA w b l s)(hl:l.length=101):w.cell? ⟨b,101,none⟩=some (.bool s):=by
 rw[dP.cell h]
 unfold aU kE
 rw[List.getElem?_append_right (by rw[aM,hl];omega),aM,hl]
 rfl
theorem dA.adj {w:World}{b:Nat}{l:List Int}{s:Bool}(h:dA w b l s)(hl:l.length=101)(t:Bool):dA (w.setCell ⟨b,101,none⟩ (.bool t)) b l t:=by
 have:=dP.set h 101 (.bool t)
 have e:(aU l s).set 101 (.bool t)=aU l t:=by
  unfold aU kE
  rw[List.set_append_right _ _ (by rw[aM,hl];omega),aM,hl]
  rfl
 rw[e]at this
 exact this
def vL (w:World)(l:List Int)(s:Bool)(p:List Int)(wr:World):Prop:=dA wr w.heap.size l s∧dP wr (w.heap.size+1) 49 (aO p)∧dA wr (w.heap.size+1+1) (ay 101) false∧w.grownBy wr none
theorem vL.new (w:World)(l:List Int)(s:Bool)(p:List Int):vL w l s p (((w.alloc (.cells (aU l s).toArray 29)).alloc (.cells (aD p) 49)).alloc (.cells (aU (ay 101) false).toArray 29)):=by
 refine⟨((dA.new w l s).aH (ak _ _ none)).aH (ak _ _ none),?_,?_,aB (aB (ak _ _ none) (ak _ _ none)) (ak _ _ none)⟩
 ·have:=(dP.new (w.alloc (.cells (aU l s).toArray 29)) 49 (aO p)).aH (ak _ (.cells (aU (ay 101) false).toArray 29) none)
  rw[qy]at this
  simpa using this
 have:=dA.new ((w.alloc (.cells (aU l s).toArray 29)).alloc (.cells (aD p) 49)) (ay 101) false
 simpa using this
theorem vL.aH {w:World}{l:List Int}{s:Bool}{p:List Int}{wr wr':World}(h:vL w l s p wr)(g:wr.grownBy wr' none):vL w l s p wr':=⟨h.1.aH g,h.2.1.aH g,h.2.2.1.aH g,aB h.2.2.2 g⟩
theorem vL.own {w:World}{l:List Int}{s:Bool}{p:List Int}{wr wr':World}{r:Option Nat}(h:vL w l s p wr)(g:wr.grownBy wr' r)(hr:∀x,r=some x→w.heap.size+1+1+1≤x):vL w l s p wr':=by
 rcases r with _|x
 ·exact h.aH g
 have:=hr x rfl
 exact⟨h.1.aJ g gA,h.2.1.aJ g gA,h.2.2.1.aJ g gA,aG h.2.2.2 g gA⟩
theorem vL.mem {w:World}{l m:List Int}{s t:Bool}{p:List Int}{wr wr':World}(h:vL w l s p wr)(hb:dA wr' w.heap.size m t)(g:wr.grownBy wr' (some w.heap.size)):vL w m t p wr':=⟨hb,h.2.1.aJ g gA,h.2.2.1.aJ g gA,aG h.2.2.2 g (Nat.le_refl _)⟩
theorem vL.all {w:World}{l m:List Int}{s t:Bool}{p:List Int}{wr:World}(h:vL w l s p wr)(hl:l.length=101)(hm:m.length=101):vL w m t p (dQ wr w.heap.size 0 (aU m t))∧wr.grownBy (dQ wr w.heap.size 0 (aU m t)) (some w.heap.size):=by
 have:=h.1.fu (m:=m) (t:=t) hl hm
 exact⟨h.mem this.1 this.2,this.2⟩
theorem vL.put {w:World}{l:List Int}{s:Bool}{p:List Int}{wr:World}(h:vL w l s p wr)(o:Nat)(M:List Int)(hl:o+M.length≤l.length):vL w (jr l o M) s p (dQ wr w.heap.size o (aO M))∧wr.grownBy (dQ wr w.heap.size o (aO M)) (some w.heap.size):=by
 have:=h.1.put o M hl
 exact⟨h.mem this.1 this.2,this.2⟩
theorem vL.set {w:World}{l:List Int}{s:Bool}{p:List Int}{wr:World}(h:vL w l s p wr)(k:Nat)(z:Int)(hk:k<l.length):vL w (l.set k z) s p (wr.setCell ⟨w.heap.size,k,none⟩ (.int .i64 z)):=h.mem (h.1.set k z hk) (aF wr ⟨w.heap.size,k,none⟩ _)
theorem vL.adj {w:World}{l:List Int}{s:Bool}{p:List Int}{wr:World}(h:vL w l s p wr)(hl:l.length=101)(t:Bool):vL w l t p (wr.setCell ⟨w.heap.size,101,none⟩ (.bool t)):=h.mem (h.1.adj hl t) (aF wr ⟨w.heap.size,101,none⟩ _)
theorem vL.fin {w:World}{l:List Int}{s:Bool}{p:List Int}{wr:World}(h:vL w l s p wr)(m:List Int)(t:Bool)(hm:m.length=101):dA (dQ wr (w.heap.size+1+1) 0 (aU m t)) (w.heap.size+1+1) m t∧w.grownBy (dQ wr (w.heap.size+1+1) 0 (aU m t)) none∧wr.grownBy (dQ wr (w.heap.size+1+1) 0 (aU m t)) (some (w.heap.size+1+1)):=by
 have:=h.2.2.1.fu (m:=m) (t:=t) (au 101) hm
 exact⟨this.1,aG h.2.2.2 this.2 gA,this.2⟩
theorem vL.num {w:World}{l:List Int}{s:Bool}{p:List Int}{wr:World}(h:vL w l s p wr)(i:Nat)(hi:i<p.length):wr.cell? ⟨w.heap.size+1,i,none⟩=some (.int .i64 (aC p i)):=(h.2.1.cell i).trans (yO p i hi)
end Go.Proofs.YtbaccaipcimlhaaGreatDoor
