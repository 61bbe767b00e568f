import Derived.Below
import Derived.WalkKit
import Derived.OrdersHeld
import Derived.StillTail
import Derived.RegionTactic
import Derived.Deep.RegionHeld
import Derived.Test.YtmpfdogdinhhcaaGreatDoorProg
import Derived.WalkSpells
import Derived.WalkLawsBesides
import Derived.RowKit3
import Derived.Laws.OwnMore
import Derived.Deep.MidRow
import Derived.Deep.CutRange
import Derived.Laws.AppendOwnNone
import Derived.Laws.CopyOwn
import Derived.Laws.BitsAllLaws
namespace Go.Proofs.YtmpfdogdinhhcaaGreatDoor
open Go.RowKit
open Tryz
set_option linter.defProp false
set_option linter.unusedSimpArgs false
set_option linter.unusedVariables false
set_option maxHeartbeats 1000000
set_option maxRecDepth 100000
theorem Zd {p:Prop}(h:p):Hid p:=h
theorem Zs (p:Prop)(h:p):Hid p:=h
theorem sZ:(∀(a:Act) (d:Tmp) (v:Value),a.put (some d) v={ a with tmps:=a.tmps.setIfInBounds d v })∧(∀(a:Act) (v:Value),a.put none v=a)∧(∀(l:List Value) (i:Nat) (a:Value),l.toArray.setIfInBounds i a=(l.set i a).toArray)∧(∀(a b:Value) (l:List Value),(a::l).set 0 b=b::l)∧(∀(a b:Value) (l:List Value) (n:Nat),(a::l).set (n+1) b=a::l.set n b)∧(∀(xs:List Value) (i:Nat) (h:i<xs.toArray.size),xs.toArray[i]=xs[i]'(by simpa using h))∧(∀(a:Value) (l:List Value) (h:0<(a::l).length),(a::l)[0]=a)∧(∀(a:Value) (l:List Value) (i:Nat) (h:i+1<(a::l).length),(a::l)[i+1]=l[i]'(by simpa using h))∧(∀(l:List Bool) (i:Nat) (a:Bool),l.toArray.setIfInBounds i a=(l.set i a).toArray)∧(∀(a b:Bool) (l:List Bool),(a::l).set 0 b=b::l)∧(∀(a b:Bool) (l:List Bool) (n:Nat),(a::l).set (n+1) b=a::l.set n b)∧(∀(xs:List Oper) (i:Nat) (h:i<xs.toArray.size),xs.toArray[i]=xs[i]'(by simpa using h))∧(∀(a:Oper) (l:List Oper) (h:0<(a::l).length),(a::l)[0]=a)∧(∀(a:Oper) (l:List Oper) (i:Nat) (h:i+1<(a::l).length),(a::l)[i+1]=l[i]'(by simpa using h)):=
 ⟨fun _ _ _=>rfl,fun _ _=>rfl,fun _ _ _=>List.setIfInBounds_toArray ..,fun _ _ _=>List.set_cons_zero ..,fun _ _ _ _=>List.set_cons_succ ..,fun _ _ _=>List.getElem_toArray ..,fun _ _ _=>List.getElem_cons_zero ..,fun _ _ _ _=>List.getElem_cons_succ ..,fun _ _ _=>List.setIfInBounds_toArray ..,fun _ _ _=>List.set_cons_zero ..,fun _ _ _ _=>List.set_cons_succ ..,fun _ _ _=>List.getElem_toArray ..,fun _ _ _=>List.getElem_cons_zero ..,fun _ _ _ _=>List.getElem_cons_succ ..⟩
def Q6:=@Nat.le_refl
def Q9:=@if_pos
def QB:=@bodyPost_ret
def QN:=@Nat.zero_le
def X9:=@if_neg
def XB:=@List.length_set
def ZB:=@List.length_append
def ZA:=@Int.mul_nonneg
def YM:=@Nat.le_trans
def YS:=@Int.tdiv_eq_ediv_of_nonneg
def K3:=@List.take_of_length_le
def K4:=@World.grownBy.size
def KF:=@decide_eq_false
def KM:=@List.getElem?_eq_getElem
def KN:=@decide_eq_true
def KC:=@List.getElem?_take
def U8:=@List.getElem?_eq_none
def V3:=@Int.tmod_eq_emod_of_nonneg
def V7:=@Int.mul_comm
def VR:=@Int.le_of_lt
def VL:=@Bool.and_eq_true
def WZ:=@Nat.lt_or_ge
def WK:=@Nat.lt_of_lt_of_le
def WJ:=@List.append_assoc
def WB:=@List.getElem?_set
def WR:=@Int.ediv_ediv_of_nonneg
def WM:=@Nat.pow_le_pow_right
def WT:=@Nat.zero_add
def WA:=@Int.mul_le_mul_of_nonneg_right
def GK:=@List.length_map
def GL:=@Int.add_mul
def H6:=@List.getElem?_append
def H7:=@Int.emod_lt_of_pos
def DN:=@List.length_drop
def DC:=@Int.le_refl
def F3:=@List.append_nil
def F7:=@Int.ediv_nonneg
def FP:=@Int.mul_assoc
def FT:=@Int.emod_nonneg
def BQ:=@List.getElem?_append_left
def BK:=@List.getElem?_append_right
def BJ:=@List.length_take
def BR:=@Int.toNat_of_nonneg
def BS:=@List.mem_append_left
def BI:=@List.take_append_drop
def PZ:=@List.mem_append_right
def PN:=@Nat.le_of_lt
abbrev I (x:Int):Value:=.int .i64 x
abbrev L:=List Int
abbrev W:=World
abbrev V:=Value
abbrev N:Value:=.slice none 0 0
abbrev A (b o:Nat):Addr:=⟨b,o,none⟩
abbrev S (b:Nat):Option Addr:=some ⟨b,0,none⟩
theorem gO {p:Prop}(h:p:=by omega):p:=h
theorem nO {c:Prop}[Decidable c]{α:Type}{a b:α}(h:¬c:=by omega):ite c a b=b:=if_neg h
theorem pO {c:Prop}[Decidable c]{α:Type}{a b:α}(h:c:=by omega):ite c a b=a:=if_pos h
set_option linter.defProp false
variable {w w' u:World}{n b k j:Nat}{l p r:List Int}{x v':Value}{T:TypeId}{s:Bool}{y:List Value}{z:Option Nat}{i:Int}{Q:Exit→Act→World→Prop}{a:Act}{o:Oper}{Z:Nat→Prop}{f:Nat→Int}
section
variable {P:Program} {ops:Array Oper} {Q:Exit→Act→World→Prop} {md:Region.Mode} {S:World→Prop} {g:Nat}
def Closed (md:Region.Mode)(ops:Array Oper)(listed:Array Bool):Prop:=
 ∀j oj,ops[j]?=some oj→listed.getD j false=true→∀e∈oj.after,Region.binds md e=true→listed.getD e.on false=true
theorem Sr {listed:Array Bool}{i j:Nat}(h:(listed.setIfInBounds i true).getD j false=true):j=i∨listed.getD j false=true:=by
 by_cases hij:i=j
 ·exact Or.inl hij.symm
 rw[getD_set_ne false hij]at h;exact Or.inr h
theorem Closed.set {listed:Array Bool}{i:Nat}(h:Closed md ops listed)(hi:i∈Region.ready md ops listed):Closed md ops (listed.setIfInBounds i true):=by
 intro j oj hj hl e he hb
 apply getD_set_true
 rcases Sr hl with rfl|hl
 ·obtain⟨_,o,ho,hall⟩:=mem_ready.1 hi
  rw[hj]at ho;cases ho
  exact hall e he hb
 exact h j oj hj hl e he hb
theorem Closed.zero (n:Nat):Closed md ops (Array.replicate n false):=fun j oj _ hl=>by rw[getD_replicate_false]at hl;cases hl
def anc (md:Region.Mode)(ops:Array Oper)(i:Nat):Nat→Nat→Bool
 | 0,_=>false
 | f+1,j=>Region.waitsFor md ops j i||(List.range ops.size).any fun n=>Region.waitsFor md ops j n&&anc md ops i f n
theorem VY {i:Nat}{listed:Array Bool}(hc:Closed md ops listed)(hi:listed.getD i false=false):∀(f j:Nat),anc md ops i f j=true→listed.getD j false=false∧j∉Region.ready md ops listed
 | 0,j,h=>by cases h
 | f+1,j,h=>by
  have key:∀n,Region.waitsFor md ops j n=true→listed.getD n false=false→listed.getD j false=false∧j∉Region.ready md ops listed:=by
   intro n hw hn
   obtain⟨oj,hj,e,he,hb,hon⟩:=Region.waitsFor_spec hw
   refine⟨?_,?_⟩
   ·cases hl:listed.getD j false
    ·rfl
    have:=hc j oj hj hl e he hb;rw[hon,hn]at this;cases this
   intro hr
   obtain⟨_,o,ho,hall⟩:=mem_ready.1 hr
   rw[hj]at ho;cases ho
   have:=hall e he hb;rw[hon,hn]at this;cases this
  simp only[anc,Bool.or_eq_true,List.any_eq_true,List.mem_range,Bool.and_eq_true]at h
  rcases h with h|⟨n,_,h1,h2⟩
  ·exact key i h hi
  exact key n h1 (VY hc hi f n h2).1
def kI (P:Program)(md:Region.Mode)(ops:Array Oper)(Q:Exit→Act→World→Prop)(S:World→Prop)(g:Nat):Nat→Array Bool→Act→World→Prop
 | 0,listed,a,w=>Region.ready md ops listed=[]∧Q .normal a w
 | fuel+1,listed,a,w=>
  (Region.ready md ops listed=[]→Q .normal a w)∧
  ∀i∈Region.ready md ops listed,wpOp P ops Q i (fun a' w'=>((listed.setIfInBounds i true).getD g false=false→S w')∧kI P md ops Q S g fuel (listed.setIfInBounds i true) a' w') a w
theorem JE:∀(fuel:Nat) (listed:Array Bool) (a:Act) (w:World),kI P md ops Q S g fuel listed a w→wpAny P md ops Q fuel listed a w
 | 0,_,_,_,h=>h
 | fuel+1,_,_,_,h=>⟨h.1,fun i hi=>wpOp_mono (fun a' w' h'=>JE fuel _ a' w' h'.2) (h.2 i hi)⟩
theorem bI:∀(fuel:Nat) (listed:Array Bool) (a:Act) (w:World),listed.getD g false=true→wpAny P md ops Q fuel listed a w→kI P md ops Q S g fuel listed a w
 | 0,_,_,_,_,h=>h
 | fuel+1,listed,_,_,hg,h=>⟨h.1,fun i hi=>wpOp_mono (fun a' w' h'=>⟨fun e=>(by rw[getD_set_true hg]at e;cases e),bI fuel _ a' w' (getD_set_true hg) h'⟩) (h.2 i hi)⟩
def Alone (md:Region.Mode)(ops:Array Oper)(i:Nat)(oi:Oper)(listed:Array Bool):Prop:=
 ∀j oj,ops[j]?=some oj→j≠i→listed.getD j true=false→(∀e∈oj.after,Region.binds md e=true→e.on≠i)→oi.apart ops oj=true
theorem Alone.more {i j:Nat}{oi:Oper}{listed:Array Bool}(h:Alone md ops i oi listed):Alone md ops i oi (listed.setIfInBounds j true):=by
 intro k ok hk hki hun
 have hl:listed.getD k true=false:=by
  rcases Nat.decEq j k with hjk|rfl
  ·rwa [getD_set_ne true hjk]at hun
  rcases Nat.lt_or_ge j listed.size with hs|hs
  ·simp[hs]at hun
  simp[hs]at hun
 exact h k ok hk hki hl
theorem JF {i j:Nat}{oj:Oper}{listed:Array Bool}(aon:listed.getD i false=false)(hj:j∈Region.ready md ops listed)(hoj:ops[j]?=some oj):∀e∈oj.after,Region.binds md e=true→e.on≠i:=by
 obtain⟨_,o,ho,hall⟩:=mem_ready.1 hj
 obtain rfl:o=oj:=Option.some.inj (ho.symm.trans hoj)
 rintro e he hb rfl
 exact Bool.noConfusion (aon.symm.trans (hall e he hb))
theorem Sv {i f:Nat}{oi:Oper}{v:Value}(hi:ops[i]?=some oi)(hsel:∀(j:Nat) (o:Oper) cs b,ops[j]?=some o→o.op≠.select cs b)
 (hQ:∀c a w,Q (.panic c) (a.put oi.dst v) w→Q (.panic c) a w) (ars:anc md ops i f g=true) (hgi:g≠i) (fuel:Nat) :
 ∀(listed:Array Bool) (a:Act) (w:World),Closed md ops listed→Alone md ops i oi listed→
  i∈Region.ready md ops listed→YieldsIf P ops S oi v a→S w→
  kI P md ops Q S g fuel (listed.setIfInBounds i true) (a.put oi.dst v) w→kI P md ops Q S g (fuel+1) listed a w:=by
 induction fuel with
 | zero=>
  intro listed a w _ _ hr hy hS H
  constructor
  ·intro h0;rw[h0]at hr;cases hr
  intro j hj
  rcases Nat.decEq j i with hji|rfl
  ·have hnone:=ready_mono hj hji
   rw[H.1]at hnone;cases hnone
  exact hy.wpOp hi hS ⟨fun _=>hS,H⟩
 | succ fuel ih=>
  intro listed a w hcl hal hr hy hS H
  have aon:=getD_both (mem_ready.1 hr).1
  obtain⟨aru,hgr⟩:=VY hcl aon f g ars
  constructor
  ·intro h0;rw[h0]at hr;cases hr
  intro j hj
  rcases Nat.decEq j i with hji|rfl
  ·obtain⟨hjun,oj,hoj,-⟩:=mem_ready.1 hj
   have hjg:j≠g:=by rintro rfl;exact hgr hj
   have hgl:((listed.setIfInBounds i true).setIfInBounds j true).getD g false=false:=by
    rw[getD_set_ne false hjg,getD_set_ne false (Ne.symm hgi)];exact aru
   have step:=wpOp_putIf hoj (hal j oj hoj hji hjun (JF aon hj hoj)) (fun cs b=>hsel i oi cs b hi) (fun cs b=>hsel j oj cs b hoj) hQ hy (H.2 j (ready_mono hj hji))
   refine wpOp_mono (fun a' w' k=>?_) step
   obtain⟨ky,ks,kw⟩:=k
   rw[Array.setIfInBounds_comm _ _ (Ne.symm hji)]at kw
   exact⟨fun _=>ks hgl,ih _ a' w' (hcl.set hj) hal.more (ready_mono hr (Ne.symm hji)) ky (ks hgl) kw⟩
  exact hy.wpOp hi hS ⟨fun _=>hS,H⟩
theorem yY {i:Nat}{oi:Oper}{v:Value}{fuel:Nat}{listed:Array Bool}{a:Act}{w:World}(hi:ops[i]?=some oi)
 (hst:(Region.noSelect ops&&Region.free md ops listed i&&(Region.ready md ops listed).contains i&&anc md ops i ops.size g&&g != i)=true)
 (hcl:Closed md ops listed)
 (hQ:∀c a w,Q (.panic c) (a.put oi.dst v) w→Q (.panic c) a w) (hy:YieldsIf P ops S oi v a) (hS:S w)
 (h:Closed md ops (listed.setIfInBounds i true)→kI P md ops Q S g fuel (listed.setIfInBounds i true) (a.put oi.dst v) w):kI P md ops Q S g (fuel+1) listed a w:=by
 simp only[Bool.and_eq_true,bne_iff_ne]at hst
 obtain⟨⟨⟨⟨h1,h2⟩,h3⟩,h4⟩,h5⟩:=hst
 have h3':i∈Region.ready md ops listed:=by simpa using h3
 exact Sv hi (Region.noSelect_spec h1) hQ h4 h5 fuel listed a w hcl (Region.free_spec hi h2) h3' hy hS (h (hcl.set h3'))
theorem VZ {i:Nat}{o:Oper}{fuel:Nat}{listed:Array Bool}{a:Act}{w:World}(ho:ops[i]?=some o)(hr:Region.ready md ops listed=[i])(hcl:Closed md ops listed)
 (h:∀K':Act→World→Prop,Shut (∀a w,((listed.setIfInBounds i true).getD g false=false→S w)→(Closed md ops (listed.setIfInBounds i true)→kI P md ops Q S g fuel (listed.setIfInBounds i true) a w)→K' a w)→if Region.wanted o (yielded ops a.tmps)=true then Oper.wp P o a w K' Q else K' (a.put o.dst undef) w) :
 kI P md ops Q S g (fuel+1) listed a w:=by
 refine⟨fun h0=>(by rw[hr]at h0;cases h0),fun j hj=>?_⟩
 rw[hr]at hj
 have:j=i:=by simpa using hj
 subst this
 exact wpOp_step ho (fun K' hK=>h K' (fun a w hS hW=>hK a w ⟨hS,hW (hcl.set (by rw[hr];simp))⟩))
theorem bW {id:Nat}{a:Act}{w:World}(g:Nat)(S:World→Prop)(n:Nat)(hn:ops.size=n)(L:Array Bool)(hL:Array.replicate n false=L)(hm:P.follows .mixedOrders=true)(h:Closed .any ops L→kI P .any ops Q S g n L a w.drew):(Code.region id ops true).wp P Q a w:=by
 subst hn hL
 exact wp_region_any hm (JE _ _ _ _ (h (Closed.zero _)))
end
def aO {c:Obj}(a:w.heap[n]?=some c):n<w.heap.size:=by
 by_cases b:n<w.heap.size
 .exact b
 rw[Array.getElem?_eq_none gO]at a;cases a
def aI {a:Array V}{c:Nat×Nat}(d:w.heap[n]?=some (.cells a T c))(b:Nat):w.cell? (A n b)=a[b]?:=by simp[World.cell?,d]
def bA {a:Array V}(b:w.heap[n]?=some (.cells a T (0,0)))(c:Nat):w.frozen? (A n c)=false:=by simp[World.frozen?,b]
def aM (a:W)(b:Option Nat):a.grownBy a b:=⟨rfl,rfl,rfl,Q6 _,λ_ _ _=>rfl⟩
def aj (a:W)(b:Obj)(c:Option Nat):a.grownBy (a.alloc b) c:=⟨rfl,rfl,rfl,by simp,λa a _=>Below.heap_alloc _ _ _ a⟩
def bT {e:Option Nat}(b:w.grownBy w' z)(c:w'.grownBy u e)(d:Option Nat)(f:∀a,z=some a->a<w.heap.size->d=some a)(g:∀a,e=some a->a<w.heap.size->d=some a):w.grownBy u d:=
 ⟨c.os.trans b.os,c.tape.trans b.tape,c.output.trans b.output,YM b.size c.size,λa d e=>by
  rw[c.block a (WK d b.size) (λc=>e ((g a c.symm d).symm)),b.block a d (λc=>e ((f a c.symm d).symm))]⟩
def ay (a:w.grownBy w' none)(b:w'.grownBy u none):w.grownBy u none:=bT a b none (λb a=>by cases a) (λb a=>by cases a)
def aD (b:W)(a:Addr)(c:V):b.grownBy (b.setCell a c) (some a.block):=⟨rfl,rfl,rfl,by simp[World.setCell],λa _ b=>Below.heap_setCell _ _ _ _ (λa=>b (by rw[a]))⟩
def bB (a:w.grownBy w' z):w.grownBy w'.drew z:=⟨a.os,a.tape,a.output,a.size,a.block⟩
def dF (a:W)(b:Obj):(a.alloc b).heap[a.heap.size]?=some b:=by show(a.heap.push b)[a.heap.size]?=_;simp
def aeb (c:w.heap[n]?=some (.cells #[x,v'] T (0,0)))(b a:V):((w.setCell (A n 1) b).setCell (A n 0) a).heap[n]?=some (.cells #[a,b] T (0,0)):=by simp only[World.setCell,Array.getElem?_modify,c];simp
def JG (b:W)(a:Nat)(c d:V):b.grownBy ((b.setCell (A a 1) d).setCell (A a 0) c) (some a):=
 bT (aD b (A a 1) d) (aD _ (A a 0) c) (some a) (λb a _=>a) (λb a _=>a)
def aG (a:w.grownBy w' none)(b:w'.grownBy u (some n))(c:w.heap.size<=n):w.grownBy u none:=
 bT a b none (λn a _=>by cases a) (λb a b=>by cases a;omega)
def JH (a:w.grownBy w' none):Below w.heap.size w w':=⟨a.os,a.tape,a.output,a.size,λc b=>a.block c b (by simp)⟩
def mo {a:Obj}(b:(w.alloc a).grownBy w' none):w'.heap[w.heap.size]?=some a:=by rw[b.block _ (aO (dF w _)) (by simp)];exact dF w _
def dY (a:W)(b:Nat)(c:Option Nat):a.grownBy (a.drewN b) c:=⟨rfl,rfl,rfl,Q6 _,λ_ _ _=>rfl⟩
def aU (d:w.grownBy w' none){a:Addr}(b:w.cell? a=some x):w'.cell? a=some x:=by
 have e:a.block<w.heap.size:=by
  rcases WZ a.block w.heap.size with c|c
  .exact c
  unfold World.cell? at b;rw[Array.getElem?_eq_none c]at b;simp at b
 rw[World.cell?_of_block (w:=w) (d.block a.block e (by simp))];exact b
def sL {α:Type}:(∀(a:List α) (c:Nat) (b:α),a.toArray.setIfInBounds c b=(a.set c b).toArray)/\(∀(b d:α) (a:List α),(b::a).set 0 d=d::a)/\(∀(b d:α) (a:List α) (g:Nat),(b::a).set (g+1) d=b::a.set g d)/\(∀(f:List α) (c:Nat) (e:c<f.toArray.size),f.toArray[c]=f[c]'(by simpa using e))/\(∀(b:α) (a:List α) (e:0<(b::a).length),(b::a)[0]=b)/\(∀(b:α) (a:List α) (c:Nat) (e:c+1<(b::a).length),(b::a)[c+1]=a[c]'(by simpa using e)):=
 ⟨λ_ _ _=>List.setIfInBounds_toArray ..,λ_ _ _=>List.set_cons_zero ..,λ_ _ _ _=>List.set_cons_succ ..,λ_ _ _=>List.getElem_toArray ..,λ_ _ _=>List.getElem_cons_zero ..,λ_ _ _ _=>List.getElem_cons_succ ..⟩
section
variable {P:Program} {ops:Array Oper} {Q:Exit→Act→World→Prop} {md:Region.Mode} {S:World→Prop} {g:Nat}
theorem aV (i:Nat){oi:Oper}{v:Value}{fuel:Nat}{listed L:Array Bool}{a a':Act}{w:World}(hS:S w)(h:wpAnyH P md ops Q S fuel L a' w)(hi:ops[i]?=some oi:=by rfl)
 (hst:(Region.noSelect ops&&Region.free md ops listed i&&(Region.ready md ops listed).contains i)=true:=by kernel_rfl)
 (hw:Region.wanted oi (yielded ops a.tmps)=true:=by rfl)
 (hy:∀w',S w'→(execOp a.eval oi).run P w'=.ok (.value v) w':=by intro w' hSw;go_simp;try with_reducible rfl)
 (hL:listed.setIfInBounds i true=L:=by(try simp only[sL])<;>exact rfl) (ha:a.put oi.dst v=a':=by(try simp only[Act.put,sL])<;>exact rfl)
 (hQ:∀c a w,Q (.panic c) (a.put oi.dst v) w→Q (.panic c) a w:=by exact fun _ _ _ h=>h):wpAnyH P md ops Q S (fuel+1) listed a w:=by
 subst hL ha
 simp only[Bool.and_eq_true]at hst
 exact wpAnyH_take hi hst.1.1 hst.1.2 hst.2 hQ (.inl ⟨hw,hy⟩) hS h
theorem iN (i:Nat){oi:Oper}{v:Value}{fuel:Nat}{listed L:Array Bool}{a a':Act}{w:World}(hS:S w)(hcl:Closed md ops listed)(h:Closed md ops L→kI P md ops Q S g fuel L a' w)(hi:ops[i]?=some oi:=by rfl)
 (hst:(Region.noSelect ops&&Region.free md ops listed i&&(Region.ready md ops listed).contains i&&anc md ops i ops.size g&&g != i)=true:=by kernel_rfl)
 (hw:Region.wanted oi (yielded ops a.tmps)=true:=by rfl)
 (hy:∀w',S w'→(execOp a.eval oi).run P w'=.ok (.value v) w':=by intro w' hSw;go_simp;try with_reducible rfl)
 (hL:listed.setIfInBounds i true=L:=by(try simp only[sL])<;>exact rfl) (ha:a.put oi.dst v=a':=by(try simp only[Act.put,sL])<;>exact rfl)
 (hQ:∀c a w,Q (.panic c) (a.put oi.dst v) w→Q (.panic c) a w:=by exact fun _ _ _ h=>h):kI P md ops Q S g (fuel+1) listed a w:=by
 subst hL ha
 exact yY hi hst hcl hQ (.inl ⟨hw,hy⟩) hS h
theorem vL (i:Nat){oi:Oper}{v:Value}{fuel:Nat}{listed L:Array Bool}{a a':Act}{w:World}(hS:S w)(h:wpAnyH P md ops Q S fuel L a' w)(hi:ops[i]?=some oi:=by rfl)
 (hst:(Region.noSelect ops&&Region.free md ops listed i&&(Region.ready md ops listed).contains i)=true:=by kernel_rfl)
 (hw:Region.wanted oi (yielded ops a.tmps)=true:=by rfl)
 (hy:∀w',S w'→(execOp a.eval oi).run P w'=.ok (.value v) w':=by intro w' hSw;(try dsimp only at hSw);go_simp;try with_reducible rfl)
 (hL:listed.setIfInBounds i true=L:=by(try simp only[sL])<;>exact rfl) (ha:a.put oi.dst v=a':=by(try simp only[Act.put,sL])<;>exact rfl)
 (hQ:∀c a w,Q (.panic c) (a.put oi.dst v) w→Q (.panic c) a w:=by exact fun _ _ _ h=>h):wpAnyH P md ops Q S (fuel+1) listed a w:=by
 subst hL ha
 simp only[Bool.and_eq_true]at hst
 exact wpAnyH_take hi hst.1.1 hst.1.2 hst.2 hQ (.inl ⟨hw,hy⟩) hS h
theorem aZ (i:Nat){oi:Oper}{v:Value}{fuel:Nat}{listed L:Array Bool}{a a':Act}{w:World}(hS:S w)(hcl:Closed md ops listed)(h:Closed md ops L→kI P md ops Q S g fuel L a' w)(hi:ops[i]?=some oi:=by rfl)
 (hst:(Region.noSelect ops&&Region.free md ops listed i&&(Region.ready md ops listed).contains i&&anc md ops i ops.size g&&g != i)=true:=by kernel_rfl)
 (hw:Region.wanted oi (yielded ops a.tmps)=true:=by rfl)
 (hy:∀w',S w'→(execOp a.eval oi).run P w'=.ok (.value v) w':=by intro w' hSw;(try dsimp only at hSw);go_simp;try with_reducible rfl)
 (hL:listed.setIfInBounds i true=L:=by(try simp only[sL])<;>exact rfl) (ha:a.put oi.dst v=a':=by(try simp only[Act.put,sL])<;>exact rfl)
 (hQ:∀c a w,Q (.panic c) (a.put oi.dst v) w→Q (.panic c) a w:=by exact fun _ _ _ h=>h):kI P md ops Q S g (fuel+1) listed a w:=by
 subst hL ha
 exact yY hi hst hcl hQ (.inl ⟨hw,hy⟩) hS h
theorem mH (i:Nat){oi:Oper}{v:Value}{fuel:Nat}{listed L:Array Bool}{a a':Act}{w:World}(hS:S w)(h:wpAnyH P md ops Q S fuel L a' w)(hi:ops[i]?=some oi:=by rfl)
 (hst:(Region.noSelect ops&&Region.free md ops listed i&&(Region.ready md ops listed).contains i)=true:=by kernel_rfl)
 (hw:Region.wanted oi (yielded ops a.tmps)=true:=by rfl)
 (hy:∀w',S w'→(execOp a.eval oi).run P w'=.ok (.value v) w':=by intro w' hSw;subst hSw;go_simp;try with_reducible rfl)
 (hL:listed.setIfInBounds i true=L:=by(try simp only[sL])<;>exact rfl) (ha:a.put oi.dst v=a':=by(try simp only[Act.put,sL])<;>exact rfl)
 (hQ:∀c a w,Q (.panic c) (a.put oi.dst v) w→Q (.panic c) a w:=by exact fun _ _ _ h=>h):wpAnyH P md ops Q S (fuel+1) listed a w:=by
 subst hL ha
 simp only[Bool.and_eq_true]at hst
 exact wpAnyH_take hi hst.1.1 hst.1.2 hst.2 hQ (.inl ⟨hw,hy⟩) hS h
theorem eT (i:Nat){oi:Oper}{v:Value}{fuel:Nat}{listed L:Array Bool}{a a':Act}{w:World}(hS:S w)(hcl:Closed md ops listed)(h:Closed md ops L→kI P md ops Q S g fuel L a' w)(hi:ops[i]?=some oi:=by rfl)
 (hst:(Region.noSelect ops&&Region.free md ops listed i&&(Region.ready md ops listed).contains i&&anc md ops i ops.size g&&g != i)=true:=by kernel_rfl)
 (hw:Region.wanted oi (yielded ops a.tmps)=true:=by rfl)
 (hy:∀w',S w'→(execOp a.eval oi).run P w'=.ok (.value v) w':=by intro w' hSw;subst hSw;go_simp;try with_reducible rfl)
 (hL:listed.setIfInBounds i true=L:=by(try simp only[sL])<;>exact rfl) (ha:a.put oi.dst v=a':=by(try simp only[Act.put,sL])<;>exact rfl)
 (hQ:∀c a w,Q (.panic c) (a.put oi.dst v) w→Q (.panic c) a w:=by exact fun _ _ _ h=>h):kI P md ops Q S g (fuel+1) listed a w:=by
 subst hL ha
 exact yY hi hst hcl hQ (.inl ⟨hw,hy⟩) hS h
theorem eU (i:Nat){o:Oper}{fuel:Nat}{listed:Array Bool}{a:Act}{w:World}(hi:∀K':Act→World→Prop,Shut (∀a w,S w→(S w→wpAnyH P md ops Q S fuel (listed.setIfInBounds i true) a w)→K' a w)→if Region.wanted o (yielded ops a.tmps)=true then Oper.wp P o a w K' Q else K' (a.put o.dst undef) w)(hr:Region.ready md ops listed=[i]:=by kernel_rfl)(ei:ops[i]?=some o:=by rfl):wpAnyH P md ops Q S (fuel+1) listed a w:=wpAnyH_ready hr (by simp) (AllReadyH.cons ei hi AllReadyH.nil)
theorem qN (i j:Nat){o p:Oper}{fuel:Nat}{listed:Array Bool}{a:Act}{w:World}(hi:∀K':Act→World→Prop,Shut (∀a w,S w→(S w→wpAnyH P md ops Q S fuel (listed.setIfInBounds i true) a w)→K' a w)→if Region.wanted o (yielded ops a.tmps)=true then Oper.wp P o a w K' Q else K' (a.put o.dst undef) w)(hj:∀K':Act→World→Prop,Shut (∀a w,S w→(S w→wpAnyH P md ops Q S fuel (listed.setIfInBounds j true) a w)→K' a w)→if Region.wanted p (yielded ops a.tmps)=true then Oper.wp P p a w K' Q else K' (a.put p.dst undef) w)(hr:Region.ready md ops listed=[i,j]:=by kernel_rfl)(ei:ops[i]?=some o:=by rfl)(ej:ops[j]?=some p:=by rfl):wpAnyH P md ops Q S (fuel+1) listed a w:=wpAnyH_ready hr (by simp) (AllReadyH.cons ei hi (AllReadyH.cons ej hj AllReadyH.nil))
theorem amN (i j k:Nat){o p q:Oper}{fuel:Nat}{listed:Array Bool}{a:Act}{w:World}(hi:∀K':Act→World→Prop,Shut (∀a w,S w→(S w→wpAnyH P md ops Q S fuel (listed.setIfInBounds i true) a w)→K' a w)→if Region.wanted o (yielded ops a.tmps)=true then Oper.wp P o a w K' Q else K' (a.put o.dst undef) w)(hj:∀K':Act→World→Prop,Shut (∀a w,S w→(S w→wpAnyH P md ops Q S fuel (listed.setIfInBounds j true) a w)→K' a w)→if Region.wanted p (yielded ops a.tmps)=true then Oper.wp P p a w K' Q else K' (a.put p.dst undef) w)(hk:∀K':Act→World→Prop,Shut (∀a w,S w→(S w→wpAnyH P md ops Q S fuel (listed.setIfInBounds k true) a w)→K' a w)→if Region.wanted q (yielded ops a.tmps)=true then Oper.wp P q a w K' Q else K' (a.put q.dst undef) w)(hr:Region.ready md ops listed=[i,j,k]:=by kernel_rfl)(ei:ops[i]?=some o:=by rfl)(ej:ops[j]?=some p:=by rfl)(ek:ops[k]?=some q:=by rfl):wpAnyH P md ops Q S (fuel+1) listed a w:=wpAnyH_ready hr (by simp) (AllReadyH.cons ei hi (AllReadyH.cons ej hj (AllReadyH.cons ek hk AllReadyH.nil)))
theorem jX {fuel:Nat}{listed:Array Bool}{a:Act}{w:World}(h:Q .normal a w)(hr:Region.ready md ops listed=[]:=by kernel_rfl):wpAnyH P md ops Q S fuel listed a w:=wpAnyH_done hr h fuel
theorem wm {fuel:Nat}{listed:Array Bool}{a:Act}{w:World}(h:Q .normal a w)(hr:Region.ready md ops listed=[]:=by kernel_rfl):wpAny P md ops Q fuel listed a w:=wpAny_done hr h fuel
theorem jY (i:Nat){o:Oper}{fuel:Nat}{listed:Array Bool}{a:Act}{w:World}(hcl:Closed md ops listed)(h:∀K':Act→World→Prop,Shut (∀a w,((listed.setIfInBounds i true).getD g false=false→S w)→(Closed md ops (listed.setIfInBounds i true)→kI P md ops Q S g fuel (listed.setIfInBounds i true) a w)→K' a w)→if Region.wanted o (yielded ops a.tmps)=true then Oper.wp P o a w K' Q else K' (a.put o.dst undef) w)(hr:Region.ready md ops listed=[i]:=by kernel_rfl)(ho:ops[i]?=some o:=by rfl):kI P md ops Q S g (fuel+1) listed a w:=VZ ho hr hcl h
end
def aB (b:L)(a:Nat):Int:=b.getD a 0
def P (a:Nat):Int:=4294967296^a
def yZ:P 0=1:=rfl
def xK (a:Nat):P (a+1)=P a*4294967296:=Int.pow_succ _ _
def oP (a:Nat):0<P a:=Int.pow_pos (by decide)
def V4 (a b:Nat):P (a+b)=P a*P b:=Int.pow_add _ _ _
def dJ (b:L):Nat->Int
 | 0=>0
 | a+1=>dJ b a+aB b a*P a
def val (a:L):Int:=dJ a a.length
def WF (b:L):Prop:=∀a,0<=aB b a/\aB b a<4294967296
def Top (a:L):Prop:=a=[]\/aB a (a.length-1)≠0
def dI (b:L)(a:Nat)(c:b.length<=a):aB b a=0:=by simp[aB,List.getD,U8 c]
def nu (a:L)(c:Nat)(e:a.length<=c):dJ a c=val a:=by
 obtain⟨b,rfl⟩:∃b,c=a.length+b:=⟨c-a.length,gO⟩
 induction b with
 | zero=>rfl
 | succ b d=>
  rw[<-Nat.add_assoc,dJ,d gO,dI a _ gO];omega
def jT (d e:L)(a:Nat)(c:∀b,b<a->aB d b=aB e b):dJ d a=dJ e a:=by
 induction a with
 | zero=>rfl
 | succ a f=>rw[dJ,dJ,f (λb d=>c b gO),c a gO]
def rG (b:L)(c:WF b)(a:Nat):0<=dJ b a/\dJ b a<P a:=by
 induction a with
 | zero=>exact⟨DC _,(by decide:(0:Int)<1)⟩
 | succ a h=>
  have⟨d,g⟩:=c a;rw[dJ,xK];have hp:=oP a;have e:0<=aB b a*P a:=ZA d gO;have f:aB b a*P a<=4294967295*P a:=WA gO gO;generalize aB b a*P a=i at *
  omega
def su (a:L)(b:WF a):0<=val a/\val a<P a.length:=rG a b _
def xL (b c:Nat)(e:b<=c):P b<=P c:=by
 obtain⟨a,rfl⟩:∃a,c=b+a:=⟨c-b,gO⟩
 induction a with
 | zero=>exact DC _
 | succ a d=>rw[<-Nat.add_assoc,xK];have:=oP (b+a);have:=d gO;omega
def JI (a:L)(d:WF a)(c:Top a)(e:a≠[]):P (a.length-1)<=val a:=by
 rcases c with c|c
 .exact absurd c e
 have i:0<a.length:=List.length_pos_iff.2 e;unfold val;obtain⟨b,f⟩:∃b,a.length=b+1:=⟨a.length-1,gO⟩;rw[f,Nat.add_sub_cancel]at c;rw[f,dJ,Nat.add_sub_cancel];have:=(rG a d b).1;have h:=d b;have g:1*P b<=aB a b*P b:=WA gO (by have:=oP b;omega);omega
def Ey (a:L)(d:WF a)(f:Top a)(b:Nat)(g:val a<P b):a.length<=b:=by
 by_cases c:a=[]
 .subst c;simp
 have:=JI a d f c;by_cases e:a.length<=b
 .exact e
 have:=xL b (a.length-1) gO;omega
def nA:val []=0:=rfl
def val_zero (a:L)(c:WF a)(d:Top a)(e:val a=0):a=[]:=by
 by_cases b:a=[]
 .exact b
 have:=JI a c d b;have:=oP (a.length-1);omega
def zW (c:L)(b a:Nat):aB (c.take b) a=if a<b then aB c a else 0:=by simp only[aB,List.getD,KC];split<;>simp
def aec (b:L)(g:WF b)(a:Nat)(k:a<=b.length)(h:∀c,a<=c->c<b.length->aB b c=0)(d:a=0\/aB b (a-1)≠0):WF (b.take a)/\Top (b.take a)/\val (b.take a)=val b/\(b.take a).length=a:=by
 have e:(b.take a).length=a:=by rw[BJ];omega
 refine⟨λc=>?_,?_,?_,e⟩
 .rw[zW];have:=g c;split<;>omega
 .rcases d with d|d
  .left;subst d;rfl
  by_cases f:a=0
  .left;subst f;rfl
  right;rw[e,zW,pO];exact d
 have f:val (b.take a)=dJ b a:=by
  unfold val;rw[e];exact jT _ _ _ (λc c=>by rw[zW,Q9 c])
 rw[f];have:∀c,a+c<=b.length->dJ b (a+c)=dJ b a:=by
  intro c
  induction c with
  | zero=>intro _;rfl
  | succ c i=>intro j;rw[<-Nat.add_assoc,dJ,i gO,h (a+c) gO gO];omega
 have:=this (b.length-a) gO;rw[show a+(b.length-a)=b.length by omega]at this;exact this.symm
def mP (d:L)(b a:Nat)(e:Int)(g:b<d.length):aB (d.set b e) a=if a=b then e else aB d a:=by
 simp only[aB,List.getD,WB];by_cases c:b=a
 .subst c;simp[g]
 have f:¬a=b:=λa=>c a.symm;simp[c,f]
def xM (a:L)(c:Nat)(b:Int)(e:WF a)(f:c<a.length)(g:0<=b)(h:b<4294967296):WF (a.set c b):=by intro d;rw[mP a c d b f];have:=e d;split<;>omega
def wC (a:Nat):WF (List.replicate a 0):=by intro b;simp only[aB,List.getD,List.getElem?_replicate];split<;>simp
def mQ (b a:Nat):aB (List.replicate b (0:Int)) a=0:=by simp only[aB,List.getD,List.getElem?_replicate];split<;>simp
def za (c a:Nat):dJ (List.replicate c 0) a=0:=by
 induction a with
 | zero=>rfl
 | succ a b=>rw[dJ,b,mQ];omega
def vM:WF []:=λa=>by simp[aB]
def rA:Top []:=Or.inl rfl
def WF2 (a b:Int)(d:0<=a)(e:a<4294967296)(f:0<=b)(g:b<4294967296):WF [a,b]:=by
 intro c
 match c with
 | 0=>exact⟨d,e⟩
 | 1=>exact⟨f,g⟩
 | c+2=>simp[aB]
def ank (a b:Int):val [a,b]=a+b*4294967296:=by show 0+a*P 0+b*P 1=_;have:P 1=4294967296:=rfl;rw[this,yZ];omega
def V5 (b c:L)(k:WF b)(l:WF c)(e a:Nat)(m:a<e)(h:∀d,a<d->d<e->aB b d=aB c d)(n:aB b a<aB c a):dJ b e<dJ c e:=by
 obtain⟨f,rfl⟩:∃f,e=a+1+f:=⟨e-(a+1),gO⟩;clear m
 induction f with
 | zero=>
  show dJ b a+_<dJ c a+_;have g:=rG b k a;have j:=rG c l a;have i:(aB b a+1)*P a<=aB c a*P a:=WA gO (by have:=oP a;omega);rw[GL]at i;omega
 | succ f i=>
  rw[<-Nat.add_assoc,dJ,dJ];have:=i (λd g j=>h d g gO);rw[h (a+1+f) gO gO];omega
def af2 (b c:L)(a:Nat)(e:∀d,d<a->aB b d=aB c d):dJ b a=dJ c a:=jT b c a e
def Ez (b a:L)(e:WF b)(f:WF a)(g:Top a)(d:b.length<a.length):val b<val a:=by have h:=(su b e).2;have i:=JI a f g (by intro c;subst c;simp at d);have:=xL b.length (a.length-1) gO;omega
def Bits (b:Int)(a:Nat):Prop:=b<2^a/\(b=0->a=0)/\(0<b->1<=a/\2^(a-1)<=b)
def fA (a:Int):Int:=if a < -32768 then -32768 else if 32767<a then 32767 else a
def o16 (a:Int):Bool:=fA a != a
def amO (b a:Int):Int:=b % a
def mq (a:Int):-32768<=fA a/\fA a<=32767:=by unfold fA;split<;>(try split)<;>omega
def JJ (a:Int)(b:-32768<=a)(c:a<=32767):fA a=a:=by unfold fA;split<;>(try split)<;>omega
def alA (a:Int):(if 32767<(if a < -32768 then -32768 else a)then 32767 else(if a < -32768 then -32768 else a))=fA a:=by unfold fA;split<;>split<;>(try split)<;>omega
def uf (a b:Int)(g:-32768<=a)(h:a<=32767)(i:-32768<=b)(j:b<=32767):-1073709056<=a*b/\a*b<=1073741824:=by have c:0<=(32767-a)*(b+32768):=ZA gO gO;have d:0<=(a+32768)*(32767-b):=ZA gO gO;have e:0<=(a+32768)*(b+32768):=ZA gO gO;have f:0<=(32767-a)*(32767-b):=ZA gO gO;simp only[Int.sub_mul,GL,Int.mul_add,Int.mul_sub]at c d e f;omega
def Je (a:Int)(b:-9223372036854775808<=a)(c:a<=9223372036854775807):wrap64 a=a:=by unfold wrap64;omega
def alB (b:Int)(a:Nat)(c d:Int)(i:c<=0)(g:0<=d)(h:c<=b)(f:b<=d):c<=b / 2^a/\b / 2^a<=d:=by
 have hp:(0:Int)<2^a:=Int.pow_pos (by decide);refine⟨?_,?_⟩
 .rw[Int.le_ediv_iff_mul_le hp];have j:(1:Int)<=2^a:=hp;have e:0<=(0-c)*(2^a-1):=ZA gO gO;simp only[Int.sub_mul,Int.mul_sub]at e;omega
 exact Int.le_trans (Int.ediv_le_ediv hp f) (Int.ediv_le_self _ g)
def aY (e:W)(d:V)(a:L):Prop:=
 ∃(b:Option Addr) (c:Nat),d=.slice b a.length c/\a.length<=c/\(0<a.length->∃c,b=some c/\∀b,b<a.length->e.cell? (c.add b)=some (I (aB a b)))
def aL (a:L):Bool:=a.all λa=>decide (-32768<=a)&&decide (a<=32767)
def bD (c:L):aL c=true↔∀a,a<c.length->-32768<=aB c a/\aB c a<=32767:=by
 unfold aL;rw[List.all_eq_true];constructor
 .intro d a b;have:=d c[a] (List.getElem_mem b);simp only[VL,decide_eq_true_eq]at this;simpa [aB,List.getD,b] using this
 intro d f e;obtain⟨a,b,rfl⟩:=List.getElem_of_mem e;have:=d a b;simp only[aB,List.getD,KM b,Option.getD_some]at this;simp[this]
def aF (a:L):Array V:=(a.map (Value.int .i64)).toArray
def pQ (b:L)(a:Nat)(c:a<b.length):(aF b)[a]?=some (I (aB b a)):=by simp[aF,aB,List.getD,c]
def wD (b:L)(a:Nat)(c:Int):(aF b).setIfInBounds a (I c)=aF (b.set a c):=by simp[aF,List.map_set]
def nY:(prog.info? 3).map (λa=>(a.zero,a.size,a.bytes))=some (some (I 0),1,8):=by kernel_rfl
def EA (n:Nat):madeCells #[I 0] n=aF (List.replicate n 0):=by
 unfold aF madeCells;apply Array.ext
 .simp
 intro c a b;simp[Nat.mod_one]
def JK (a:Int)(d:0<=a)(j:a<=35184372088832)(b:W):(Instr.makeSlice 26 (I a) (I a)).run prog b=.ok (.slice (S b.heap.size) a.toNat a.toNat) (b.alloc (.cells (aF (List.replicate a.toNat 0)) 3)):=by have⟨i,e,f,g,h⟩:=info_parts nY;have c:=run_make (P:=prog) b 26 3 i (I 0) underlying26 e f .i64 .i64 a a d (DC _) (by rw[h];omega) gO;rw[<-EA];simpa [g,Value.cells] using c
def aR (a:aY w x l)(f:w.grownBy w' none):aY w' x l:=by obtain⟨c,e,rfl,g,d⟩:=a;refine⟨c,e,rfl,g,λa=>?_⟩;obtain⟨b,rfl,h⟩:=d a;exact⟨b,rfl,λb a=>aU f (h b a)⟩
def Lists (c:W)(a:L)(e:Ending)(d:W):Prop:=∃b,e=.returned b/\d.ownsRow c.heap.size 3 1 b a.length (a.map (Value.int .i64))/\c.grownBy d none
def Sw (d:w.ownsRow n 3 1 x l.length (l.map (Value.int .i64))):aY w x l:=by
 have⟨m,a⟩:=d;rcases a with⟨a,h⟩|⟨b,e,f,a,_,i,j,_,o,k⟩
 .exact⟨none,0,by rw[a,h],gO,λd=>gO⟩
 refine⟨some (A b 0),e,a,j,λ_=>⟨_,rfl,λa d=>?_⟩⟩;have c:(f.toList.take (l.length*1))[a]?=(l.map (Value.int .i64))[a]?:=by rw[k]
 rw[KC,pO,Array.getElem?_toList]at c;have g:((A b 0):Addr).add a=(A b a):=by unfold Addr.add;split<;>simp_all
 rw[g,aI i,c];simp[aB,List.getD,d]
def heap_setCell {a:Array V}(c:w.heap[n]?=some (.cells a T (0,0)))(b:V):(w.setCell (A n k) b).heap[n]?=some (.cells (a.setIfInBounds k b) T (0,0)):=by simp only[World.setCell,Array.getElem?_modify,c];simp
def iG {b:Array V}(f:w.heap[n]?=some (.cells b T (0,0)))(a:Nat)(c d:Int)(g:b[a]?=some (I c))(h:b[a+1]?=some (I d)):aY w (.slice (some (A n a)) 2 2) [c,d]:=by
 refine⟨some (A n a),2,rfl,Q6 _,λ_=>⟨_,rfl,λb c=>?_⟩⟩;have e:((A n a):Addr).add b=(A n (a+b)):=by unfold Addr.add;split<;>simp_all
 rw[e,aI f]
 match b,c with
 | 0,_=>exact g
 | 1,_=>exact h
def zQ (a b c d e:Int):Int:=fA ((3798*(a-2*b+c)+7807*d-3733*e+2048) / 4096)
def lC (b:L)(c:L):Nat->L
 | 0=>c
 | a+1=>lC b c a++[zQ (aB b (a+2)) (aB b (a+1)) (aB b a) (aB (lC b c a) (a+1)) (aB (lC b c a) a)]
def uV (b:L)(c d:Int):∀a,(lC b [d,c] a).length=a+2
 | 0=>rfl
 | a+1=>by
  show(lC b [d,c] a++[_]).length=_;rw[ZB,uV b c d a];rfl
def JL (c d:Int)(b:L)(e:aL [c,d]=true)(i:aL b=true)(a:Nat):-32768<=aB ([d,c]++b) a/\aB ([d,c]++b) a<=32767:=by
 have f:=(bD _).1 e 0 (by simp);have g:=(bD _).1 e 1 (by simp)
 match a with
 | 0=>exact g
 | 1=>exact f
 | a+2=>
  show -32768<=aB b a/\aB b a<=32767;by_cases h:a<b.length
  .exact(bD _).1 i a h
  rw[dI b a gO];omega
def ze (c:List Int)(d e:Int)(h:aL [d,e]=true):∀b a,-32768<=aB (lC c [e,d] b) a/\aB (lC c [e,d] b) a<=32767
 | 0,a=>by
  have f:=(bD _).1 h 0 (by simp);have g:=(bD _).1 h 1 (by simp)
  match a with
  | 0=>exact g
  | 1=>exact f
  | a+2=>show -32768<=aB [] a/\aB [] a<=32767;rw[dI [] a (by simp)];omega
 | b+1,a=>by
  have k:=ze c d e h b;have l:=uV c d e b;show -32768<=aB (lC c [e,d] b++[_]) a/\aB (lC c [e,d] b++[_]) a<=32767;generalize i:zQ (aB c (b+2)) (aB c (b+1)) (aB c b) (aB (lC c [e,d] b) (b+1)) (aB (lC c [e,d] b) b)=f;have j:-32768<=f/\f<=32767:=by rw[<-i];exact mq _
  generalize lC c [e,d] b=L at *
  rcases Nat.lt_trichotomy a L.length with g|g|g
  .have:aB (L++[f]) a=aB L a:=by simp[aB,List.getD,H6,g]
   rw[this];exact k a
  .have:aB (L++[f]) a=f:=by subst g;simp[aB,List.getD]
   rw[this];exact j
  rw[dI _ a (by simp;omega)];omega
def eG (a:Int)(c:-9223372036854775808<=a)(d:a<=9223372036854775807):IntKind.i64.wrap a=a:=by
 show(if(true&&decide (a % 18446744073709551616>=9223372036854775808))=true then a % 18446744073709551616-18446744073709551616 else a % 18446744073709551616)=a;split
 .rename_i b;simp at b;omega
 rename_i b;simp at b;omega
def iI (b:L):Prop:=∀a,-9223372036854775808<=aB b a/\aB b a<=9223372036854775807
def bY (d:W)(b:Nat)(a:TypeId)(c:L):Prop:=d.heap[b]?=some (.cells (aF c) a (0,0))
def bY.cell (b:bY w n T l)(a:Nat)(c:a<l.length):w.cell? (A n a)=some (I (aB l a)):=(aI b a).trans (pQ l a c)
def bY.free (b:bY w n T l)(a:Nat):w.frozen? (A n a)=false:=bA b a
def bY.lt (a:bY w n T l):n<w.heap.size:=aO a
def bY.aC (a:bY w n T l)(b:w.grownBy w' none):bY w' n T l:=(b.block _ (aO a) (by simp)).trans a
def bY.aH (a:bY w n T l)(c:w.grownBy w' (some b))(d:n≠b):bY w' n T l:=(c.block _ (aO a) (by simpa using d)).trans a
def bY.new (a:W)(b:TypeId)(c:L):bY (a.alloc (.cells (aF c) b)) a.heap.size b c:=dF a _
def bY.new1 (c:W)(d:Obj)(a:TypeId)(b:L):bY ((c.alloc d).alloc (.cells (aF b) a)) (c.heap.size+1) a b:=by simpa using bY.new (c.alloc d) a b
def bY.set (c:bY w n T l)(a:Nat)(b:Int):bY (w.setCell (A n a) (I b)) n T (l.set a b):=by unfold bY;rw[heap_setCell c,wD]
def bY.range (a:bY w n T l):w.rangeAt n 0 (l.map (Value.int .i64)):=λb b b=>by
 rw[WT,aI a];simpa [aF] using b
def bY.there (a:bY w n T l):w.there n 0 l.length:=λb c=>by
 rw[WT];exact⟨by rw[a.cell b c];rfl,a.free b⟩
def af3 (b:bY w n T l)(a:TypeDesc)(e:prog.underlying T=some a)(c:a.isRow=true)(d:(prog.info? T).map (·.size)=some l.length):Sem.run prog (Instr.loadAt T (.pointer (S n))) w=.ok (.agg (aF l)) w:=
 run_loadAt_mid w n 0 T (l.map (Value.int .i64)) a b.range e c (by simpa using d)
def V9 (b:bY w n T l)(a:TypeDesc)(e:prog.underlying T=some a)(c:a.isRow=true)(d:(prog.info? T).map (·.size)=some l.length):Sem.run prog (loadVar T (A n 0)) w=.ok (.agg (aF l)) w:=
 run_loadVar_mid w n 0 T (l.map (Value.int .i64)) a b.range e c (by simpa using d)
def b_ (c:W)(a:Nat)(b:L):W:=c.setCells a 0 (b.map (Value.int .i64))
def ED (b:L):(aF b).all (·.oneCell')=true:=by apply all_oneCell_toArray;intro c a;obtain⟨d,_,rfl⟩:=List.mem_map.1 a;rfl
def Bd (c:Nat)(j:TypeId):∀(f:List V) (b:Nat) (e:W) (d:Array V),e.heap[c]?=some (.cells d j (0,0))->b+f.length<=d.size->
 ∃g,(e.setCells c b f).heap[c]?=some (.cells g j (0,0))/\g.size=d.size/\(∀a,a<b->g[a]?=d[a]?)/\(∀a,a<f.length->g[b+a]?=f[a]?)/\e.grownBy (e.setCells c b f) (some c)
 | [],b,e,d,k,_=>⟨d,k,rfl,λ_ _=>rfl,λa h=>by simp at h,aM e _⟩
 | i::f,b,e,d,k,r=>by
  simp only[List.length_cons]at r;have q:=heap_setCell (k:=b) k i;have⟨g,m,n,l,o,p⟩:=Bd c j f (b+1) (e.setCell (A c b) i) (d.setIfInBounds b i) q (by simp;omega);refine⟨g,m,by simpa using n,λa h=>?_,λa h=>?_,bT (aD e (A c b) i) p (some c) (λa c _=>c) (λa c _=>c)⟩
  .rw[l a gO];simp[Array.getElem?_setIfInBounds,show ¬b=a by omega]
  match a,h with
  | 0,_=>
   rw[Nat.add_zero,l b gO];simp[Array.getElem?_setIfInBounds,show b<d.size by omega]
  | a+1,h=>
   have:=o a (by simp at h;omega);rw[show b+(a+1)=b+1+a by omega,this];simp
def bF {rs':L}(g:bY w n T l)(i:rs'.length=l.length):bY (b_ w n rs') n T rs'/\w.grownBy (b_ w n rs') (some n):=by
 have⟨f,b,c,_,d,e⟩:=Bd n T (rs'.map (Value.int .i64)) 0 w (aF l) g (by simp[aF,i]);refine⟨?_,e⟩;unfold bY b_;rw[b];have:f=aF rs':=by
  apply Array.ext_getElem?;intro a;by_cases h:a<rs'.length
  .have:=d a (by simpa using h);rw[WT]at this;rw[this];simp[aF]
  rw[Array.getElem?_eq_none (by rw[c];simp[aF];omega),Array.getElem?_eq_none (by simp[aF];omega)]
 rw[this]
def Ip {g:Array Oper}{rest:List Oper}(j:o.guard=none)(b:TypeId)(f:Operand)(l:o.op=.load b f)
 (d:Nat) (n:a.eval f=.pointer (S d)) (c:L) (h:bY w d b c) (e:TypeDesc) (m:prog.underlying b=some e) (i:e.isRow=true) (k:(prog.info? b).map (·.size)=some c.length)
 (p:wpList prog g Q rest (a.put o.dst (.agg (aF c))) w):wpList prog g Q (o::rest) a w:=
 wpList_load_mid j b f l d 0 n (c.map (Value.int .i64)) e h.range m i (by simpa using k) p
def qO {i:Array Oper}{rest:List Oper}(k:o.guard=none)(c:TypeId)(f g:Operand)(m:o.op=.store c f g)
 (d:Nat) (e b:L) (n:a.eval f=.pointer (S d)) (p:a.eval g=.agg (aF b)) (j:bY w d c e) (h:b.length=e.length) (l:(prog.info? c).map (·.size)=some e.length)
 (q:wpList prog i Q rest (a.put o.dst undef) (b_ w d b)):wpList prog i Q (o::rest) a w:=
 wpList_store_mid k c f g m d 0 (aF b) n p (by rw[show(aF b).size=e.length by simp[aF,h]];exact j.there) (by simpa [aF,h] using l) (ED b) (by simpa [b_,aF] using q)
def au (a:Nat):L:=List.replicate a 0
def ak (a:Nat):(au a).length=a:=by simp[au]
def jU (b a:Nat):aB (au b) a=0:=by simp[au,aB,List.getD,List.getElem?_replicate];split<;>rfl
def fT (a:(prog.info? T).bind (·.zero)=some (.agg (aF (au n))))(b:W):Sem.run prog (zeroValue T) b=.ok (.agg (aF (au n))) b:=by
 cases hq:prog.info? T with
 | none=>simp[hq]at a
 | some d=>
  have c:d.zero=some (.agg (aF (au n))):=by simpa [hq] using a
  simp[zeroValue,typeInfo,hq,c]
def gF (b:L)(i:prog.underlying T=some (.array n 3))(a:Nat)(g:a<b.length)(l:b.length=n)(c:W):Sem.run prog (Instr.index T (.agg (aF b)) (I a)) c=.ok (I (aB b a)) c:=by have e:=pQ b a g;have d:(0:Int)<=a/\(a:Int)<n:=gO;have⟨p,f,m,j,o⟩:=info_parts nY;simp[Instr.index,run_underlying i,asIntOf,d,go_sem,sizeOf,typeInfo,f,j,part,isAgg,run_underlying underlying3,e];intro k;omega
def gU (a:Nat)(c:a<=35184372088832)(b:W):(Instr.makeSlice 26 (I a) (I a)).run prog b=.ok (.slice (S b.heap.size) a a) (b.alloc (.cells (aF (au a)) 3)):=by have:=JK a gO gO b;simpa [au] using this
def dG (a:W)(b:TypeId)(c:Nat)(L:List Int)(f:L.length=c):bY (a.alloc (.cells (aF (au c)) b)) a.heap.size b (au c)/\bY (b_ (a.alloc (.cells (aF (au c)) b)) a.heap.size L) a.heap.size b L/\a.grownBy (b_ (a.alloc (.cells (aF (au c)) b)) a.heap.size L) none:=by have e:=bY.new a b (au c);have d:=bF (rs':=L) e (by rw[f,ak]);exact⟨e,d.1,aG (aj _ _ none) d.2 (Q6 _)⟩
def fD {f:Array Oper}{rest:List Oper}(j:Region.wanted o (yielded f a.tmps)=true)(b:TypeId)(g:Operand)(l:o.op=.load b g)
 (d:Nat) (n:a.eval g=.pointer (S d)) (c:L) (h:bY w d b c) (e:TypeDesc) (m:prog.underlying b=some e) (i:e.isRow=true) (k:(prog.info? b).map (·.size)=some c.length)
 (p:wpList prog f Q rest (a.put o.dst (.agg (aF c))) w):wpList prog f Q (o::rest) a w:=by
 refine wpList_step λf f=>?_;rw[Q9 j];exact wp_load_mid b g l d 0 n (c.map (Value.int .i64)) e h.range m i (by simpa using k) (f _ _ p)
def cZ (a:L):Bool:=a.all λa=>decide (-32768<a)&&decide (a<32768)
def CG (c:L)(e:Int->Bool):c.all e=true↔∀a,a<c.length->e (aB c a)=true:=by
 rw[List.all_eq_true];constructor
 .intro d a b;have:=d c[a] (List.getElem_mem b);simpa [aB,List.getD,b] using this
 intro d g f;obtain⟨a,b,rfl⟩:=List.getElem_of_mem f;have:=d a b;simpa [aB,List.getD,b] using this
def iO (a:L):cZ a=true↔∀b,b<a.length->-32768<aB a b/\aB a b<32768:=by unfold cZ;rw[CG];simp
def aao {k:L}(a:Nat)(c:a<k.length)(b:¬(-32768<aB k a/\aB k a<32768)):cZ k=false:=by
 rcases hb:cZ k with _|_
 .rfl
 exact absurd ((iO k).1 hb a c) b
def Er (a:Int):Nat->Int
 | 0=>32768
 | b+1=>(Er a b*a+16384) / 32768
def Sy (a:Int)(c:0<=a)(d:a<=32768):∀b,0<=Er a b/\Er a b<=32768
 | 0=>by simp[Er]
 | b+1=>by
  have⟨e,f⟩:=Sy a c d b;have g:0<=Er a b*a:=ZA e c;have h:Er a b*a<=32768*32768:=Int.mul_le_mul f d c (by decide);show 0<=(Er a b*a+16384) / 32768/\(Er a b*a+16384) / 32768<=32768;omega
def Bf (a:L):Bool:=a.all λa=>decide (-1073741824<=a)&&decide (a<=1073741824)
def zX (a:L):Bf a=true↔∀b,b<a.length->-1073741824<=aB a b/\aB a b<=1073741824:=by unfold Bf;rw[CG];simp
def af4 {k:L}(a:Nat)(c:a<k.length)(b:¬(-1073741824<=aB k a/\aB k a<=1073741824)):Bf k=false:=by
 rcases hb:Bf k with _|_
 .rfl
 exact absurd ((zX k).1 hb a c) b
def OH (b:L)(a:Int):Bool:=decide (0<=a)&&decide (a<=32768)&&Bf b
def JM (b:L)(c:Int)(a:Nat):Int:=(aB b a*Er c a+16384) / 32768
def wF (a:L)(b:Int):L:=if OH a b=true then(List.range 9).map (JM a b)else au 9
def Bu (a:L)(b:Int):Int:=if OH a b=true then 0 else 2
def CJ (a:L)(b:Int):(wF a b).length=9:=by unfold wF;split<;>simp[au]
def zY (a b:Int)(f:-1073741824<=a)(g:a<=1073741824)(c:0<=b)(h:b<=32768):-35184372088832<=a*b/\a*b<=35184372088832:=by have d:0<=(a+1073741824)*b:=ZA gO c;have e:0<=(1073741824-a)*b:=ZA gO c;simp only[GL,Int.sub_mul]at d e;omega
def Iq (c d:L)(b:Int)(a:Nat):Int:=(aB c a*(4-b)+aB d a*b).tdiv 4
def V_ (b c:L)(a:Int):Bool:=decide (0<=a)&&decide (a<=4)&&cZ b&&cZ c
def pR (a b:L)(c:Int):L:=if V_ a b c=true then(List.range 8).map (Iq a b c)else au 8
def CP (a b:L)(c:Int):Int:=if V_ a b c=true then 0 else 2
def wG (a b:L)(c:Int):(pR a b c).length=8:=by unfold pR;split<;>simp[au]
def jF (a:Nat)(c:Nat->Int)(d:Nat)(b:L):Prop:=b.length=a/\∀a,a<d->aB b a=c a
def eD (d:jF n f b l)(g:b<n):jF n f (b+1) (l.set b (f b)):=by
 have⟨c,e⟩:=d;refine⟨by simpa using c,λd a=>?_⟩;by_cases a:d=b
 .subst a;simp[aB,List.getD,c,g]
 have:=e d gO;simpa [aB,List.getD,WB,Ne.symm a] using this
def fB (a:jF n f n l):l=(List.range n).map f:=by
 apply List.ext_getElem
 .simp[a.1]
 intro c b d;have:=a.2 c (by have:=a.1;omega);simpa [aB,List.getD,b] using this
def iP (a:Nat)(b:Nat->Int):jF a b 0 (au a):=⟨ak a,λa a=>gO⟩
def bZ:(prog.info? 69).map (·.size)=some 9:=by kernel_rfl
def bG:(prog.info? 50).map (·.size)=some 8:=by kernel_rfl
def oV:aF (au 9)=#[I 0,I 0,I 0,I 0,I 0,I 0,I 0,I 0,I 0]:=rfl
def uR:aF (au 8)=#[I 0,I 0,I 0,I 0,I 0,I 0,I 0,I 0]:=rfl
def JN (a:W):Sem.run prog (Instr.build 69 #[]) a=.ok (.agg (aF (au 9))) a:=run_build a 69 #[] (aF (au 9)) (by kernel_rfl)
def pU (a:W):Sem.run prog (Instr.build 50 #[]) a=.ok (.agg (aF (au 8))) a:=run_build a 50 #[] (aF (au 8)) (by kernel_rfl)
def qP (c:W)(L:List Int)(b:Int)(a:Ending)(d:W):Prop:=a=.returned (.tuple #[.agg (aF L),I b])/\c.grownBy d none
def oQ (a:W)(b c f:TypeId)(d e g:L):bY (((a.alloc (.cells (aF d) b)).alloc (.cells (aF e) c)).alloc (.cells (aF g) f)) a.heap.size b d/\bY (((a.alloc (.cells (aF d) b)).alloc (.cells (aF e) c)).alloc (.cells (aF g) f)) (a.heap.size+1) c e/\bY (((a.alloc (.cells (aF d) b)).alloc (.cells (aF e) c)).alloc (.cells (aF g) f)) (a.heap.size+1+1) f g/\a.grownBy (((a.alloc (.cells (aF d) b)).alloc (.cells (aF e) c)).alloc (.cells (aF g) f)) none:=by have h:=aj ((a.alloc (.cells (aF d) b)).alloc (.cells (aF e) c)) (.cells (aF g) f) none;refine⟨((bY.new a b d).aC (aj _ _ none)).aC h,(bY.new1 a _ c e).aC h,?_,ay (ay (aj _ _ none) (aj _ _ none)) h⟩;simpa using bY.new ((a.alloc (.cells (aF d) b)).alloc (.cells (aF e) c)) f g
def nI (a:W)(b c:TypeId)(d e:L):bY ((a.alloc (.cells (aF d) b)).alloc (.cells (aF e) c)) a.heap.size b d/\bY ((a.alloc (.cells (aF d) b)).alloc (.cells (aF e) c)) (a.heap.size+1) c e/\a.grownBy ((a.alloc (.cells (aF d) b)).alloc (.cells (aF e) c)) none:=
 ⟨(bY.new a b d).aC (aj _ _ none),bY.new1 a _ c e,ay (aj _ _ none) (aj _ _ none)⟩
def jc (a b:W)(c d:TypeId)(e f:L):Prop:=bY b a.heap.size c e/\bY b (a.heap.size+1) d f/\a.grownBy b none
def iX (a b:W)(c d e:TypeId)(f g h:L):Prop:=bY b a.heap.size c f/\bY b (a.heap.size+1) d g/\bY b (a.heap.size+1+1) e h/\a.grownBy b none
def jc.aC {c:TypeId}(b:jc w w' T c l p)(a:w'.grownBy u none):jc w u T c l p:=⟨b.1.aC a,b.2.1.aC a,ay b.2.2 a⟩
def iX.aC {c d:TypeId}(b:iX w w' T c d l p r)(a:w'.grownBy u none):iX w u T c d l p r:=⟨b.1.aC a,b.2.1.aC a,b.2.2.1.aC a,ay b.2.2.2 a⟩
def jc.set {d:TypeId}(b:jc w w' T d l p)(a:Nat)(c:Int):jc w (w'.setCell (A w.heap.size a) (I c)) T d (l.set a c) p:=
 ⟨b.1.set a c,b.2.1.aH (aD _ (A w.heap.size a) _) (by simp),aG b.2.2 (aD _ (A w.heap.size a) _) (by simp)⟩
def iX.set {d e:TypeId}(b:iX w w' T d e l p r)(a:Nat)(c:Int):iX w (w'.setCell (A w.heap.size a) (I c)) T d e (l.set a c) p r:=
 ⟨b.1.set a c,b.2.1.aH (aD _ (A w.heap.size a) _) (by simp),b.2.2.1.aH (aD _ (A w.heap.size a) _) (by simp;omega),aG b.2.2.2 (aD _ (A w.heap.size a) _) (by simp)⟩
def iX.Sz {d e:TypeId}(b:iX w w' T d e l p r)(a:Nat)(c:Int):iX w (w'.setCell (A (w.heap.size+1+1) a) (I c)) T d e l p (r.set a c):=
 ⟨b.1.aH (aD _ (A (w.heap.size+1+1) a) _) (by simp;omega),b.2.1.aH (aD _ (A (w.heap.size+1+1) a) _) (by simp),b.2.2.1.set a c,aG b.2.2.2 (aD _ (A (w.heap.size+1+1) a) _) (by simp;omega)⟩
def f_ (a:Nat)(b:Nat->Int):L:=(List.range a).map b
def cK (a:Nat)(b:Nat->Int):(f_ a b).length=a:=by simp[f_]
def dP (b:Nat)(c:Nat->Int)(a:Nat)(d:a<b):aB (f_ b c) a=c a:=by simp[f_,aB,List.getD,d]
def dL {p:Nat->Int}(b:l.length=n)(c:∀a,a<n->aB l a=p a):l=f_ n p:=fB (n:=n) ⟨b,c⟩
def acU (d:Nat)(f:Nat->Int)(b:Nat)(g:Int)(h:b<d):(f_ d f).set b g=f_ d (λa=>if a=b then g else f a):=by
 apply dL
 .simp[cK]
 intro a e;by_cases c:a=b
 .subst c;simp[aB,List.getD,f_,e]
 simp[aB,List.getD,f_,e,c,WB,Ne.symm c]
def E_ (a:Nat):au a=f_ a (λ_=>0):=dL (ak a) (λb _=>jU a b)
def gr (b:Nat->Int)(c:Nat)(d:Int)(a:Nat):Int:=if 1<=a/\a<=c then b a+d*b (c-a) / 32768 else b a
def Wi (c:Nat->Int)(a:Int):Prop:=∀b,-a<=c b/\c b<=a
def CQ (b c a:Int)(h:-32768<=b)(i:b<=32768)(j:-a<=c)(k:c<=a):-(32768*a)<=b*c/\b*c<=32768*a:=by have d:0<=(32768-b)*(a-c):=ZA gO gO;have e:0<=(32768+b)*(a+c):=ZA gO gO;have f:0<=(32768-b)*(a+c):=ZA gO gO;have g:0<=(32768+b)*(a-c):=ZA gO gO;simp only[GL,Int.sub_mul,Int.mul_add,Int.mul_sub]at d e f g;omega
def alb (c:Wi f i)(l:0<=i)(e:Nat)(a:Int)(g:-32768<=a)(h:a<=32768):Wi (gr f e a) (2*i):=by intro d;have j:=c d;have b:=c (e-d);have k:=CQ a _ i g h b.1 b.2;unfold gr;split<;>omega
def af5 {m:Nat}(b:∀a,m<=a->f a=0)(c:Int):∀a,m+1<=a->gr f m c a=0:=by intro a d;unfold gr;rw[nO];exact b a gO
def CU (a:Nat):Int:=if a=0 then 16777216 else 0
def CV:Wi CU 16777216:=by intro a;unfold CU;split<;>omega
def alC (a:Int)(e:-32768<=a)(f:a<=32768):Wi (gr CU 1 a) 16777216:=by
 intro b;have d:=CV b;have c:=CV (1-b);have g:=CQ a _ _ e f c.1 c.2;unfold gr;split
 .rename_i h;have:b=1:=gO;subst this;simp only[CU]at *
  simp at *
  omega
 exact d
def zZ (b:Nat->Int):Nat->Nat->Int
 | 0=>CU
 | a+1=>gr (zZ b a) (a+1) (b a)
def acV (c:Nat->Int):∀b a,b+1<=a->zZ c b a=0
 | 0,a,d=>by simp[zZ,CU];omega
 | b+1,a,d=>af5 (m:=b+1) (λe d=>acV c b e d) _ a gO
def Wd (b:Nat->Int):∀a,zZ b a 0=16777216
 | 0=>rfl
 | a+1=>by show gr (zZ b a) (a+1) (b a) 0=_;simp[gr,Wd b a]
def af6 (b:Nat->Int)(d:Nat)(c:∀a,a<d->-32768<=b a/\b a<=32768):∀a,a+1<=d->Wi (zZ b (a+1)) (16777216*2^a)
 | 0,f=>by
  have:=c 0 gO;exact alC _ this.1 this.2
 | a+1,f=>by
  have:=c (a+1) gO;have e:=alb (af6 b d c a gO) (ZA (by decide) (VR (Int.pow_pos (by decide)))) (a+1+1) (b (a+1)) this.1 this.2;rw[show(16777216:Int)*2^(a+1)=2*(16777216*2^a) by rw[Int.pow_succ];omega];exact e
def anl (a:Nat)(b:a<=8):(2:Int)^a<=256:=by
 match a,b with
 | 0,_|1,_|2,_|3,_|4,_|5,_|6,_|7,_|8,_=>decide
def Wi.le {A:Int}(a:Wi f A)(b:A<=i):Wi f i:=λb=>by have:=a b;omega
def zf (c:Nat->Int)(d:∀a,a<8->-32768<=c a/\c a<=32768)(a:Nat)(b:a<=8):Wi (zZ c a) 2147483648:=by
 match a,b with
 | 0,_=>exact CV.le (by decide)
 | a+1,b=>
  refine(af6 c 8 d a b).le ?_;have e:(2:Int)^a<=128:=by
   match a,b with
   | 0,_|1,_|2,_|3,_|4,_|5,_|6,_|7,_=>decide
  omega
def Fa (b:Nat->Int)(a:Nat):Int:=(zZ b 8 a+2048) / 4096
def pG (a:L):L:=if cZ a=true then f_ 9 (Fa (aB a))else au 9
def zh (a:L):Int:=if cZ a=true then 0 else 2
def pV (a:L):(pG a).length=9:=by unfold pG;split;exact cK _ _;exact ak _
def Fb (a:l.length=8)(b:cZ l=true):∀a,a<8->-32768<=aB l a/\aB l a<=32768:=λa c=>by
 have:=(iO l).1 b a gO;omega
def ai4 (a:L)(d:a.length=8)(c:cZ a=true)(b:Nat):-524288<=Fa (aB a) b/\Fa (aB a) b<=524288:=by have:=zf (aB a) (Fb d c) 8 gO b;unfold Fa;omega
def aed (a:Nat->Int):Fa a 0=4096:=by unfold Fa;rw[Wd];decide
def mis (c d:Nat->Int)(b:Nat):Nat->Int
 | 0=>0
 | a+1=>mis c d b a+(c a / 512*d (b-a)) / 32768
def JO (b a:Int)(j:-4294967296<=b)(k:b<=4294967296)(l:-2147483647<=a)(m:a<=2147483647):(-18014398509481984<=b / 512*a/\b / 512*a<=18014398509481984)/\-549755813888<=(b / 512*a) / 32768/\(b / 512*a) / 32768<=549755813888:=by
 have h:-8388608<=b / 512:=gO;have i:b / 512<=8388608:=gO;generalize b / 512=c at *
 have d:0<=(8388608-c)*(2147483648-a):=ZA gO gO;have e:0<=(8388608+c)*(2147483648+a):=ZA gO gO;have f:0<=(8388608-c)*(2147483648+a):=ZA gO gO;have g:0<=(8388608+c)*(2147483648-a):=ZA gO gO;simp only[GL,Int.sub_mul,Int.mul_add,Int.mul_sub]at d e f g;omega
def RB (b:Nat->Int):Prop:=∀a,-2147483647<=b a/\b a<=2147483647
def SF {c:Nat->Int}(hp:Wi f 4294967296)(d:RB c)(b:Nat):∀a:Nat,-549755813888*(a:Int)<=mis f c b a/\mis f c b a<=549755813888*(a:Int)
 | 0=>by simp[mis]
 | a+1=>by
  have e:=SF hp d b a;have g:=(JO (f a) (c (b-a)) (hp a).1 (hp a).2 (d _).1 (d _).2).2;show -549755813888*((a+1:Nat):Int)<=mis f c b a+_/\mis f c b a+_<=549755813888*((a+1:Nat):Int);omega
structure Lev where
 k:Nat->Int
 p:Nat->Int
 e:Int
 go:Bool
def vN (c:Nat->Int)(a:Nat)(b:Lev):Int:=(-(mis b.p c (a+1) (a+1))*32768).tdiv b.e
def eN (a b:Int):Int:=a-(a*b / 32768)*b / 32768
def sQ (c:Nat->Int)(b:Nat)(a:Lev):Lev:=
 if a.go=true then(if -32000<vN c b a/\vN c b a<32000 then⟨λd=>if d=b then vN c b a else a.k d,gr a.p (b+1) (vN c b a),eN a.e (vN c b a),true⟩else⟨a.k,a.p,a.e,false⟩)else a
def iC (a:Nat->Int):Nat->Lev
 | 0=>⟨λ_=>0,CU,a 0,true⟩
 | b+1=>sQ a b (iC a b)
def Fe (b:Nat->Int)(a:Nat)(d:(iC b a).go=false):∀c,iC b (a+c)=iC b a
 | 0=>rfl
 | c+1=>by
  show sQ b (a+c) (iC b (a+c))=_;rw[Fe b a d c];simp[sQ,d]
def af7 (a b:Int)(l:0<a)(m:-32000<b)(n:b<32000):0<eN a b/\eN a b<=a/\(-(32768*a)<=a*b/\a*b<=32768*a)/\(-(32768*a)<=(a*b / 32768)*b/\(a*b / 32768)*b<=32768*a):=by
 have i:=CQ b a a gO gO gO gO;rw[V7 b a]at i;have j:-a<=a*b / 32768/\a*b / 32768<=a:=gO;have k:0<=(a*b / 32768)*b/\(a*b / 32768)*b<=32000*a:=by
  rcases Int.le_total 0 b with c|c
  .have e:0<=a*b:=ZA gO c;have h:0<=a*b / 32768:=gO;generalize a*b / 32768=d at *
   have f:=ZA h c;have g:d*b<=a*32000:=Int.mul_le_mul j.2 gO c gO;omega
  have e:0<=a * -b:=ZA gO gO;rw[Int.mul_neg]at e;have h:a*b / 32768<=0:=gO;generalize a*b / 32768=d at *
  have f:0<=-d * -b:=ZA gO gO;have g:-d * -b<=a*32000:=Int.mul_le_mul gO gO gO gO;rw[Int.neg_mul_neg]at f g;omega
 unfold eN;omega
structure Wh (r:Nat->Int) (m:Nat) (s:Lev):Prop where
 e0:0<s.e
 e1:s.e<=r 0
 pb:Wi s.p (16777216*2^m)
 ko:∀i,m<=i->s.k i=0
 po:∀i,m+1<=i->s.p i=0
 kb:∀i,-32000<s.k i/\s.k i<32000
def Fg (a:Nat->Int)(b:0<a 0):Wh a 0 (iC a 0):=
 ⟨b,DC _,CV,λ_ _=>rfl,λa a=>by simp[iC,CU];omega,λ_=>by simp[iC]⟩
def JQ (o:Wh f n (iC f n))(q:(iC f n).go=true)(b:-32000<vN f n (iC f n))(c:vN f n (iC f n)<32000):iC f (n+1)=⟨λa=>if a=n then vN f n (iC f n)else(iC f n).k a,gr (iC f n).p (n+1) (vN f n (iC f n)),eN (iC f n).e (vN f n (iC f n)),true⟩/\Wh f (n+1) (iC f (n+1)):=by
 have g:iC f (n+1)=⟨λa=>if a=n then vN f n (iC f n)else(iC f n).k a,gr (iC f n).p (n+1) (vN f n (iC f n)),eN (iC f n).e (vN f n (iC f n)),true⟩:=by
  show sQ f n (iC f n)=_;unfold sQ;rw[Q9 q,Q9 ⟨b,c⟩]
 refine⟨g,?_⟩;rw[g];have⟨h,r,i,j,l,m⟩:=o;have d:=af7 _ _ h b c;refine⟨d.1,by have:=d.2.1;show eN _ _<=_;omega,?_,λa d=>?_,λa d=>af5 l _ a d,λa=>?_⟩
 .rw[show(16777216:Int)*2^(n+1)=2*(16777216*2^n) by rw[Int.pow_succ];omega];exact alb i (ZA (by decide) (VR (Int.pow_pos (by decide)))) _ _ gO gO
 .show(if a=n then _ else _)=(0:Int);rw[nO];exact j a gO
 show -32000<(if a=n then _ else _)/\(if a=n then _ else _)<(32000:Int);split
 .exact⟨b,c⟩
 exact m a
def Wj (b:(iC f n).go=true)(c:¬(-32000<vN f n (iC f n)/\vN f n (iC f n)<32000))(d:n<8):iC f 8=⟨(iC f n).k,(iC f n).p,(iC f n).e,false⟩:=by
 have a:iC f (n+1)=⟨(iC f n).k,(iC f n).p,(iC f n).e,false⟩:=by
  show sQ f n (iC f n)=_;unfold sQ;rw[Q9 b,X9 c]
 have:=Fe f (n+1) (by rw[a]) (7-n);rw[show n+1+(7-n)=8 by omega]at this;rw[this,a]
def Wh.pb' {a:Lev}(b:Wh f n a)(c:n<=8):Wi a.p 4294967296:=b.pb.le (by have:=anl n c;omega)
def NC (a:L):Bool:=a.all λa=>decide (-2147483647<=a)&&decide (a<=2147483647)
def JR (a:L):NC a=true↔∀b,b<a.length->-2147483647<=aB a b/\aB a b<=2147483647:=by unfold NC;rw[CG];simp
def ai5 {k:L}(a:Nat)(c:a<k.length)(b:¬(-2147483647<=aB k a/\aB k a<=2147483647)):NC k=false:=by
 rcases hb:NC k with _|_
 .rfl
 exact absurd ((JR k).1 hb a c) b
def alc (b:NC l=true):RB (aB l):=λa=>by
 by_cases c:a<l.length
 .exact(JR l).1 b a c
 rw[dI l a gO];omega
def Px (a:L):Bool:=NC a&&decide (0<aB a 0)
def nL (a:L):L:=if Px a=true then f_ 8 (iC (aB a) 8).k else au 8
def yK (a:L):Int:=if Px a=true then(iC (aB a) 8).e else 0
def yL (a:L):Bool:=if Px a=true then(iC (aB a) 8).go else false
def C9 (a:L):(nL a).length=8:=by unfold nL;split;exact cK _ _;exact ak _
def acW (a:Nat->Int)(c:0<a 0):∀b,(∀d,-32000<(iC a b).k d/\(iC a b).k d<32000)/\((iC a b).go=true->Wh a b (iC a b))
 | 0=>⟨λd=>by simp[iC],λ_=>Fg a c⟩
 | b+1=>by
  have⟨f,h⟩:=acW a c b;rcases hg:(iC a b).go with _|_
  .have:=Fe a b hg 1;rw[this];exact⟨f,λc=>by rw[hg]at c;cases c⟩
  by_cases d:-32000<vN a b (iC a b)/\vN a b (iC a b)<32000
  .have g:=(JQ (h hg) hg d.1 d.2).2;exact⟨g.kb,λ_=>g⟩
  have g:iC a (b+1)=⟨(iC a b).k,(iC a b).p,(iC a b).e,false⟩:=by
   show sQ a b (iC a b)=_;unfold sQ;rw[Q9 hg,X9 d]
  rw[g];exact⟨f,λc=>by cases c⟩
def ai6 (b:L)(a:Nat):-32000<aB (nL b) a/\aB (nL b) a<32000:=by
 unfold nL;split
 .rename_i c;have d:0<aB b 0:=by simp[Px]at c;exact c.2
  by_cases e:a<8
  .rw[dP _ _ _ e];exact(acW _ d 8).1 a
  rw[dI _ a (by rw[cK];omega)];omega
 rw[jU];omega
def aW (d:W)(b:Nat)(a:TypeId)(c:List V):Prop:=d.heap[b]?=some (.cells c.toArray a (0,0))
def aW.cell (b:aW w n T y)(a:Nat):w.cell? (A n a)=y[a]?:=by rw[aI b];simp
def aW.free (b:aW w n T y)(a:Nat):w.frozen? (A n a)=false:=bA b a
def aW.lt (a:aW w n T y):n<w.heap.size:=aO a
def aW.aC (a:aW w n T y)(b:w.grownBy w' none):aW w' n T y:=(b.block _ (aO a) (by simp)).trans a
def aW.aH (a:aW w n T y)(c:w.grownBy w' (some b))(d:n≠b):aW w' n T y:=(c.block _ (aO a) (by simpa using d)).trans a
def aW.new (a:W)(b:TypeId)(c:List V):aW (a.alloc (.cells c.toArray b)) a.heap.size b c:=dF a _
def aW.set (c:aW w n T y)(a:Nat)(b:V):aW (w.setCell (A n a) b) n T (y.set a b):=by unfold aW;rw[heap_setCell c];simp
def aW.range (b:aW w n T y)(a c:Nat):w.rangeAt n a ((y.drop a).take c):=λa a a=>by
 rw[b.cell];rw[KC]at a;split at a
 .rw[List.getElem?_drop]at a;exact a
 cases a
def aW.there (a:aW w n T y)(c b:Nat)(d:c+b<=y.length):w.there n c b:=λb b=>
 ⟨by rw[a.cell,KM gO];rfl,a.free _⟩
def lu (a:List V)(b:Nat)(c:List V):List V:=a.take b++c++a.drop (b+c.length)
def af8 (a:List V)(b:Nat)(c:List V)(d:b+c.length<=a.length):(lu a b c).length=a.length:=by simp[lu];omega
def pW (b a:List V)(c:a.length=b.length):lu b 0 a=a:=by simp[lu,c]
def Qs (b:Nat)(g:TypeId):∀(h:List V) (a:Nat) (d:W) (c:List V),aW d b g c->a+h.length<=c.length->aW (d.setCells b a h) b g (lu c a h)/\d.grownBy (d.setCells b a h) (some b)
 | [],a,d,c,i,_=>⟨by show aW d b g (lu c a []);unfold lu;simp;exact i,aM d _⟩
 | f::M,a,d,c,i,m=>by
  simp only[List.length_cons]at m;have l:=i.set a f;have⟨j,k⟩:=Qs b g M (a+1) (d.setCell (A b a) f) (c.set a f) l (by rw[XB];omega);refine⟨?_,bT (aD d (A b a) _) k (some b) (λb e _=>e) (λb e _=>e)⟩;have e:lu (c.set a f) (a+1) M=lu c a (f::M):=by
   unfold lu;rw[List.take_succ_eq_append_getElem (by rw[XB];omega)];simp[show a<c.length by omega];rw[List.drop_set_of_lt gO,show a+1+M.length=a+(M.length+1) by omega];rw[List.take_set_of_le (Q6 _)]
  rw[<-e];exact j
def dz (d:W)(a b:Nat)(c:List V):W:=d.setCells a b c
def qM (c:aW w n T y)(a:Nat)(b:List V)(d:a+b.length<=y.length):aW (dz w n a b) n T (lu y a b)/\w.grownBy (dz w n a b) (some n):=Qs n T b a w y c d
def NH {i:Array Oper}{rest:List Oper}(n:o.guard=none)(c:TypeId)(h:Operand)(q:o.op=.load c h)
 (e b d:Nat) (t:a.eval h=.pointer (some (A e b))) (k:TypeId) (f:List V) (l:aW w e k f) (g:TypeDesc) (r:prog.underlying c=some g) (m:g.isRow=true) (p:(prog.info? c).map (·.size)=some d) (v:b+d<=f.length) (j:List V) (s:(f.drop b).take d=j)
 (u:wpList prog i Q rest (a.put o.dst (.agg j.toArray)) w):wpList prog i Q (o::rest) a w:=by
 subst s;exact wpList_load_mid n c h q e b t _ g (l.range b d) r m (by rw[p];simp;omega) u
def bS {f:TypeId}{e:Operand}(j:o.op=.load T e)(p:a.eval e=.pointer (some (A n b)))(g:aW w n f y)(c:TypeDesc)(l:prog.underlying T=some c)(h:c.isRow=true)(i:(prog.info? T).map (·.size)=some k)(q:b+k<=y.length)(d:List V)(m:(y.drop b).take k=d):(execOp a.eval o).run prog w=.ok (.value (.agg d.toArray)) w:=by subst m;have:=run_loadAt_mid (P:=prog) w n b T _ c (g.range b k) l h (by rw[i];simp;omega);unfold execOp;simp[j,p,this]
def aee (b:aW w n T y)(a:TypeDesc)(e:prog.underlying T=some a)(c:a.isRow=true)(d:(prog.info? T).map (·.size)=some y.length):Sem.run prog (loadVar T (A n 0)) w=.ok (.agg y.toArray) w:=by have:=run_loadVar_mid (P:=prog) w n 0 T ((y.drop 0).take y.length) a (b.range 0 y.length) e c (by rw[d];simp);simpa using this
def af9 (a:∀b∈y,b.oneCell'=true):y.toArray.all (·.oneCell')=true:=all_oneCell_toArray a
def zi {i:Array Oper}{rest:List Oper}(m:o.guard=none)(e:TypeId)(f g:Operand)(q:o.op=.store e f g)
 (d c:Nat) (j:TypeId) (h b:List V) (r:a.eval f=.pointer (some (A d c))) (s:a.eval g=.agg b.toArray) (k:aW w d j h) (p:c+b.length<=h.length) (n:(prog.info? e).map (·.size)=some b.length) (l:∀h∈b,h.oneCell'=true)
 (t:wpList prog i Q rest (a.put o.dst undef) (dz w d c b)):wpList prog i Q (o::rest) a w:=
 wpList_store_mid m e f g q d c b.toArray r s (by simpa using k.there c b.length p) (by simpa using n) (af9 l) (by simpa [dz] using t)
def dD {j:Nat->Option Bool}{h:Act->W->Prop}{k:Prop}(p:o.guard=none)(e:TypeId)(f g:Operand)(s:o.op=.store e f g)
 (d c:Nat) (l:TypeId) (i b:List V) (u:a.eval f=.pointer (some (A d c))) (v:a.eval g=.agg b.toArray) (m:aW w d l i) (r:c+b.length<=i.length) (q:(prog.info? e).map (·.size)=some b.length) (n:∀i∈b,i.oneCell'=true)
 (x:h (a.put o.dst undef) (dz w d c b)):if Region.wanted o j=true then Oper.wp prog o a w h Q else k:=by
 have t:Region.wanted o j=true:=by simp[Region.wanted,p]
 rw[Q9 t];exact wp_store_mid e f g s d c b.toArray u v (by simpa using m.there c b.length r) (by simpa using q) (af9 n) (by simpa [dz] using x)
def aQ (a:L):List V:=a.map (Value.int .i64)
def tF (a:L):(aQ a).toArray=aF a:=rfl
def dO (c:L):∀a∈aQ c,a.oneCell'=true:=by intro a b;obtain⟨d,_,rfl⟩:=List.mem_map.1 b;rfl
def aN (a:L):(aQ a).length=a.length:=by simp[aQ]
def bM (b:L)(c a:Nat):L:=f_ a (λa=>aB b (c+a))
def aT (b:L)(c a:Nat):(bM b c a).length=a:=cK _ _
def fV (b:L)(d c a:Nat)(e:a<c):aB (bM b d c) a=aB b (d+a):=dP _ _ _ e
def aap (a:L)(c b:Nat)(d:c+b<=a.length):(a.drop c).take b=bM a c b:=by refine dL (by simp;omega) λa a=>?_;simp[aB,List.getD,KC,List.getElem?_drop,a]
def jd (d:L)(b:Nat)(c:L):L:=f_ d.length (λa=>if b<=a/\a<b+c.length then aB c (a-b)else aB d a)
def dV (a:L)(c:Nat)(b:L):(jd a c b).length=a.length:=cK _ _
def gT (d:L)(b:Nat)(c:L)(a:Nat)(e:a<d.length):aB (jd d b c) a=if b<=a/\a<b+c.length then aB c (a-b)else aB d a:=dP _ _ _ e
def alD (c:L)(a:Nat)(b:L)(e:a+b.length<=c.length):c.take a++b++c.drop (a+b.length)=jd c a b:=by
 refine dL (by simp;omega) λc d=>?_;unfold aB List.getD;by_cases d:c<a
 .rw[nO,BQ (by simp;omega),BQ (by simp;omega),KC,Q9 d]
 by_cases f:c<a+b.length
 .rw[pO,BQ (by simp;omega),BK (by simp;omega)];congr 2;simp;omega
 rw[nO,BK (by simp;omega),List.getElem?_drop];congr 2;simp;omega
def mI (a:L)(b:List V):List V:=aQ a++b
def wH (a:L)(b:List V):(mI a b).length=a.length+b.length:=by simp[mI,aQ]
def rH (b:L)(d:List V)(a:Nat)(c:a<b.length):(mI b d)[a]?=some (I (aB b a)):=by unfold mI;rw[BQ (by rw[aN];exact c)];simp[aQ,aB,List.getD,c]
def Wl (b:L)(d:List V)(a:Nat)(c:Int)(e:a<b.length):(mI b d).set a (I c)=mI (b.set a c) d:=by unfold mI aQ;rw[List.set_append_left _ _ (by simpa using e),List.map_set]
def tH (a:L)(e:List V)(c b:Nat)(d:c+b<=a.length):((mI a e).drop c).take b=aQ (bM a c b):=by rw[<-aap a c b d];unfold mI aQ;rw[List.drop_append_of_le_length (by simp;omega),List.take_append_of_le_length (by simp;omega),<-List.map_drop,<-List.map_take]
def rJ (b:L)(e:List V)(c:Nat)(a:L)(d:c+a.length<=b.length):lu (mI b e) c (aQ a)=mI (jd b c a) e:=by rw[<-alD b c a d];unfold lu mI;rw[aN,List.take_append_of_le_length (by rw[aN];omega),List.drop_append_of_le_length (by rw[aN];exact d)];simp[aQ,List.map_take,List.map_drop]
def Wm (c:L)(d:List V)(e:∀a∈d,a.oneCell'=true):∀a∈mI c d,a.oneCell'=true:=by
 intro a f;rcases List.mem_append.1 f with b|b
 .exact dO c a b
 exact e a b
def aW.ints (d:aW w n T (mI l y))(b a c:Nat)(f:b+a<=l.length)(e:a<=c):aY w (.slice (some (A n b)) a c) (bM l b a):=by refine⟨some (A n b),c,by rw[aT],by rw[aT];exact e,λ_=>⟨_,rfl,λa a=>?_⟩⟩;rw[aT]at a;rw[Addr.add_mid,d.cell,rH _ _ _ gO,fV _ _ _ _ a]
def eH {j:Nat->Option Bool}{h:Act->W->Prop}{k:Prop}(m:o.guard=none)(c:TypeId)(f g:Operand)(p:o.op=.store c f g)
 (d:Nat) (e b:L) (r:a.eval f=.pointer (S d)) (s:a.eval g=.agg (aF b)) (l:bY w d c e) (i:b.length=e.length) (n:(prog.info? c).map (·.size)=some e.length)
 (t:h (a.put o.dst undef) (b_ w d b)):if Region.wanted o j=true then Oper.wp prog o a w h Q else k:=by
 have q:Region.wanted o j=true:=by simp[Region.wanted,m]
 rw[Q9 q];exact wp_store_mid c f g p d 0 (aF b) r s (by rw[show(aF b).size=e.length by simp[aF,i]];exact l.there) (by simpa [aF,i] using n) (ED b) (by simpa [b_,aF] using t)
def Ir {c:Operand}(g:o.op=.load T c)(i:a.eval c=.pointer (S n))(d:bY w n T l)(b:TypeDesc)(h:prog.underlying T=some b)(e:b.isRow=true)(f:(prog.info? T).map (·.size)=some l.length):(execOp a.eval o).run prog w=.ok (.value (.agg (aF l))) w:=by have:=af3 d b h e f;unfold execOp;simp[g,i,this]
def dB (a b:W):Prop:=a.grownBy b none
def aS (a:W):dB a a.drew:=bB (aM a none)
def aX (b:dB w w')(a:w'.grownBy u none):dB w u:=ay b a
def dZ (a:dB w w')(b:Obj):dB w (w'.alloc b):=ay a (aj _ _ none)
def jq (b:dB w w')(a:w'.grownBy u (some n))(c:w.heap.size<=n):dB w u:=aG b a c
theorem JU {T:TypeId}(h:(prog.underlying T).any (fun d=>d.isRow)=true):∃d,prog.underlying T=some d∧d.isRow=true:=by
 generalize prog.underlying T=o at *
 rcases o with _|d
 ·cases h
 exact⟨d,rfl,h⟩
section
variable {ops:Array Oper} {rest:List Oper} {op:Oper} {a:Act} {w:World} {Q:Exit→Act→World→Prop} {K:Act→World→Prop} {E:Prop} {f:Nat→Option Bool} {b n:Nat} {T TB:TypeId} {rs:List Int} {cs vs:List Value} {x y:Operand}
theorem lA (h:bY w b T rs)(hi:(prog.info? T).map (·.size)=some rs.length)(k:wpList prog ops Q rest (a.put op.dst (.agg (aF rs))) w)(hgd:op.guard=none:=by rfl)(ho:op.op=.load T x:=by rfl)(hx:a.eval x=.pointer (some ⟨b,0,none⟩):=by rfl)(hu:(prog.underlying T).any (fun d=>d.isRow)=true:=by kernel_rfl):wpList prog ops Q (op::rest) a w:=by
 obtain⟨d,h1,h2⟩:=JU hu
 exact Ip hgd T x ho b hx rs h d h1 h2 hi k
theorem sA (rs':List Int)(h:bY w b T rs)(hl:rs'.length=rs.length)(hi:(prog.info? T).map (·.size)=some rs.length)(k:wpList prog ops Q rest (a.put op.dst undef) (b_ w b rs'))(hgd:op.guard=none:=by rfl)(ho:op.op=.store T x y:=by rfl)(hx:a.eval x=.pointer (some ⟨b,0,none⟩):=by rfl)(hy:a.eval y=.agg (aF rs'):=by rfl):wpList prog ops Q (op::rest) a w:=
 qO hgd T x y ho b rs rs' hx hy h hl hi k
theorem lV (o:Nat)(h:aW w b TB cs)(hi:(prog.info? T).map (·.size)=some n)(hn:o+n≤cs.length)(hvs:(cs.drop o).take n=vs)(k:wpList prog ops Q rest (a.put op.dst (.agg vs.toArray)) w)(hgd:op.guard=none:=by rfl)(ho:op.op=.load T x:=by rfl)(hx:a.eval x=.pointer (some ⟨b,o,none⟩):=by rfl)(hu:(prog.underlying T).any (fun d=>d.isRow)=true:=by kernel_rfl):wpList prog ops Q (op::rest) a w:=by
 obtain⟨d,h1,h2⟩:=JU hu
 exact NH hgd T x ho b o n hx TB cs h d h1 h2 hi hn vs hvs k
theorem sV (o:Nat)(vs:List Value)(h:aW w b TB cs)(hl:o+vs.length≤cs.length)(hi:(prog.info? T).map (·.size)=some vs.length)(h1:∀v∈vs,v.oneCell'=true)(k:wpList prog ops Q rest (a.put op.dst undef) (dz w b o vs))(hgd:op.guard=none:=by rfl)(ho:op.op=.store T x y:=by rfl)(hx:a.eval x=.pointer (some ⟨b,o,none⟩):=by rfl)(hy:a.eval y=.agg vs.toArray:=by rfl):wpList prog ops Q (op::rest) a w:=
 zi hgd T x y ho b o TB cs vs hx hy h hl hi h1 k
theorem kU (h:bY w b T rs)(hi:(prog.info? T).map (·.size)=some rs.length)(hu:(prog.underlying T).any (fun d=>d.isRow)=true:=by kernel_rfl):Sem.run prog (loadVar T ⟨b,0,none⟩) w=.ok (.agg (aF rs)) w:=by
 obtain⟨d,h1,h2⟩:=JU hu
 exact V9 h d h1 h2 hi
theorem qG (h:aW w b T cs)(hi:(prog.info? T).map (·.size)=some cs.length)(hu:(prog.underlying T).any (fun d=>d.isRow)=true:=by kernel_rfl):Sem.run prog (loadVar T ⟨b,0,none⟩) w=.ok (.agg cs.toArray) w:=by
 obtain⟨d,h1,h2⟩:=JU hu
 exact aee h d h1 h2 hi
theorem yA (h:bY w b T rs)(hi:(prog.info? T).map (·.size)=some rs.length)(ho:op.op=.load T x:=by rfl)(hx:a.eval x=.pointer (some ⟨b,0,none⟩):=by rfl)(hu:(prog.underlying T).any (fun d=>d.isRow)=true:=by kernel_rfl):(execOp a.eval op).run prog w=.ok (.value (.agg (aF rs))) w:=by
 obtain⟨d,h1,h2⟩:=JU hu
 exact Ir ho hx h d h1 h2 hi
end
def acX (a:Nat):((2^a:Nat):Int)=(2:Int)^a:=by simp
def alE (a b:Nat)(c:a<=b):1<=(2:Int)^a/\(2:Int)^a<=2^b:=by have d:(2:Nat)^a<=2^b:=WM gO c;have e:1<=(2:Nat)^a:=Nat.one_le_two_pow;have:=acX a;have:=acX b;omega
def gro:L:=[444758425,203159592,97181937,47538611,23511884,11692281,5830311,2911209,1454619,727063,363470,181719,90856,45427,22713]
def nJ (a:Nat):Int:=gro.getD a 0
def Bg (a b:Int):Int:=a+a*b / 1073741824
def sD (a:Int)(b:Nat):Int:=a / 2^(14-b) % 2
def pw (b:Int):Nat->Int
 | 0=>1073741824
 | a+1=>if sD b a=1 then Bg (pw b a) (nJ a)else pw b a
def SQ:L->Int->Int
 | [],a=>a
 | b::l,a=>SQ l (Bg a b)
def Wn (a b:Int)(d:0<=a)(c:0<=b):a<=Bg a b:=by unfold Bg;have:=F7 (ZA d c) (b:=1073741824) (by decide);omega
def aaq (b c a:Int)(d:b<=c)(e:0<=a):Bg b a<=Bg c a:=by unfold Bg;have:=Int.ediv_le_ediv (c:=1073741824) (by decide) (WA d e);omega
def acY:∀(b:L) (a:Int),(∀c∈b,0<=c)->0<=a->a<=SQ b a
 | [],_,_,_=>DC _
 | c::b,a,d,f=>by
  have e:=Wn a c f (d c (List.mem_cons_self ..));exact Int.le_trans e (acY b _ (λb a=>d b (List.mem_cons_of_mem _ a)) gO)
def Qt:∀(a:L) (d e:Int),(∀c∈a,0<=c)->d<=e->SQ a d<=SQ a e
 | [],_,_,_,b=>b
 | c::a,d,e,b,f=>Qt a _ _ (λg a=>b g (List.mem_cons_of_mem _ a)) (aaq d e c f (b c (List.mem_cons_self ..)))
def alF:∀a∈gro,0<=a:=by decide
def JV (b:Nat):∀a∈gro.drop b,0<=a:=λa b=>alF a (List.mem_of_mem_drop b)
def Wo (a:Nat)(b:a<15):gro.drop a=nJ a::gro.drop (a+1):=by rw[List.drop_eq_getElem_cons (show a<gro.length from b)];unfold nJ;have c:gro[a]?=some (gro[a]'(show a<gro.length from b)):=KM _;rw[List.getD_eq_getElem?_getD,c];rfl
def af_ (a:Nat)(b:a<15):0<=nJ a:=JV a _ (by rw[Wo a b];exact List.mem_cons_self ..)
def ald (b:Int):∀a,a<=15->1073741824<=pw b a/\SQ (gro.drop a) (pw b a)<=SQ gro 1073741824
 | 0,_=>⟨by show(1073741824:Int)<=1073741824;omega,DC _⟩
 | a+1,h=>by
  have⟨e,c⟩:=ald b a gO;have f:=af_ a gO;have g:=Wn (pw b a) (nJ a) gO f;rw[Wo a gO]at c;have d:SQ (gro.drop (a+1)) (Bg (pw b a) (nJ a))<=SQ gro 1073741824:=c;unfold pw;split
  .exact⟨gO,d⟩
  exact⟨e,Int.le_trans (Qt _ _ _ (JV _) g) d⟩
def SX (b:Int)(a:Nat)(c:a<=15):1073741824<=pw b a/\pw b a<=2147438200:=by
 have⟨d,e⟩:=ald b a c;have f:=acY (gro.drop a) (pw b a) (JV _) gO;have g:SQ gro 1073741824=2147438200:=by decide
 omega
def Iu (b:Nat)(a:Int):Int:=pw a 15 / 2^(30-b)
def acZ (a:Nat)(b:Int)(g:a<=30):(2:Int)^a<=Iu a b/\Iu a b<2^(a+1)/\Iu a b<=2147438200:=by
 have⟨f,d⟩:=SX b 15 (Q6 _);have hp:(0:Int)<2^(30-a):=Int.pow_pos (by decide);have c:(2:Int)^a*2^(30-a)=1073741824:=by rw[<-Int.pow_add,show a+(30-a)=30 by omega];decide
 have e:(2:Int)^(a+1)*2^(30-a)=2147483648:=by rw[Int.pow_succ,Int.mul_right_comm,c];decide
 unfold Iu;refine⟨(Int.le_ediv_iff_mul_le hp).2 gO,Int.ediv_lt_of_lt_mul hp gO,?_⟩;exact Int.le_trans (Int.ediv_le_self _ gO) d
def gsz:L:=[8,10,13,17,22,29,38,49,64,82,107,139,181,234,304,394,512,663,861,1116,1448,1878,2435,3158,4096,5311,6888,8933,11585,15024,19483,25267]
def mD (a:Nat):Int:=gsz.getD a 0
def aef:∀a:Fin 32,Iu (3+3*a.val / 8) (((3*a.val % 8*4096:Nat)):Int)=mD a.val:=by decide +kernel
def ac0 (a:Nat)(b:a<32):Iu (3+3*a / 8) (((3*a % 8*4096:Nat)):Int)=mD a:=aef ⟨a,b⟩
def Jf (a:Nat):0<=mD a/\mD a<=25267:=by
 by_cases b:a<32
 .have:∀a:Fin 32,0<=mD a.val/\mD a.val<=25267:=by decide +kernel
  exact this ⟨a,b⟩
 unfold mD;rw[List.getD_eq_getElem?_getD,U8 (show gsz.length<=a from by show 32<=a;omega)];exact⟨DC _,by show(0:Int)<=25267;omega⟩
def BO (a:Int):Int:=if 0<=a/\a<=31 then mD a.toNat else 0
def glE (a:Int):Int:=if 0<=a/\a<=31 then 0 else 2
def uW (a:Nat)(c:a<=31):BO a=mD a/\glE a=0:=by have b:0<=(a:Int)/\(a:Int)<=31:=gO;exact⟨by rw[show BO a=mD (a:Int).toNat from Q9 b,Int.toNat_natCast],Q9 b⟩
def amP:BO 0=8/\glE 0=0:=⟨rfl,rfl⟩
def goN (b c:Int):Nat->Nat
 | 0=>0
 | a+1=>if(mD (a+1)+mD a)*c<2*b then a+1 else goN b c a
def uS (a:Int):Int:=if 1152921504606846976<a then 1152921504606846976 else a
def uT (a:Int):Int:=if 17592186044416<a then 17592186044416 else a
def Py (a b:Int):Int:=if a<=0\/b<=0 then 0 else(goN (uS a) (uT b) 31:Int)
def ac1 (a:Int)(b:0<a):0<uS a/\uS a<=1152921504606846976:=by unfold uS;split<;>omega
def ac2 (a:Int)(b:0<a):0<uT a/\uT a<=17592186044416:=by unfold uT;split<;>omega
def aga (b c:Int):∀a,goN b c a<=a
 | 0=>Q6 _
 | a+1=>by
  have:=aga b c a;unfold goN;split<;>omega
def ai7 (b c:Int)(a:Nat)(d:(mD (a+1)+mD a)*c<2*b):goN b c (a+1)=a+1:=Q9 d
def alG (b c:Int)(a:Nat)(d:¬(mD (a+1)+mD a)*c<2*b):goN b c (a+1)=goN b c a:=X9 d
def z_ (a:Int):Nat->Int
 | 0=>if 32767<a then 32767 else a
 | b+1=>z_ a b*26214 / 32768
def Gz (a b:Int):Int:=if a<0\/6<=b then 0 else z_ a b.toNat
def S_ (a:Int)(c:0<=a):∀b,0<=z_ a b/\z_ a b<=32767
 | 0=>by show 0<=(if 32767<a then 32767 else a)/\(if 32767<a then 32767 else a)<=32767;split<;>omega
 | b+1=>by
  have:=S_ a c b;show 0<=z_ a b*26214 / 32768/\z_ a b*26214 / 32768<=32767;omega
def Bv (a b:Int):0<=Gz a b/\Gz a b<=32767:=by
 unfold Gz;split
 .omega
 exact S_ a gO _
def zk (a:Int):Int:=(a*31821+13849) % 65536
def Nt (a:Int):Int:=if a<0 then 0 else if 32767<a then 32767 else a
def IG (a b:Int):Int:=(zk a-32768)*Nt b / 32768
def Fh (a:Int):0<=zk a/\zk a<65536:=by unfold zk;omega
def aar (a:Int):0<=Nt a/\Nt a<=32767:=by unfold Nt;split<;>(try split)<;>omega
def agb (a b:Int):-1073709056<=(zk a-32768)*Nt b/\(zk a-32768)*Nt b<=1073676289:=by
 have⟨h,i⟩:=Fh a;have⟨c,j⟩:=aar b;generalize Nt b=e at *
 generalize zk a=d at *
 have f:0<=(d-0)*e:=ZA gO c;have g:0<=(65535-d)*e:=ZA gO c;rw[Int.sub_mul]at f g ⊢;omega
def alH (b a:Int):-Nt a<=IG b a/\IG b a<=Nt a:=by
 have⟨h,i⟩:=Fh b;have⟨c,j⟩:=aar a;unfold IG;generalize Nt a=e at *
 generalize zk b=d at *
 have f:0<=(d-0)*e:=ZA gO c;have g:0<=(65535-d)*e:=ZA gO c;rw[Int.sub_mul]at f g ⊢;omega
def aas (b a:Int)(g:b % 65536=a % 65536):bits .and .i64 b 65535=a % 65536:=by
 show IntKind.i64.wrap ((BitVec.ofInt 64 b &&& BitVec.ofInt 64 65535).toNat:Int)=_;rw[BitVec.toNat_and,BitVec.toNat_ofInt,show(BitVec.ofInt 64 65535).toNat=2^16-1 by decide,Nat.and_two_pow_sub_one_eq_mod];have c:(((b % ((2^64:Nat):Int)).toNat % 2^16:Nat):Int)=a % 65536:=gO;rw[c];have e:0<=a % 65536:=gO;have f:a % 65536<65536:=gO;generalize a % 65536=d at *
 have c:d % 2^64=d:=Int.emod_eq_of_lt gO gO;simp only[IntKind.wrap,IntKind.bits,IntKind.signed,c];rw[X9 (by simp;omega)]
def JW (b d:L)(a:Nat)(c:a<b.length):aB (b++d) a=aB b a:=by simp[aB,List.getD,H6,c]
def C_ (b c:L)(a:Nat)(d:b.length<=a):aB (b++c) a=aB c (a-b.length):=by simp[aB,List.getD,H6,show ¬a<b.length by omega]
def ai8 (a:L)(b:Nat)(c:b<a.length):aB a.reverse b=aB a (a.length-1-b):=by simp[aB,List.getD,List.getElem?_reverse c]
def ug (b:L)(c a:Nat)(d:a<c):aB (b.take c) a=aB b a:=by simp[aB,List.getD,KC,d]
def Da (b:L)(c a:Nat):aB (b.drop c) a=aB b (c+a):=by simp[aB,List.getD,List.getElem?_drop]
def lF (c:L)(b:Nat)(e:Int)(a:Nat)(d:b≠a):aB (c.set b e) a=aB c a:=by simp[aB,List.getD,WB,d]
def oD (b:L)(a:Nat)(c:Int)(d:a<b.length):aB (b.set a c) a=c:=by simp[aB,List.getD,WB,d]
def mE (b a:L):L:=a.reverse++b
def Jg (d a:L)(b:Nat)(c:b<a.length):aB (mE d a) b=aB a (a.length-1-b):=by unfold mE;rw[JW _ _ _ (by simpa using c),ai8 _ _ c]
def Ta (c b:L)(a:Nat)(d:b.length<=a):aB (mE c b) a=aB c (a-b.length):=by unfold mE;rw[C_ _ _ _ (by simpa using d),List.length_reverse]
def qH (c b:L):L:=f_ 8 (λa=>aB (mE c b) a)
def pX (b a:L):(qH b a).length=8:=cK _ _
def wI (c b:L)(a:Nat)(d:a<8):aB (qH c b) a=aB (mE c b) a:=dP _ _ _ d
def agc (a:L)(hp:a.length=8):qH a []=a:=(dL hp (λa a=>by unfold mE;simp)).symm
def wJ (b c:L):Nat->Int
 | 0=>2048
 | a+1=>wJ b c a+aB b (a+1)*aB c a
def gs (a b:L):Int:=wJ a b 8 / 4096
def JX (b c d:L):∀a,(∀e,e<a->aB c e=aB d e)->wJ b c a=wJ b d a
 | 0,_=>rfl
 | a+1,f=>by
  show wJ b c a+aB b (a+1)*aB c a=wJ b d a+aB b (a+1)*aB d a;rw[JX b c d a (λe b=>f e gO),f a gO]
def agd (a b c:L)(e:∀d,d<8->aB b d=aB c d):gs a b=gs a c:=by unfold gs;rw[JX a b c 8 e]
def pY (a:L):Bool:=a.all λa=>decide (-1048576<=a)&&decide (a<=1048576)
def jZ (c:L):pY c=true↔∀a,a<c.length->-1048576<=aB c a/\aB c a<=1048576:=by
 unfold pY;rw[List.all_eq_true];constructor
 .intro d a b;have:=d c[a] (List.getElem_mem b);simp only[VL,decide_eq_true_eq]at this;simpa [aB,List.getD,b] using this
 intro d f e;obtain⟨a,b,rfl⟩:=List.getElem_of_mem e;have:=d a b;simp only[aB,List.getD,KM b,Option.getD_some]at this;simp[this]
def kJ (b:L)(d c:Int)(g:d<=0)(h:0<=c)(e:∀a,a<b.length->d<=aB b a/\aB b a<=c)(a:Nat):d<=aB b a/\aB b a<=c:=by
 by_cases f:a<b.length
 .exact e a f
 rw[dI b a gO];omega
def JY (a b:Int)(g:-1048576<=a)(h:a<=1048576)(i:-32768<=b)(j:b<=32767):-34359738368<=a*b/\a*b<=34359738368:=by have c:0<=(1048576-a)*(b+32768):=ZA gO gO;have d:0<=(a+1048576)*(32767-b):=ZA gO gO;have e:0<=(a+1048576)*(b+32768):=ZA gO gO;have f:0<=(1048576-a)*(32767-b):=ZA gO gO;simp only[Int.sub_mul,GL,Int.mul_add,Int.mul_sub]at c d e f;omega
def Jh (b c:L)(d:∀a,-1048576<=aB b a/\aB b a<=1048576)(e:∀a,-32768<=aB c a/\aB c a<=32767):∀a:Nat,2048-34359738368*(a:Int)<=wJ b c a/\wJ b c a<=2048+34359738368*(a:Int)
 | 0=>by show(2048:Int)-34359738368*((0:Nat):Int)<=2048/\(2048:Int)<=2048+34359738368*((0:Nat):Int);omega
 | a+1=>by
  have f:=Jh b c d e a;have g:=JY _ _ (d (a+1)).1 (d (a+1)).2 (e a).1 (e a).2;show _<=wJ b c a+aB b (a+1)*aB c a/\wJ b c a+aB b (a+1)*aB c a<=_;omega
def ale (a b:L)(d:∀c,-1048576<=aB a c/\aB a c<=1048576)(e:∀c,-32768<=aB b c/\aB b c<=32767):-67108864<=gs a b/\gs a b<=67108865:=by have:=Jh a b d e 8;unfold gs;omega
def okF (a c b:L):Bool:=pY a&&decide (aB a 0=4096)&&aL c&&aL b
def oF (a d b:L):Nat->L
 | 0=>[]
 | c+1=>oF a d b c++[fA (aB b c-gs a (mE d (oF a d b c)))]
def nZ (b d c:L):∀a,(oF b d c a).length=a
 | 0=>rfl
 | a+1=>by show(oF b d c a++[_]).length=_;rw[ZB,nZ b d c a];rfl
def aat (a:L)(c:Int)(d:aL a=true)(g:-32768<=c/\c<=32767):aL (a++[c])=true:=by
 rw[bD]at d ⊢;intro b f;by_cases e:b<a.length
 .rw[JW _ _ _ e];exact d b e
 have:b=a.length:=by simp at f;omega
 subst this;rw[C_ _ _ _ (Q6 _),Nat.sub_self];exact g
def nC (b d c:L):∀a,aL (oF b d c a)=true
 | 0=>rfl
 | a+1=>aat _ _ (nC b d c a) (mq _)
def aau (a:L)(c:Nat)(b:aL a=true):aL (a.take c)=true:=by
 unfold aL at *
 rw[List.all_eq_true]at *
 exact λc a=>b c (List.mem_of_mem_take a)
def xO (c b:L)(hp:aL c=true)(f:aL b=true)(d:Nat):-32768<=aB (mE c b) d/\aB (mE c b) d<=32767:=by
 have a:aL (mE c b)=true:=by
  unfold aL mE at *
  rw[List.all_eq_true]at *
  intro e g;rcases List.mem_append.1 g with a|a
  .exact f e (List.mem_reverse.1 a)
  exact hp e a
 exact kJ _ _ _ gO gO ((bD _).1 a) d
def JZ (b a:L)(hp:aL b=true)(d:aL a=true):aL (qH b a)=true:=by rw[bD,pX];intro e c;rw[wI _ _ _ c];exact xO b a hp d e
def aeg (d b:L)(e:Int)(a:Nat)(f:a<8):aB (qH d (b++[e])) a=if a=0 then e else aB (qH d b) (a-1):=by
 rw[wI _ _ _ f];by_cases c:a=0
 .subst c;rw[Q9 rfl,Jg _ _ _ (by simp)];rw[C_ _ _ _ (by simp)];simp[aB]
 rw[X9 c,wI _ _ _ gO];by_cases g:a-1<b.length
 .rw[Jg _ _ _ (by simp;omega),Jg _ _ _ g];rw[JW _ _ _ (by simp;omega)];congr 1;simp;omega
 rw[Ta _ _ _ (by simp;omega),Ta _ _ _ gO];congr 1;simp;omega
def ai9 (c b a:L):gs c (qH b a)=gs c (mE b a):=agd _ _ _ (λd c=>wI b a d c)
def zn (b c a:L):L:=if okF b c a=true then oF b c a a.length else[]
def GH (c b a:L):L:=if okF c b a=true then qH b (oF c b a a.length)else au 8
def Nu (a c b:L):Int:=if okF a c b=true then 0 else 2
def Tc (b c a:L)(d:okF b c a=true):(zn b c a).length=a.length:=by unfold zn;rw[Q9 d,nZ]
def sS (a c b:L):(GH a c b).length=8:=by unfold GH;split;exact pX _ _;exact ak 8
def J8 (b c a:L):(zn b c a).length<=a.length:=by unfold zn;split;rw[nZ];exact Q6 _;exact QN _
def ac3 (b e d:L)(a:Nat):∀c,(oF b e d (a+c)).take a=oF b e d a
 | 0=>by rw[Nat.add_zero,K3 (by rw[nZ];exact Q6 _)]
 | c+1=>by
  show(oF b e d (a+c)++[_]).take a=_;rw[List.take_append_of_le_length (by rw[nZ];omega)];exact ac3 b e d a c
def ai_ (b d c:L)(a e:Nat):aB (oF b d c (a+1+e)) a=fA (aB c a-gs b (mE d (oF b d c a))):=by have f:=ac3 b d c (a+1) e;rw[<-ug _ (a+1) a gO,f];show aB (oF b d c a++[_]) a=_;rw[C_ _ _ _ (by rw[nZ];exact Q6 _),nZ,Nat.sub_self];rfl
def fE (a:Nat->Int):Nat->Int
 | 0=>0
 | b+1=>fE a b+a b
def j4 (b c:Nat->Int):∀a,(∀d,d<a->b d=c d)->fE b a=fE c a
 | 0,_=>rfl
 | a+1,e=>by show fE b a+b a=fE c a+c a;rw[j4 b c a (λd b=>e d gO),e a gO]
def Bw (a:Nat->Int):∀b,fE a (b+1)=a 0+fE (λc=>a (c+1)) b
 | 0=>by show 0+a 0=a 0+0;omega
 | b+1=>by
  show fE a (b+1)+a (b+1)=a 0+(fE (λc=>a (c+1)) b+a (b+1));rw[Bw a b];omega
def Wp (b:Nat->Int):∀a,fE b (a+1)=fE (λc=>b (a-c)) (a+1)
 | 0=>by show 0+b 0=0+b (0-0);rfl
 | a+1=>by
  rw[Bw (λc=>b (a+1-c)) (a+1)];show fE b (a+1)+b (a+1)=b (a+1-0)+fE (λc=>b (a+1-(c+1))) (a+1);rw[Wp b a,Nat.sub_zero,j4 (λc=>b (a+1-(c+1))) (λc=>b (a-c)) (a+1) (λc _=>by rw[show a+1-(c+1)=a-c by omega])];omega
def foS (d c:L)(b:Nat):Int:=fE (λa=>aB d a*aB c (b-a)) (b+1)
def agf (d c:L)(a:Nat):foS d c a=foS c d a:=by unfold foS;rw[Wp];apply j4;intro b e;rw[V7,show a-(a-b)=b by omega]
def PO (c a:L)(b:Nat):Int:=fA ((foS c a b+2048) / 4096)
def jV (a:Nat):L:=f_ a (λa=>if a=0 then 4096 else 0)
def sF (a b:Int)(c:-32768<=a)(d:a<=32767)(e:-32768<=b)(f:b<=32767):-1073741824<=a*b/\a*b<=1073741824:=by have:=uf a b c d e f;omega
def Db (b:Nat->Int)(c:∀a,-1073741824<=b a/\b a<=1073741824):∀a:Nat,-1073741824*(a:Int)<=fE b a/\fE b a<=1073741824*(a:Int)
 | 0=>by show -1073741824*((0:Nat):Int)<=0/\(0:Int)<=1073741824*((0:Nat):Int);omega
 | a+1=>by
  have:=Db b c a;have:=c a;show _<=fE b a+b a/\fE b a+b a<=_;omega
def okO (b a:L):Bool:=aL b&&aL a
def yG (b a:L):Bool:=decide (b.length=a.length)&&decide (a.length<=80)
def J9 (b a:L):L:=if yG b a=true/\okO b a=true then f_ a.length (PO b a)else[]
def Qu (b a:L):Int:=if yG b a=true then(if okO b a=true then 0 else 2)else 1
def Td (d e:L)(b a:Nat):Int:=fE (λc=>aB d c*aB e (a-c)) (if a<b then a+1 else b)
def aeh (a c:L)(b:Nat):Td a c 0 b=0:=by unfold Td;rw[nO];rfl
def aei (c d:L)(a b:Nat):Td c d (a+1) b=Td c d a b+(if a<=b then aB c a*aB d (b-a)else 0):=by
 unfold Td;by_cases e:a<=b
 .rw[Q9 e,X9 (show ¬b<a by omega)];by_cases f:b<a+1
  .rw[Q9 f,show b+1=a+1 by omega];rfl
  rw[X9 f];rfl
 rw[X9 e,pO,pO];omega
def agh (b d:L)(c a:Nat)(e:a<c):Td b d c a=foS d b a:=by unfold Td;rw[Q9 e,agf];rfl
def zo (c e:L)(d b g:Nat)(f:L):Prop:=f.length=d/\∀a,a<d->aB f a=Td c e b a+(if b<=a/\a<b+g then aB c b*aB e (a-b)else 0)
def Wq (b c:L)(a:Nat):zo b c a 0 0 (au a):=⟨ak a,λa a=>by rw[jU,aeh,nO];rfl⟩
def aej (a:zo l p n b k r)(c:b+k<n):zo l p n b (k+1) (r.set (b+k) (aB r (b+k)+aB l b*aB p k)):=by
 refine⟨by rw[XB];exact a.1,λc d=>?_⟩;by_cases e:b+k=c
 .subst e;rw[oD _ _ _ (by rw[a.1];omega),a.2 _ d,nO,pO,show b+k-b=k by omega];omega
 rw[lF _ _ _ _ e,a.2 c d];by_cases d:b<=c/\c<b+k
 .rw[Q9 d,pO]
 rw[X9 d,nO]
def aav (d:zo l p n b k r)(a:¬b+k<n):zo l p n b (k+1) r:=by
 refine⟨d.1,λa c=>?_⟩;rw[d.2 a c];by_cases c:b<=a/\a<b+k
 .rw[Q9 c,pO]
 rw[X9 c,nO]
def aek (d:zo l p n b n r):zo l p n (b+1) 0 r:=by
 refine⟨d.1,λa c=>?_⟩;rw[d.2 a c,aei,X9 (show ¬(b+1<=a/\a<b+1+0) by omega)];by_cases c:b<=a
 .rw[Q9 c,pO];omega
 rw[X9 c,nO];omega
def ael (c:zo l p n n 0 r)(a:Nat)(b:a<n):aB r a=foS p l a:=by rw[c.2 a b,nO,agh l p n a b];omega
def Ws (c:zo l p n b k r)(o:n<=80)(e:∀b,-32768<=aB p b/\aB p b<=32767)(d:∀b,-32768<=aB l b/\aB l b<=32767)(a:Nat)(f:a<n)(m:b<=n):-90000000000<=aB r a/\aB r a<=90000000000:=by
 rw[c.2 a f];have h:=Db (λc=>aB l c*aB p (a-c)) (λc=>sF _ _ (d c).1 (d c).2 (e _).1 (e _).2) (if a<b then a+1 else b);have i:=sF _ _ (d b).1 (d b).2 (e (a-b)).1 (e (a-b)).2;have j:(if a<b then a+1 else b)<=80:=by split<;>omega
 unfold Td;generalize (if a<b then a+1 else b)=g at *
 generalize fE _ g=S at *
 split<;>omega
def Vm (b:L)(a:Int):L:=if 0<=a/\a<=80 then zn b (au 8) (jV a.toNat)else[]
def Vq (b:L)(a:Int):Int:=if 0<=a/\a<=80 then Nu b (au 8) (jV a.toNat)else 1
def nM (a:Int):Int:=if a<0 then 0 else a
def Bz (a c b d:Int):Bool:=
 if c<=0 then false else if d<=0 then true else decide (nM b*nM b*c<nM a*nM a*d)
def aja (c a d e:Int)(b:Bz c a d e=true):0<a:=by
 unfold Bz at b;by_cases f:a<=0
 .rw[Q9 f]at b;cases b
 omega
def BG (b:L)(a c:Nat):Int:=aB b (80-a+c % a)
def kW (b:L)(a:Nat):L:=f_ 40 (BG b a)
def lW (b:L)(a:Int):L:=if 20<=a/\a<=79 then kW b a.toNat else[]
def Fj (a:Int):Int:=if 20<=a/\a<=79 then 0 else 2
def mR (b:L)(a:Nat):(kW b a).length=40:=cK _ _
def uh (b:L)(a:Nat)(c:20<=a)(d:a<=79):lW b a=kW b a/\Fj a=0:=
 ⟨by unfold lW;rw[pO];rfl,by unfold Fj;rw[pO]⟩
def xP (a:L)(b:Nat)(d:aL a=true):aL (kW a b)=true:=by rw[bD,mR];intro e c;unfold kW;rw[dP _ _ _ c];exact kJ _ _ _ gO gO ((bD a).1 d) _
def fU (b c:L)(d:Nat):Int:=fE (λa=>aB b a*aB c a) d
def n_ (b c:L)(g:aL b=true)(h:aL c=true)(a:Nat):-1073741824*(a:Int)<=fU b c a/\fU b c a<=1073741824*(a:Int):=
 Db _ (λf=>by
  have d:=kJ _ _ _ gO gO ((bD b).1 g) f;have e:=kJ _ _ _ gO gO ((bD c).1 h) f;exact sF _ _ d.1 d.2 e.1 e.2) a
def J_ (b:Int):0<=b*b:=by
 rcases Int.le_total 0 b with a|a
 .exact ZA a a
 exact Int.mul_nonneg_of_nonpos_of_nonpos a a
def Fp (a:L):∀b,0<=fU a a b
 | 0=>DC _
 | b+1=>by
  have:=Fp a b;have:=J_ (aB a b);show 0<=fU a a b+aB a b*aB a b;omega
def kE (b c:Nat->Int):Nat->Nat×Int×Int
 | 0=>(20,0,0)
 | a+1=>if 0<b (20+a)/\Bz (b (20+a)) (c (20+a)) (kE b c a).2.1 (kE b c a).2.2=true then(20+a,b (20+a),c (20+a))else kE b c a
def Ji (b c:Nat->Int)(a:Nat)(d:0<b (20+a)/\Bz (b (20+a)) (c (20+a)) (kE b c a).2.1 (kE b c a).2.2=true):kE b c (a+1)=(20+a,b (20+a),c (20+a)):=Q9 d
def Te (b c:Nat->Int)(a:Nat)(d:¬(0<b (20+a)/\Bz (b (20+a)) (c (20+a)) (kE b c a).2.1 (kE b c a).2.2=true)):kE b c (a+1)=kE b c a:=X9 d
def Tf (b c:Nat->Int):∀a,20<=(kE b c a).1/\(kE b c a).1<20+a+1/\((kE b c a).1=20\/(kE b c a).1<20+a)
 | 0=>⟨Q6 _,by show 20<20+0+1;omega,.inl rfl⟩
 | a+1=>by
  have:=Tf b c a;by_cases d:0<b (20+a)/\Bz (b (20+a)) (c (20+a)) (kE b c a).2.1 (kE b c a).2.2=true
  .rw[Ji b c a d];show 20<=20+a/\20+a<20+(a+1)+1/\(20+a=20\/20+a<20+(a+1));omega
  rw[Te b c a d];omega
def ac4 (b c:Nat->Int):∀a,((kE b c a).2.1=0/\(kE b c a).2.2=0)\/((kE b c a).2.1=b (kE b c a).1/\(kE b c a).2.2=c (kE b c a).1/\0<(kE b c a).2.1/\0<(kE b c a).2.2)
 | 0=>.inl ⟨rfl,rfl⟩
 | a+1=>by
  by_cases d:0<b (20+a)/\Bz (b (20+a)) (c (20+a)) (kE b c a).2.1 (kE b c a).2.2=true
  .rw[Ji b c a d];exact .inr ⟨rfl,rfl,d.1,aja _ _ _ _ d.2⟩
  rw[Te b c a d];exact ac4 b c a
def aaw (a b:Nat->Int)(d:Int)(j:0<=d)(f:∀c,a c<=d)(g:∀c,b c<=d)(c:Nat):0<=(kE a b c).2.1/\(kE a b c).2.1<=d/\0<=(kE a b c).2.2/\(kE a b c).2.2<=d:=by
 rcases ac4 a b c with e|e
 .omega
 have h:=f (kE a b c).1;have i:=g (kE a b c).1;omega
def gains:L:=[0,3277,6554,9830,12452,14746,16384,18022]
def jG (a:Nat):Int:=gains.getD a 0
def wK (a:Nat):0<=jG a/\jG a<=18022:=by
 by_cases b:a<8
 .have:∀a:Fin 8,0<=jG a.val/\jG a.val<=18022:=by decide
  exact this ⟨a,b⟩
 unfold jG;rw[show gains.getD a 0=aB gains a from rfl,dI gains a (by show 8<=a;omega)];omega
def Es (a:Int):Int:=if 0<=a/\a<=7 then jG a.toNat else 0
def gaE (a:Int):Int:=if 0<=a/\a<=7 then 0 else 2
def IW (b c:Int):Nat->Nat
 | 0=>0
 | a+1=>if a+1<8/\(jG (a+1)+jG a)*c<2*16384*b then a+1 else IW b c a
def jH (a:Int):Int:=if 1099511627776<a then 1099511627776 else a
def PW (a b:Int):Int:=if a<=0\/b<=0 then 0 else(IW (jH a) (jH b) 7:Int)
def Dc (a:Int)(b:0<a):0<jH a/\jH a<=1099511627776:=by unfold jH;split<;>omega
def agi (b c:Int):∀a,IW b c a<=a
 | 0=>Q6 _
 | a+1=>by
  have:=agi b c a;unfold IW;split<;>omega
def mlo (a:Nat):Int:=if a<8 then -31000 else if a<96 then -32768 else if a=98 then 20 else 0
def mhi (a:Nat):Int:=if a<8 then 31000 else if a<97 then 32767 else if a=97 then 18022 else if a=98 then 79 else if a=99 then 6 else 65535
def bJ (b:L):Bool:=(List.range 101).all λa=>decide (mlo a<=aB b a)&&decide (aB b a<=mhi a)
def g_ (d:L):bJ d=true↔∀a,a<101->mlo a<=aB d a/\aB d a<=mhi a:=by
 unfold bJ;rw[List.all_eq_true];constructor
 .intro b a c;have:=b a (List.mem_range.2 c);simpa using this
 intro b a c;have:=b a (List.mem_range.1 c);simpa using this
def Fq (a:Nat)(b:a<8):mlo a=-31000/\mhi a=31000:=⟨Q9 b,Q9 b⟩
def mF (a:Nat)(c:8<=a)(b:a<96):mlo a=-32768/\mhi a=32767:=by unfold mlo mhi;rw[nO,Q9 b,nO,pO];exact⟨rfl,rfl⟩
def reflB (b:L):Bool:=(List.range 8).all λa=>decide (-31000<=aB b a)&&decide (aB b a<=31000)
def Aa (d:L):reflB d=true↔∀a,a<8->-31000<=aB d a/\aB d a<=31000:=by
 unfold reflB;rw[List.all_eq_true];constructor
 .intro b a c;have:=b a (List.mem_range.2 c);simpa using this
 intro b a c;have:=b a (List.mem_range.1 c);simpa using this
def qQ (d:L)(e f:Nat):aL (bM d e f)=true↔∀a,a<f->-32768<=aB d (e+a)/\aB d (e+a)<=32767:=by
 rw[bD,aT];constructor
 .intro c a b;have:=c a b;rwa [fV _ _ _ _ b]at this
 intro c a b;rw[fV _ _ _ _ b];exact c a b
def oU (b:L):bJ b=true↔reflB b=true/\aL (bM b 8 8)=true/\aL (bM b 16 80)=true/\(0<=aB b 96/\aB b 96<=32767)/\(0<=aB b 97/\aB b 97<=18022)/\(20<=aB b 98/\aB b 98<=79)/\(0<=aB b 99/\aB b 99<=6)/\(0<=aB b 100/\aB b 100<=65535):=by
 rw[g_,Aa,qQ,qQ];constructor
 .intro c;refine⟨λa d=>?_,λa d=>?_,λa d=>?_,c 96 gO,c 97 gO,c 98 gO,c 99 gO,c 100 gO⟩
  .have:=c a gO;rw[(Fq a d).1,(Fq a d).2]at this;exact this
  .have:=c (8+a) gO;rw[(mF (8+a) gO gO).1,(mF (8+a) gO gO).2]at this;exact this
  have:=c (16+a) gO;rw[(mF (16+a) gO gO).1,(mF (16+a) gO gO).2]at this;exact this
 rintro⟨e,f,g,h,i,j,k,l⟩ a d;by_cases c:a<8
 .rw[(Fq a c).1,(Fq a c).2];exact e a c
 by_cases m:a<16
 .rw[(mF a gO gO).1,(mF a gO gO).2];have:=f (a-8) gO;rwa [show 8+(a-8)=a by omega]at this
 by_cases n:a<96
 .rw[(mF a gO gO).1,(mF a gO gO).2];have:=g (a-16) gO;rwa [show 16+(a-16)=a by omega]at this
 obtain rfl|rfl|rfl|rfl|rfl:a=96\/a=97\/a=98\/a=99\/a=100:=gO
 .exact h
 .exact i
 .exact j
 .exact k
 exact l
def iY:L:=((au 101).set 98 20).set 100 21845
def j5:iY.length=101:=by unfold iY;rw[XB,XB,ak]
def Ab:bJ iY=true:=by decide +kernel
abbrev VH (a b:Int)(c:L):Prop:=c.length=40/\(20<=a/\a<=79)/\0<=b/\b<=32767
def tJ (d:L)(c:Int)(b:L)(a:Nat):Int:=fA ((fA (aB d a)*c+8192) / 16384+fA (aB b a))
def Wt (c:L)(b:Int)(a:L):L:=f_ 40 (tJ c b a)
def Df (d:L)(b c:Int)(a:L):L:=if VH b c a then Wt (lW d b) c a else[]
def B_ (b c:Int)(a:L):Int:=if a.length=40 then(if VH b c a then 0 else 2)else 1
def Jj (c:L)(b:Int)(a:L):(Wt c b a).length=40:=cK _ _
def ac5 (d:L)(c:Int)(b:L)(a:Nat)(e:a<40):aB (Wt d c b) a=tJ d c b a:=dP _ _ _ e
def alI (d:L)(b:Int)(a:L)(c:Nat):-32768<=tJ d b a c/\tJ d b a c<=32767:=by unfold tJ;exact mq _
def wL (d:L)(b:Int)(a:L):aL (Wt d b a)=true:=by rw[bD,Jj];intro e c;rw[ac5 _ _ _ _ c];exact alI _ _ _ _
def kL {h:L}{a:Int}(b:VH i a l):Df h i a l=Wt (lW h i) a l/\B_ i a l=0:=⟨Q9 b,by unfold B_;rw[Q9 b.1,Q9 b]⟩
def Qh (c b:L)(a:Nat):Int:=if a<40 then aB c (a+40)else fA (aB b (a-40))
def yM (b a:L):L:=f_ 80 (Qh b a)
def Jk (b a:L):L:=if a.length=40 then yM b a else au 80
def VI (a:L):Int:=if a.length=40 then 0 else 1
def lG (b a:L):(yM b a).length=80:=cK _ _
def ajb (c b:L)(a:Nat)(d:a<80):aB (yM c b) a=Qh c b a:=dP _ _ _ d
def Tg (b a:L):(Jk b a).length=80:=by unfold Jk;split;exact lG _ _;exact ak _
def ji {h:L}(a:l.length=40):Jk h l=yM h l/\VI l=0:=⟨Q9 a,Q9 a⟩
def rC (a:Int):Nat->Int
 | 0=>a
 | b+1=>zk (rC a b)
def nzN (b c:Int)(a:Nat):Int:=IG (rC b a) c
def yH (b c:Int)(a:Nat):L:=f_ a (nzN b c)
def agj (a:Int)(c:0<=a)(d:a<=65535):∀b,0<=rC a b/\rC a b<=65535
 | 0=>⟨c,d⟩
 | b+1=>by have:=Fh (rC a b);show 0<=zk (rC a b)/\zk (rC a b)<=65535;omega
def Fu (b:Int):∀a,rC (zk b) a=rC b (a+1)
 | 0=>rfl
 | a+1=>by show zk (rC (zk b) a)=zk (rC b (a+1));rw[Fu b a]
def qb (b c:Int)(a:Nat):(yH b c a).length=a:=cK _ _
def ac6 (c d:Int)(b a:Nat)(e:a<b):aB (yH c d b) a=nzN c d a:=dP _ _ _ e
def Wu (a b:Int)(d:Nat):yH a b (d+1)=IG a b::yH (zk a) b d:=by
 refine(dL (by simp[qb]) (λc e=>?_)).symm
 match c,e with
 | 0,_=>rfl
 | c+1,e=>
  show aB (yH (zk a) b d) c=_;rw[ac6 _ _ _ _ gO];unfold nzN;rw[Fu]
def alJ (c a:Int)(b:Nat):-Nt a<=nzN c a b/\nzN c a b<=Nt a:=alH _ _
def wM (b a:Int)(e:Nat):aL (yH b a e)=true:=by rw[bD,qb];intro d c;rw[ac6 _ _ _ _ c];have:=alJ b a d;have:=aar a;omega
def Qv (a:L)(b:Int):Int:=if b=0/\aB a 99<6 then aB a 99+1 else aB a 99
def xQ (a:L)(b:Int):L:=yH (aB a 100) (Gz (aB a 96) (Qv a b) / 4) 40
def rM (a:L)(b:Int):L:=Wt (lW (bM a 16 80) (aB a 98)) (Gz (aB a 97) (Qv a b)) (xQ a b)
def memT (b:L)(a c:Int)(d:L):L:=jd ((b.set 99 a).set 100 c) 16 d
abbrev Et (b:L)(a:Int):Prop:=bJ b=true/\0<=a/\a<=1
def nD (a:L)(b:Int):L:=if Et a b then memT a (Qv a b) (rC (aB a 100) 40) (yM (bM a 16 80) (rM a b))else au 101
def yN (b:L)(a:Int)(c:Bool):Bool:=if Et b a then c else false
def nN (b:L)(a:Int):L:=if Et b a then rM b a else[]
def yO (b:L)(a:Int):Int:=if Et b a then 0 else 2
def siX (a:L):L:=yH (aB a 100) 8 40
def Cy (a:L):L:=if bJ a=true then memT a (aB a 99) (rC (aB a 100) 40) (yM (bM a 16 80) (siX a))else au 101
def siS (a:L)(b:Bool):Bool:=if bJ a=true then b else false
def Cz (a:L):L:=if bJ a=true then siX a else[]
def siE (a:L):Int:=if bJ a=true then 0 else 2
def jk (b:L)(a:Int):(rM b a).length=40:=Jj _ _ _
def ac7 (a:L):(siX a).length=40:=qb _ _ _
def xR (b:L)(a:Int):(xQ b a).length=40:=qb _ _ _
def iJ {half:Int}(a:Et l half):nD l half=memT l (Qv l half) (rC (aB l 100) 40) (yM (bM l 16 80) (rM l half))/\yN l half s=s/\nN l half=rM l half/\yO l half=0:=⟨Q9 a,Q9 a,Q9 a,Q9 a⟩
def oG (a:bJ l=true):Cy l=memT l (aB l 99) (rC (aB l 100) 40) (yM (bM l 16 80) (siX l))/\siS l s=s/\Cz l=siX l/\siE l=0:=⟨Q9 a,Q9 a,Q9 a,Q9 a⟩
def Wv (a:L)(b c:Int)(d:L):(memT a b c d).length=a.length:=by unfold memT;rw[dV,XB,XB]
def iM (d:L)(b:Nat)(e:Int)(f:b<d.length)(a:Nat):aB (d.set b e) a=if a=b then e else aB d a:=by
 unfold aB;by_cases c:a=b
 .subst c;simp[List.getD,f]
 simp[List.getD,c,WB,Ne.symm c]
def agk (b:L)(h:b.length=101)(d f:Int)(c:L)(i:c.length=80)(a:Nat)(g:a<101):aB (memT b d f c) a=if 16<=a/\a<96 then aB c (a-16)else if a=100 then f else if a=99 then d else aB b a:=by
 unfold memT;rw[gT _ _ _ _ (by rw[XB,XB,h];exact g),i];by_cases e:16<=a/\a<96
 .rw[pO,Q9 e]
 rw[nO,X9 e,iM _ _ _ (by rw[XB];omega),iM _ _ _ gO]
def Qw (b c:L)(e:∀a,a<80->-32768<=aB b a/\aB b a<=32767)(a:Nat)(d:a<80):-32768<=aB (yM b c) a/\aB (yM b c) a<=32767:=by
 rw[ajb _ _ _ d];unfold Qh;split
 .exact e _ gO
 exact mq _
def Qx (b:L)(n:b.length=101)(m:bJ b=true)(d g:Int)(j:L)(k:0<=d)(l:d<=6)(o:0<=g)(p:g<=65535):bJ (memT b d g (yM (bM b 16 80) j))=true:=by
 rw[g_];have h:=(g_ b).1 m;intro a i;rw[agk b n _ _ _ (lG _ _) a i];by_cases c:16<=a/\a<96
 .rw[Q9 c,(mF a gO c.2).1,(mF a gO c.2).2];refine Qw _ _ (λb d=>?_) _ gO;rw[fV _ _ _ _ d];have:=h (16+b) gO;rw[(mF (16+b) gO gO).1,(mF (16+b) gO gO).2]at this;exact this
 rw[X9 c];by_cases e:a=100
 .rw[Q9 e,e];exact⟨o,p⟩
 rw[X9 e];by_cases f:a=99
 .rw[Q9 f,f];exact⟨k,l⟩
 rw[X9 f];exact h a i
def Ca (a:L)(b:Int)(d:bJ a=true):0<=Qv a b/\Qv a b<=6:=by have c:=(g_ a).1 d 99 gO;have e:0<=aB a 99/\aB a 99<=6:=c;unfold Qv;split<;>omega
def Ww (a:L)(g:a.length=101)(c:Int)(b:Et a c):bJ (nD a c)=true:=by rw[(iJ (s:=true) b).1];have f:0<=aB a 100/\aB a 100<=65535:=(g_ a).1 b.1 100 gO;have d:=Ca a c b.1;have e:=agj (aB a 100) f.1 f.2 40;exact Qx a g b.1 _ _ _ d.1 d.2 e.1 e.2
def agl (a:L)(f:a.length=101)(b:bJ a=true):bJ (Cy a)=true:=by rw[(oG (s:=true) b).1];have e:0<=aB a 100/\aB a 100<=65535:=(g_ a).1 b 100 gO;have c:0<=aB a 99/\aB a 99<=6:=(g_ a).1 b 99 gO;have d:=agj (aB a 100) e.1 e.2 40;exact Qx a f b _ _ _ c.1 c.2 d.1 d.2
def og (a:l.length=101)(b:bJ l=true):iI l:=λa=>by
 by_cases c:a<101
 .have:=(g_ l).1 b a c;have:-32768<=mlo a/\mhi a<=65535:=by unfold mlo mhi;split<;>(try split)<;>(try split)<;>(try split)<;>(try split)<;>omega
  omega
 rw[dI _ a gO];omega
def Fv (a:L)(b:Int)(c:bJ a=true):VH (aB a 98) (Gz (aB a 97) (Qv a b)) (xQ a b):=
 ⟨xR _ _,(g_ a).1 c 98 gO,Bv _ _⟩
def fO (b:Nat)(d:W)(c:V)(a:L):Prop:=d.ownsRow b 3 1 c a.length (a.map (Value.int .i64))
def fO.ints (a:fO n w x l):aY w x l:=Sw a
def fO.aC (b:fO n w x l)(a:w.grownBy w' none):fO n w' x l:=
 b.kept a (by rcases x.ownBlock with _|c<;>simp)
def fO.aH {e:Array V}{f:Nat×Nat}(d:fO n w x l)(g:w.grownBy w' (some b))(a:w.heap[b]?=some (.cells e T f))(i:T≠3):fO n w' x l:=by
 refine d.kept g ?_;rcases d.2 with⟨rfl,_⟩|⟨m,j,k,rfl,_,h,_⟩
 .exact .inl rfl
 right;intro c;simp[Value.ownBlock]at c;subst c;rw[h]at a;simp at a;exact i a.2.1.symm
def fO.base {b':Nat}(a:fO n w x l)(h:b'<=n):fO b' w x l:=by
 refine⟨a.1,?_⟩;rcases a.2 with a|⟨e,b,c,d,g,f⟩
 .exact .inl a
 exact .inr ⟨e,b,c,d,gO,f⟩
def bN (a:Nat)(b:W):fO a b N []:=World.ownsRow_nil _ _ _ _
def rD (a:V)(d:L):Prop:=a=N\/∃b c,a=.slice (some b) d.length c
def oW {W:World}{c:Addr}(f:aY W (.slice (some c) n b) l):n=l.length/\n<=b/\∀a,a<l.length->W.cell? (c.add a)=some (I (aB l a)):=by have⟨k,m,d,g,h⟩:=f;simp only[Value.slice.injEq]at d;obtain⟨rfl,rfl,rfl⟩:=d;refine⟨rfl,g,λa c=>?_⟩;have⟨j,e,i⟩:=h gO;cases e;exact i a c
def Ac {W:World}(b:aY W N l):l=[]:=by have⟨c,d,a,_,_⟩:=b;simp only[Value.slice.injEq]at a;exact List.length_eq_zero_iff.1 a.2.1.symm
def Ints_nil (W:World):aY W N []:=⟨none,0,rfl,Q6 _,λa=>by simp at a⟩
def ac8 {W:World}(f:aY W x l)(j:rD x l)(a:Nat)(i:a<=l.length):∃b,(∀c,Sem.run prog (Instr.slice 26 x none (some (I a)) none) c=.ok b c)/\aY W b (l.take a)/\rD b (l.take a):=by
 have⟨q,m,n,o,p⟩:=info_parts nY;rcases j with rfl|⟨b,d,rfl⟩
 .obtain rfl:=Ac f;obtain rfl:a=0:=by simpa using i
  exact⟨N,λc=>by simp[go_sem,sliced],Ints_nil W,.inl rfl⟩
 have⟨_,k,g⟩:=oW f;have e:(l.take a).length=a:=by simp;omega
 refine⟨.slice (some b) a d,λc=>?_,⟨some b,d,by rw[e],by rw[e];omega,λ_=>⟨b,rfl,λi f=>?_⟩⟩,.inr ⟨b,d,by rw[e]⟩⟩
 .rw[run_slice_h (P:=prog) c 26 (some b) l.length d (by kernel_rfl) .i64 a gO gO];simp[go_sem,sliced]
 rw[e]at f;rw[g i gO];simp[aB,List.getD,KC,f]
def ajc {W:World}(f:aY W x l)(j:rD x l)(a:Nat)(i:a<=l.length):∃b,(∀c,Sem.run prog (Instr.slice 26 x (some (I a)) none none) c=.ok b c)/\aY W b (l.drop a)/\rD b (l.drop a):=by
 rcases j with rfl|⟨e,b,rfl⟩
 .obtain rfl:=Ac f;obtain rfl:a=0:=by simpa using i
  exact⟨N,λc=>by simp[go_sem,sliced],Ints_nil W,.inl rfl⟩
 have⟨_,k,g⟩:=oW f;have d:(l.drop a).length=l.length-a:=by simp
 refine⟨.slice (some (if b=a then e else e.add a)) (l.length-a) (b-a),λc=>?_,⟨_,b-a,by rw[d],by rw[d];omega,λhp=>⟨_,rfl,λi f=>?_⟩⟩,.inr ⟨_,b-a,by rw[d]⟩⟩
 .rw[run_slice_l (P:=prog) c 26 (some e) l.length b (by kernel_rfl) .i64 a gO gO];simp[go_sem,sliced];split<;>rfl
 rw[d]at f hp;rw[nO,Addr.add_add,g (a+i) gO];simp[aB,List.getD]
def dH {l:Array Oper}{rest:List Oper}(B:Region.wanted o (yielded l a.tmps)=true)(m j:Operand)
 (q:o.op=Op.call { callee:=Callee.builtin Builtin.append,args:=#[m,j],argTypes:=#[26,26] }) (e:Nat) (f b:V) (A c:L) (r:a.eval m=f) (s:a.eval j=b) (k:fO e w f A) (n:aY w b c) (C:rD b c)
 (d:(A.length+c.length)*8<=140737488355328) (x:e<=w.heap.size)
 (z:∀d b,fO e b d (A++c)->w.grownBy b f.ownBlock->wpList prog l Q rest (a.put o.dst d) b):wpList prog l Q (o::rest) a w:=by
 have⟨t,p,D,E,F⟩:=info_parts nY;have G:∀g:Act->W->Prop,(∀d b,fO e b d (A++c)->w.grownBy b f.ownBlock->g (a.put o.dst d) b)->Oper.wp prog o a w g Q:=by
  intro g h;rcases C with rfl|⟨u,y,rfl⟩
  .obtain rfl:=Ac n;have i:=run_append_owned_none (P:=prog) (w:=w) e 26 o.type 3 t 1 underlying26 p f _ _ k;unfold Oper.wp;simp[execOp,q,resolve,invoke,builtin,r,s,i,Result.andThen];exact h _ _ (by rw[F3];exact k) (aM _ _)
  have⟨_,H,v⟩:=oW n;refine wp_append_own w m j 26 q e 3 t (I 0) 1 8 underlying26 p D E F rfl (by decide) f A.length _ r k u c.length y (c.map (Value.int .i64)) s (by simp) (λk f e=>?_) (λf e=>?_) (by unfold maxLen;omega) gO x (λd b f i _=>h d b ?_ i)
  .have i:k<c.length:=by
    by_cases i:k<c.length
    .exact i
    rw[U8 (by simp;omega)]at e;cases e
   rw[v k i];simpa [aB,List.getD,i] using e
  .obtain⟨j,_,rfl⟩:=List.mem_map.1 e;rfl
  unfold fO;simpa using f
 refine wpList_step λg h=>?_;rw[Q9 B];exact G g λd b c f=>h _ _ (z d b c f)
def fO.lt (c:fO n w x l)(a:Nat)(b:x.ownBlock=some a):n<=a/\a<w.heap.size:=by
 rcases c.2 with⟨rfl,_⟩|⟨h,f,g,rfl,d,e,_⟩
 .cases b
 simp[Value.ownBlock]at b;subst b;exact⟨d,aO e⟩
def fO.apart {N:Nat}(d:∀a,x.ownBlock=some a->a<N)(c:fO N w v' l):x.ownBlock=none\/x.ownBlock≠v'.ownBlock:=by
 rcases ea:x.ownBlock with _|a
 .exact .inl rfl
 right;intro b;have:=(c.lt a b.symm).1;have:=d a ea;omega
def fO.xJ (b:fO n w x l):rD x l:=by
 rcases b.2 with⟨rfl,_⟩|⟨d,a,c,rfl,_⟩
 .exact .inl rfl
 exact .inr ⟨_,a,rfl⟩
def uj (a:W)(b:Int):aY (a.alloc (.cells #[I b] 3)) (.slice (S a.heap.size) 1 1) [b]:=by
 refine⟨some (A a.heap.size 0),1,rfl,Q6 _,λ_=>⟨_,rfl,λc b=>?_⟩⟩;rw[Addr.add_mid,WT,aI (dF a _)]
 match c,b with
 | 0,_=>rfl
def Ad (a:W)(c:Nat)(d:c<=a.heap.size)(b:Int):fO c (a.alloc (.cells #[I b] 3)) (.slice (S a.heap.size) 1 1) [b]:=
 ⟨rfl,.inr ⟨a.heap.size,1,#[I b],rfl,d,dF a _,Q6 _,by unfold maxLen;omega,rfl,rfl⟩⟩
def gV (c:w.grownBy w' none)(b:w'.grownBy u z)(d:∀a,z=some a->w.heap.size<=a):w.grownBy u none:=
 bT c b none (λb a _=>by cases a) (λb a c=>by have:=d b a;omega)
def fO.form (c:fO n w x l)(j:0<l.length):∃a b,x=.slice (S a) l.length b/\n<=a/\a<w.heap.size/\l.length<=b:=by
 rcases c.2 with⟨_,i⟩|⟨a,b,h,g,d,e,f,_⟩
 .omega
 exact⟨a,b,g,d,aO e,f⟩
def fO.cell (c:fO n w (.slice (S b) j k) l)(e:j=l.length)(a:Nat)(d:a<l.length):w.cell? (A b a)=some (I (aB l a)):=by subst e;have:=World.ownsRow.cellAt c a gO;rw[this];simp[aB,List.getD,d]
def fO.free (c:fO n w (.slice (S b) j k) l)(d:j=l.length)(a:Nat):w.frozen? (A b a)=false:=by subst d;exact World.ownsRow.frozenAt c a
def fO.set (d:fO n w (.slice (S b) j k) l)(e:j=l.length)(a:Nat)(c:Int):fO n (w.setCell (A b a) (I c)) (.slice (S b) j k) (l.set a c)/\w.grownBy (w.setCell (A b a) (I c)) (some b):=by subst e;have:=World.ownsRow.stored d a (I c);refine⟨?_,this.2⟩;unfold fO;rw[XB,List.map_set];exact this.1
def fO.bH (a:fO n w x l)(f:w.grownBy w' (some b))(g:b<n):fO n w' x l:=by
 refine a.kept f ?_;rcases e:x.ownBlock with _|c
 .exact .inl rfl
 right;intro d;have:=(a.lt c e).1;cases d;omega
def fO.Ka {a:Nat}(c:fO n w (.slice (S b) k j) l)(gr:w.grownBy w' (some a))(d:b≠a):fO n w' (.slice (S b) k j) l:=
 c.kept gr (.inr (by simpa [Value.ownBlock] using d))
def aem (a:L)(c:Nat):aB (a++[0]) c=aB a c:=by
 rcases Nat.lt_trichotomy c a.length with b|b|b
 .simp[aB,List.getD,H6,b]
 .subst b;rw[dI a _ (Q6 _)];simp[aB,List.getD]
 rw[dI a _ gO,dI _ _ (by simp;omega)]
def refl (a:Int):Int:=amO a 65535-32767
def Wy (S c b:Int)(e:4*c<=S)(f:S<=4*b):c<=S.tdiv 4/\S.tdiv 4<=b:=by
 rcases Int.le_total 0 S with a|a
 .rw[YS a];omega
 have d:S.tdiv 4=-((-S).tdiv 4):=by rw[Int.neg_tdiv];omega
 rw[d,YS gO];omega
def agm (a b:W)(c:TypeId)(d:L):Prop:=bY b a.heap.size c d/\a.grownBy b none
def agm.set (c:agm w w' T l)(a:Nat)(b:Int):agm w (w'.setCell (A w.heap.size a) (I b)) T (l.set a b):=
 ⟨c.1.set a b,aG c.2 (aD _ (A w.heap.size a) _) (by simp)⟩
def agn (e:Nat)(a:Int->Int)(b:L)(c:Nat)(d:L):Prop:=jF e (λe=>a (aB b e)) c d/\∀a,c<=a->aB d a=aB b a
def aax {a:Int->Int}(c:agn n a l b p)(d:b<n):agn n a l (b+1) (p.set b (a (aB l b))):=by refine⟨eD c.1 d,λa d=>?_⟩;rw[<-c.2 a gO];simp[aB,List.getD,WB,show ¬b=a by omega]
def aen (b:W)(L P:List Int)(e:Int)(d:Ending)(c:W):Prop:=∃a,d=.returned (.tuple #[a,.agg (aF P),I e])/\fO b.heap.size c a L/\b.grownBy c none
def agp {d e:TypeId}(b:iX w w' T d e l p r)(a:w'.grownBy u z)(f:∀c,z=some c->w.heap.size+1+1+1<=c):iX w u T d e l p r:=by
 rcases z with _|c
 .exact b.aC a
 have:=f c rfl;exact⟨b.1.aH a gO,b.2.1.aH a gO,b.2.2.1.aH a gO,aG b.2.2.2 a gO⟩
def gP (b:W)(L:List Int)(e:Int)(d:Ending)(c:W):Prop:=∃a,d=.returned (.tuple #[a,I e])/\fO b.heap.size c a L/\b.grownBy c none
def Di {base:Nat}(a:bY w n 3 l)(b:base<=n)(c:l.length<=1000000):fO base w (.slice (S n) l.length l.length) l:=
 ⟨by simp,.inr ⟨n,l.length,aF l,rfl,b,a,Q6 _,by unfold maxLen;omega,by simp[aF],by simp[aF,K3]⟩⟩
def one_set (a:Nat)(c:0<a):(au a).set 0 4096=jV a:=by
 apply dL (by simp[au]);intro d e;by_cases b:d=0
 .subst b;simp[aB,List.getD,au,c]
 rw[X9 b,lF _ _ _ _ gO,jU]
def dU:(prog.info? 51).map (·.size)=some 80:=by kernel_rfl
def z80:(prog.info? 51).bind (·.zero)=some (.agg (aF (au 80))):=by kernel_rfl
def kX {d:Option Addr}(f:aY w (.slice d n b) l)(c:Nat)(i:c<l.length):∃a,d=some a/\w.cell? (a.add c)=some (I (aB l c)):=by have⟨j,k,e,_,g⟩:=f;simp only[Value.slice.injEq]at e;obtain⟨rfl,m,rfl⟩:=e;obtain⟨a,rfl,h⟩:=g gO;exact⟨a,rfl,h c i⟩
def jB (c:W)(b:V)(a:Ending)(d:W):Prop:=a=.returned b/\c.grownBy d none
def Dj (d:W)(c:L)(b:Int)(a:Ending)(e:W):Prop:=a=.returned (.tuple #[.agg (aF c),I b])/\d.grownBy e none
def Qp (a:Int):Prop:=-9223372036854775808<=a/\a<=9223372036854775807
def aP (a:L)(b:Bool):List V:=mI a [.bool b]
def bL (a:L)(b:Bool):V:=.agg (aP a b).toArray
def aJ (a:l.length=101)(b:Bool):(aP l b).length=102:=by unfold aP;rw[wH,a];rfl
def bO (c:L)(d:Bool):∀b∈aP c d,b.oneCell'=true:=Wm _ _ (by intro b a;simp at a;subst a;rfl)
def anm:(prog.info? 53).bind (·.zero)=some (bL (au 101) false):=by kernel_rfl
def aK:(prog.info? 53).map (·.size)=some 102:=by kernel_rfl
def dX:(prog.info? 50).map (·.size)=some 8:=by kernel_rfl
def dM (b:W):Sem.run prog (zeroValue 53) b=.ok (bL (au 101) false) b:=by
 have a:=anm;cases hq:prog.info? 53 with
 | none=>simp[hq]at a
 | some d=>
  have c:d.zero=some (bL (au 101) false):=by simpa [hq] using a
  simp[zeroValue,typeInfo,hq,c]
def bU (d:W)(a:Nat)(b:L)(c:Bool):Prop:=aW d a 53 (aP b c)
def bU.cell (b:bU w n l s)(a:Nat)(c:a<l.length):w.cell? (A n a)=some (I (aB l a)):=(aW.cell b a).trans (rH _ _ _ c)
def bU.free (b:bU w n l s)(a:Nat):w.frozen? (A n a)=false:=aW.free b a
def bU.aC (b:bU w n l s)(a:w.grownBy w' none):bU w' n l s:=aW.aC b a
def bU.aH (c:bU w n l s)(a:w.grownBy w' (some b))(d:n≠b):bU w' n l s:=aW.aH c a d
def bU.lt (a:bU w n l s):n<w.heap.size:=aW.lt a
def bU.new (a:W)(b:L)(c:Bool):bU (a.alloc (.cells (aP b c).toArray 53)) a.heap.size b c:=aW.new a _ _
def bU.set (c:bU w n l s)(a:Nat)(b:Int)(d:a<l.length):bU (w.setCell (A n a) (I b)) n (l.set a b) s:=by have:=aW.set c a (I b);unfold aP at this;rw[Wl _ _ _ _ d]at this;exact this
def bU.put (c:bU w n l s)(b:Nat)(a:L)(d:b+a.length<=l.length):bU (dz w n b (aQ a)) n (jd l b a) s/\w.grownBy (dz w n b (aQ a)) (some n):=by have:=qM c b (aQ a) (by rw[aN];unfold aP;rw[wH];omega);unfold aP at this;rw[rJ _ _ _ _ d]at this;exact this
def bU.dQ {m:L}{t:Bool}(c:bU w n l s)(a:l.length=101)(b:m.length=101):bU (dz w n 0 (aP m t)) n m t/\w.grownBy (dz w n 0 (aP m t)) (some n):=by have:=qM c 0 (aP m t) (by rw[aJ b,aJ a];omega);rw[pW _ _ (by rw[aJ b,aJ a])]at this;exact this
def bU.part (d:Bool)(b a:Nat)(c:b+a<=l.length):((aP l d).drop b).take a=aQ (bM l b a):=tH _ _ _ _ c
def bU.all (a:Bool)(b:l.length=101):((aP l a).drop 0).take 102=aP l a:=by rw[List.drop_zero,K3 (by rw[aJ b];omega)]
def bU.ints (d:bU w n l s)(b a c:Nat)(f:b+a<=l.length)(e:a<=c):aY w (.slice (some (A n b)) a c) (bM l b a):=aW.ints d b a c f e
def fu (b:W)(f:List Int)(g:Bool)(L:List Int)(e:Int)(d:Ending)(c:W):Prop:=∃a,d=.returned (.tuple #[bL f g,a,I e])/\fO b.heap.size c a L/\b.grownBy c none
def Y9 (b:Nat)(c:W):Prop:=∀a,c.grownBy a none->Calls prog b #[] a (jB a (bL iY false))
def jI (e:W)(d:V)(a:L):Prop:=
 ∃(b:Option Addr) (c:Nat),d=.slice b a.length c/\a.length<=c/\(0<a.length->∃c,b=some c/\∀b,b<a.length->e.cell? (c.add b)=some (.int .u8 (aB a b)))
def nR (a:L):Array V:=(a.map (Value.int .u8)).toArray
def Wz (b:L)(a:Nat)(c:a<b.length):(nR b)[a]?=some (.int .u8 (aB b a)):=by simp[nR,aB,List.getD,c]
def WC (b:L)(a:Nat)(c:Int):(nR b).setIfInBounds a (.int .u8 c)=nR (b.set a c):=by simp[nR,List.map_set]
def agq:(prog.info? 5).map (λa=>(a.zero,a.size,a.bytes))=some (some (.int .u8 0),1,1):=by kernel_rfl
def aeo (a:Nat):madeCells #[.int .u8 0] a=nR (List.replicate a 0):=by
 unfold nR madeCells;apply Array.ext
 .simp
 intro d b c;simp[Nat.mod_one]
def Kc (a:Int)(d:0<=a)(j:a<=35184372088832)(b:W):(Instr.makeSlice 32 (I a) (I a)).run prog b=.ok (.slice (S b.heap.size) a.toNat a.toNat) (b.alloc (.cells (nR (List.replicate a.toNat 0)) 5)):=by have⟨i,e,f,g,h⟩:=info_parts agq;have c:=run_make (P:=prog) b 32 5 i (.int .u8 0) underlying32 e f .i64 .i64 a a d (DC _) (by rw[h];omega) gO;rw[<-aeo];simpa [g,Value.cells] using c
def jy (a:jI w x l)(f:w.grownBy w' none):jI w' x l:=by obtain⟨c,e,rfl,g,d⟩:=a;refine⟨c,e,rfl,g,λa=>?_⟩;obtain⟨b,rfl,h⟩:=d a;exact⟨b,rfl,λb a=>aU f (h b a)⟩
def Tj (d:w.ownsRow n 5 1 x l.length (l.map (Value.int .u8))):jI w x l:=by
 have⟨m,a⟩:=d;rcases a with⟨a,h⟩|⟨b,e,f,a,_,i,j,_,o,k⟩
 .exact⟨none,0,by rw[a,h],gO,λd=>gO⟩
 refine⟨some (A b 0),e,a,j,λ_=>⟨_,rfl,λa d=>?_⟩⟩;have c:(f.toList.take (l.length*1))[a]?=(l.map (Value.int .u8))[a]?:=by rw[k]
 rw[KC,pO,Array.getElem?_toList]at c;have g:((A b 0):Addr).add a=(A b a):=by unfold Addr.add;split<;>simp_all
 rw[g,aI i,c];simp[aB,List.getD,d]
def iT (b:Nat)(d:W)(c:V)(a:L):Prop:=d.ownsRow b 5 1 c a.length (a.map (Value.int .u8))
def iT.aay (a:iT n w x l):jI w x l:=Tj a
def iT.aC (b:iT n w x l)(a:w.grownBy w' none):iT n w' x l:=
 b.kept a (by rcases x.ownBlock with _|c<;>simp)
def iT.aH {e:Array V}{f:Nat×Nat}(d:iT n w x l)(g:w.grownBy w' (some b))(a:w.heap[b]?=some (.cells e T f))(i:T≠5):iT n w' x l:=by
 refine d.kept g ?_;rcases d.2 with⟨rfl,_⟩|⟨m,j,k,rfl,_,h,_⟩
 .exact .inl rfl
 right;intro c;simp[Value.ownBlock]at c;subst c;rw[h]at a;simp at a;exact i a.2.1.symm
def iT.base {b':Nat}(a:iT n w x l)(h:b'<=n):iT b' w x l:=by
 refine⟨a.1,?_⟩;rcases a.2 with a|⟨e,b,c,d,g,f⟩
 .exact .inl a
 exact .inr ⟨e,b,c,d,gO,f⟩
def je (a:Nat)(b:W):iT a b N []:=World.ownsRow_nil _ _ _ _
def wO {W:World}{c:Addr}(f:jI W (.slice (some c) n b) l):n=l.length/\n<=b/\∀a,a<l.length->W.cell? (c.add a)=some (.int .u8 (aB l a)):=by have⟨k,m,d,g,h⟩:=f;simp only[Value.slice.injEq]at d;obtain⟨rfl,rfl,rfl⟩:=d;refine⟨rfl,g,λa c=>?_⟩;have⟨j,e,i⟩:=h gO;cases e;exact i a c
def aep {W:World}(b:jI W N l):l=[]:=by have⟨c,d,a,_,_⟩:=b;simp only[Value.slice.injEq]at a;exact List.length_eq_zero_iff.1 a.2.1.symm
def sM {l:Array Oper}{rest:List Oper}(B:Region.wanted o (yielded l a.tmps)=true)(m j:Operand)
 (q:o.op=Op.call { callee:=Callee.builtin Builtin.append,args:=#[m,j],argTypes:=#[32,32] }) (e:Nat) (f b:V) (A c:L) (r:a.eval m=f) (s:a.eval j=b) (k:iT e w f A) (n:jI w b c) (C:rD b c)
 (d:(A.length+c.length)*1<=140737488355328) (x:e<=w.heap.size)
 (z:∀d b,iT e b d (A++c)->w.grownBy b f.ownBlock->wpList prog l Q rest (a.put o.dst d) b):wpList prog l Q (o::rest) a w:=by
 have⟨t,p,D,E,F⟩:=info_parts agq;have G:∀g:Act->W->Prop,(∀d b,iT e b d (A++c)->w.grownBy b f.ownBlock->g (a.put o.dst d) b)->Oper.wp prog o a w g Q:=by
  intro g h;rcases C with rfl|⟨u,y,rfl⟩
  .obtain rfl:=aep n;have i:=run_append_owned_none (P:=prog) (w:=w) e 32 o.type 5 t 1 underlying32 p f _ _ k;unfold Oper.wp;simp[execOp,q,resolve,invoke,builtin,r,s,i,Result.andThen];exact h _ _ (by rw[F3];exact k) (aM _ _)
  have⟨_,H,v⟩:=wO n;refine wp_append_own w m j 32 q e 5 t (.int .u8 0) 1 1 underlying32 p D E F rfl (by decide) f A.length _ r k u c.length y (c.map (Value.int .u8)) s (by simp) (λk f e=>?_) (λf e=>?_) (by unfold maxLen;omega) gO x (λd b f i _=>h d b ?_ i)
  .have i:k<c.length:=by
    by_cases i:k<c.length
    .exact i
    rw[U8 (by simp;omega)]at e;cases e
   rw[v k i];simpa [aB,List.getD,i] using e
  .obtain⟨j,_,rfl⟩:=List.mem_map.1 e;rfl
  unfold iT;simpa using f
 refine wpList_step λg h=>?_;rw[Q9 B];exact G g λd b c f=>h _ _ (z d b c f)
def iT.lt (c:iT n w x l)(a:Nat)(b:x.ownBlock=some a):n<=a/\a<w.heap.size:=by
 rcases c.2 with⟨rfl,_⟩|⟨h,f,g,rfl,d,e,_⟩
 .cases b
 simp[Value.ownBlock]at b;subst b;exact⟨d,aO e⟩
def iT.xJ (b:iT n w x l):rD x l:=by
 rcases b.2 with⟨rfl,_⟩|⟨d,a,c,rfl,_⟩
 .exact .inl rfl
 exact .inr ⟨_,a,rfl⟩
def agr (a:W)(b:Int):jI (a.alloc (.cells #[.int .u8 b] 5)) (.slice (S a.heap.size) 1 1) [b]:=by
 refine⟨some (A a.heap.size 0),1,rfl,Q6 _,λ_=>⟨_,rfl,λc b=>?_⟩⟩;rw[Addr.add_mid,WT,aI (dF a _)]
 match c,b with
 | 0,_=>rfl
def iT.form (c:iT n w x l)(j:0<l.length):∃a b,x=.slice (S a) l.length b/\n<=a/\a<w.heap.size/\l.length<=b:=by
 rcases c.2 with⟨_,i⟩|⟨a,b,h,g,d,e,f,_⟩
 .omega
 exact⟨a,b,g,d,aO e,f⟩
def iT.cell (c:iT n w (.slice (S b) j k) l)(e:j=l.length)(a:Nat)(d:a<l.length):w.cell? (A b a)=some (.int .u8 (aB l a)):=by subst e;have:=World.ownsRow.cellAt c a gO;rw[this];simp[aB,List.getD,d]
def iT.free (c:iT n w (.slice (S b) j k) l)(d:j=l.length)(a:Nat):w.frozen? (A b a)=false:=by subst d;exact World.ownsRow.frozenAt c a
def iT.set (d:iT n w (.slice (S b) j k) l)(e:j=l.length)(a:Nat)(c:Int):iT n (w.setCell (A b a) (.int .u8 c)) (.slice (S b) j k) (l.set a c)/\w.grownBy (w.setCell (A b a) (.int .u8 c)) (some b):=by subst e;have:=World.ownsRow.stored d a (.int .u8 c);refine⟨?_,this.2⟩;unfold iT;rw[XB,List.map_set];exact this.1
def iT.bH (a:iT n w x l)(f:w.grownBy w' (some b))(g:b<n):iT n w' x l:=by
 refine a.kept f ?_;rcases e:x.ownBlock with _|c
 .exact .inl rfl
 right;intro d;have:=(a.lt c e).1;cases d;omega
def iT.Ka {a:Nat}(c:iT n w (.slice (S b) k j) l)(gr:w.grownBy w' (some a))(d:b≠a):iT n w' (.slice (S b) k j) l:=
 c.kept gr (.inr (by simpa [Value.ownBlock] using d))
def iQ (d:W)(b:Nat)(a:TypeId)(c:L):Prop:=aW d b a (aQ c)
def iQ.v (a:iQ w n T l):aW w n T (aQ l):=a
def iQ.cell (b:iQ w n T l)(a:Nat)(c:a<l.length):w.cell? (A n a)=some (I (aB l a)):=by have:=rH l [] a c;unfold mI at this;rw[F3]at this;exact(aW.cell b a).trans this
def iQ.free (b:iQ w n T l)(a:Nat):w.frozen? (A n a)=false:=aW.free b a
def iQ.lt (a:iQ w n T l):n<w.heap.size:=aW.lt a
def iQ.aC (b:iQ w n T l)(a:w.grownBy w' none):iQ w' n T l:=aW.aC b a
def iQ.aH (c:iQ w n T l)(a:w.grownBy w' (some b))(d:n≠b):iQ w' n T l:=aW.aH c a d
def iQ.new (c:W)(a:TypeId)(b:L):iQ (c.alloc (.cells (aF b) a)) c.heap.size a b:=aW.new c a (aQ b)
def iQ.set (d:iQ w n T l)(a:Nat)(b:Int)(e:a<l.length):iQ (w.setCell (A n a) (I b)) n T (l.set a b):=by have:=aW.set d a (I b);have c:=Wl l [] a b e;unfold mI at c;rw[F3,F3]at c;rw[c]at this;exact this
def iQ.put (e:iQ w n T l)(b:Nat)(a:L)(d:b+a.length<=l.length):iQ (dz w n b (aQ a)) n T (jd l b a)/\w.grownBy (dz w n b (aQ a)) (some n):=by have:=qM e b (aQ a) (by rw[aN,aN];exact d);have c:=rJ l [] b a d;unfold mI at c;rw[F3,F3]at c;rw[c]at this;exact this
def iQ.part (b a:Nat)(c:b+a<=l.length):((aQ l).drop b).take a=aQ (bM l b a):=by have:=tH l [] b a c;unfold mI at this;rwa [F3]at this
def iQ.all (a:L)(b:Nat)(c:a.length=b):((aQ a).drop 0).take b=aQ a:=by rw[List.drop_zero,K3 (by rw[aN];omega)]
def iQ.dQ {m:L}(a:iQ w n T l)(b:m.length=l.length):iQ (dz w n 0 (aQ m)) n T m/\w.grownBy (dz w n 0 (aQ m)) (some n):=by have:=qM a 0 (aQ m) (by rw[aN,aN];omega);rw[pW _ _ (by rw[aN,aN];exact b)]at this;exact this
def iQ.blk (a:iQ w n T l):bY w n T l:=a
def iQ.ints (d:iQ w n T l)(b a c:Nat)(f:b+a<=l.length)(e:a<=c):aY w (.slice (some (A n b)) a c) (bM l b a):=by
 have g:aW w n T (mI l []):=by unfold mI;rw[F3];exact d
 exact g.ints b a c f e
def bV (a:L)(b:Bool):List V:=mI a [.bool b]
def gu (a:L)(b:Bool):V:=.agg (bV a b).toArray
def bK (a:l.length=225)(b:Bool):(bV l b).length=226:=by unfold bV;rw[wH,a];rfl
def gG (c:L)(d:Bool):∀b∈bV c d,b.oneCell'=true:=Wm _ _ (by intro b a;simp at a;subst a;rfl)
def ano:(prog.info? 55).bind (·.zero)=some (gu (au 225) false):=by kernel_rfl
def dN:(prog.info? 55).map (·.size)=some 226:=by kernel_rfl
def uo:(prog.info? 48).map (·.size)=some 4:=by kernel_rfl
def jJ (b:W):Sem.run prog (zeroValue 55) b=.ok (gu (au 225) false) b:=by
 have a:=ano;cases hq:prog.info? 55 with
 | none=>simp[hq]at a
 | some d=>
  have c:d.zero=some (gu (au 225) false):=by simpa [hq] using a
  simp[zeroValue,typeInfo,hq,c]
def h_ (d:W)(a:Nat)(b:L)(c:Bool):Prop:=aW d a 55 (bV b c)
def h_.aC (b:h_ w n l s)(a:w.grownBy w' none):h_ w' n l s:=aW.aC b a
def h_.aH (c:h_ w n l s)(a:w.grownBy w' (some b))(d:n≠b):h_ w' n l s:=aW.aH c a d
def h_.lt (a:h_ w n l s):n<w.heap.size:=aW.lt a
def h_.new (a:W)(b:L)(c:Bool):h_ (a.alloc (.cells (bV b c).toArray 55)) a.heap.size b c:=aW.new a _ _
def h_.dQ {m:L}{t:Bool}(c:h_ w n l s)(a:l.length=225)(b:m.length=225):h_ (dz w n 0 (bV m t)) n m t/\w.grownBy (dz w n 0 (bV m t)) (some n):=by have:=qM c 0 (bV m t) (by rw[bK b,bK a];omega);rw[pW _ _ (by rw[bK b,bK a])]at this;exact this
def h_.all (a:Bool)(b:l.length=225):((bV l a).drop 0).take 226=bV l a:=by rw[List.drop_zero,K3 (by rw[bK b];omega)]
def tK (d:Bool)(b a:Nat)(c:b+a<=l.length):((bV l d).drop b).take a=aQ (bM l b a):=tH _ _ _ _ c
def qc (a:Bool)(b:l.length=225):((bV l a).drop 124).take 102=aP (bM l 124 101) a:=by rw[<-aap l 124 101 gO];unfold bV aP mI;rw[List.drop_append_of_le_length (by rw[aN];omega),K3 (by simp[aQ];omega)];congr 1;rw[K3 (by simp;omega)];unfold aQ;rw[List.map_drop]
def h_.input (d:h_ w n l s)(b a c:Nat)(f:b+a<=l.length)(e:a<=c):aY w (.slice (some (A n b)) a c) (bM l b a):=aW.ints d b a c f e
def NI (a b c d:Int)(e:W):Sem.run prog (Instr.build 55 #[(0,.agg #[I a,I b,I c,I d])]) e=.ok (gu ([a,b,c,d]++au 221) false) e:=by kernel_rfl
def Fw {i:Array Oper}{rest:List Oper}{c:Oper}{b:Act}{j:W}{h:Exit->Act->W->Prop}(l:c.guard=none)(a:Operand)(m:c.op=.build 55 #[(0,a)])(d e f g:Int)(n:b.eval a=.agg #[I d,I e,I f,I g])
 (o:wpList prog i h rest (b.put c.dst (gu ([d,e,f,g]++au 221) false)) j):wpList prog i h (c::rest) b j:=by
 refine wpList_plain l λ_ c=>?_;unfold Oper.wp execOp;have k:(#[(0,a)]:Array (Nat×Operand)).map (λ(h,a)=>(h,b.eval a))=#[(0,.agg #[I d,I e,I f,I g])]:=by simp[n]
 simp only[m,k,Sem.run_bind,NI,Result.andThen_ok,Sem.run_pure];exact c _ _ o
def Bh (b:W)(a:Nat)(c:Array V):b.grownBy (b.setRow a c) (some a):=
 ⟨rfl,rfl,rfl,by simp,λe _ d=>setRow_other b a e c (λa=>d (by rw[a]))⟩
def xS {q:Array Oper}{rest:List Oper}(v:o.guard=none)(i m:Operand)
 (x:o.op=Op.call { callee:=Callee.builtin Builtin.copy,args:=#[i,m],argTypes:=#[26,26] }) (f e j d n r:Nat) (g:TypeId) (b:List V) (L:List Int) (h:Addr) (p:aW w f g b) (t:a.eval i=.slice (some (A f e)) j n) (y:a.eval m=.slice (some h) d r)
 (k:L.length=d) (u:d<=j) (z:∀c,c<d->w.cell? (h.add c)=some (I (aB L c))) (C:e+d<=b.length)
 (s:∀l,aW l f g (lu b e (aQ L))->w.grownBy l (some f)->wpList prog q Q rest (a.put o.dst (goInt d)) l):wpList prog q Q (o::rest) a w:=by
 have B:(prog.info? 3).map (·.size)=some 1:=by kernel_rfl
 refine wpList_copy_own v i m _ _ x 3 underlying26 B f e j n h d r t y b.toArray g p (L.map (Value.int .i64)) (by rw[GK,k];exact(Nat.min_eq_left u).symm) (λc f d=>?_) (by simp[k];omega) (λf d=>?_) ?_
 .have l:c<L.length:=by
   by_cases l:c<L.length
   .exact l
   rw[U8 (by simp;omega)]at d;cases d
  rw[z c gO];simpa [aB,List.getD,l] using d
 .obtain⟨c,_,rfl⟩:=List.mem_map.1 d;rfl
 have c:(b.toArray.toList.take e++(L.map (Value.int .i64)++b.toArray.toList.drop (e+(L.map (Value.int .i64)).length))).toArray=(lu b e (aQ L)).toArray:=by simp[lu,aQ]
 rw[c,GK,k];exact s _ (setRow_heap _ _ _ _ _ _ p) (Bh _ _ _)
def Ke (A a b V:List Value)(c:Nat)(d:A.length=c)(e:a.length=V.length):lu (A++(a++b)) c V=A++(V++b):=by subst d;unfold lu;rw[List.take_left,WJ];congr 2;rw[<-WJ,List.drop_left' (by rw[ZB,e])]
def aer (hp I a:L)(d:Bool)(b:hp.length=4)(c:I.length=120)(g:a.length=101):lu (lu (bV (hp++au 221) false) 4 (aQ I)) 124 (aP a d)=bV (hp++(I++a)) d:=by
 have e:(au 221).length=221:=ak 221;have f:bV (hp++au 221) false=aQ hp++(aQ ((au 221).take 120)++(aQ ((au 221).drop 120)++[.bool false])):=by
  unfold bV mI aQ;rw[<-WJ (List.map _ _) (List.map _ _) [Value.bool false],<-List.map_append,BI,List.map_append,WJ]
 rw[f,Ke _ _ _ _ 4 (by rw[aN,b]) (by rw[aN,aN,BJ,e,c];rfl)];rw[show aQ hp++(aQ I++(aQ ((au 221).drop 120)++[.bool false]))=(aQ hp++aQ I)++((aQ ((au 221).drop 120)++[.bool false])++[]) by simp];rw[Ke _ _ _ _ 124 (by rw[ZB,aN,aN,b,c]) (by unfold aP;rw[wH,g,ZB,aN,DN,e];rfl)];unfold bV aP mI aQ;simp
def rO (a:W)(f:List Int)(h:Bool)(e L:List Int)(g:Int)(i:Ending)(b:W):Prop:=∃c d,i=.returned (.tuple #[gu f h,c,d,I g])/\iT a.heap.size b c e/\fO a.heap.size b d L/\a.grownBy b none
def qR (A a b:L):L:=jd a 8 (GH A (bM a 8 8) b)
def qU (A a b:L):L:=zn A (bM a 8 8) b
def wP (A a b:L):(qR A a b).length=a.length:=dV _ _ _
def ags (A b c:L)(a:Nat)(d:a<b.length):aB (qR A b c) a=if 8<=a/\a<16 then aB (GH A (bM b 8 8) c) (a-8)else aB b a:=by unfold qR;rw[gT _ _ _ _ d,sS]
structure j6 (A:L):Prop where
 len:A.length=9
 wide:pY A=true
 one:aB A 0=4096
def Kg (a:L)(e:a.length=8)(c:cZ a=true):j6 (pG a):=by
 have b:pG a=f_ 9 (Fa (aB a)):=Q9 c;refine⟨pV a,?_,?_⟩
 .rw[jZ,pV];intro f d;rw[b,dP _ _ _ d];have:=ai4 a e c f;omega
 rw[b,dP _ _ _ gO,aed]
def ajd (a b:Int)(d:-1048576<=a)(e:a<=1048576)(c:0<=b)(h:b<=32768):-34359738368<=a*b/\a*b<=34359738368:=by have f:=WA e c;have g:=WA d c;omega
def agt {A:L}(d:j6 A)(a:Int)(h:0<=a)(i:a<=32768):j6 (wF A a):=by
 have j:=(jZ A).1 d.wide;have k:OH A a=true:=by
  unfold OH;have:Bf A=true:=(zX A).2 λc b=>by have:=j c b;omega
  simp[h,i,this]
 have f:wF A a=f_ 9 (JM A a):=Q9 k;refine⟨CJ A a,?_,?_⟩
 .rw[jZ,CJ];intro c b;rw[f,dP _ _ _ b];have e:=j c (by rw[d.len];exact b);have g:=Sy a h i c;have l:=ajd _ _ e.1 e.2 g.1 g.2;unfold JM;omega
 rw[f,dP _ _ _ gO];unfold JM;rw[d.one];show(4096*32768+16384) / 32768=(4096:Int);decide
def Tk {A:L}(a:j6 A)(b:bJ l=true)(c:aL p=true):okF A (bM l 8 8) p=true:=by unfold okF;have d:=((oU l).1 b).2.1;simp[a.wide,a.one,d,c]
def agu {A:L}(a:j6 A)(b:bJ l=true)(c:aL p=true):qU A l p=oF A (bM l 8 8) p p.length:=Q9 (Tk a b c)
def WE {A:L}(a:j6 A)(b:bJ l=true)(c:aL p=true):(qU A l p).length=p.length:=Tc _ _ _ (Tk a b c)
def Kh {A m x:L}(a:j6 A)(b:bJ m=true)(c:aL x=true):aL (qU A m x)=true:=by rw[agu a b c];exact nC _ _ _ _
def Fx {A:L}(i:l.length=101)(e:j6 A)(c:bJ l=true)(g:aL p=true):bJ (qR A l p)=true:=by
 rw[g_];intro a f;rw[ags _ _ _ _ gO];by_cases b:8<=a/\a<16
 .rw[Q9 b,(mF a b.1 gO).1,(mF a b.1 gO).2];have d:GH A (bM l 8 8) p=qH (bM l 8 8) (oF A (bM l 8 8) p p.length):=Q9 (Tk e c g);rw[d];have h:=JZ (bM l 8 8) (oF A (bM l 8 8) p p.length) ((oU l).1 c).2.1 (nC _ _ _ _);exact(bD _).1 h (a-8) (by rw[pX];omega)
 rw[X9 b];exact(g_ l).1 c a f
def jM (b:bJ l=true):cZ (bM l 0 8)=true:=by rw[iO,aT];intro c a;rw[fV _ _ _ _ a];have:=(Aa l).1 ((oU l).1 b).1 c a;rw[WT];omega
def Fy (b:L)(a:Int):aL (nN b a)=true:=by
 unfold nN;split
 .exact wL _ _ _
 rfl
def aes (a:L):aL (Cz a)=true:=by
 unfold Cz;split
 .exact wM _ _ _
 rfl
def jN (a:L):L:=wF (pG (bM a 0 8)) 32440
def rP (a:bJ l=true):j6 (jN l):=agt (Kg _ (aT _ _ _) (jM a)) 32440 (by decide) (by decide)
def j_ (A b:L):Nat->L
 | 0=>b
 | a+1=>qR A (nD (j_ A b a) a) (nN (j_ A b a) a)
def Eu (A b:L):Nat->L
 | 0=>[]
 | a+1=>Eu A b a++qU A (nD (j_ A b a) a) (nN (j_ A b a) a)
def Dk (a:L)(c:a.length=101)(b:Int):(nD a b).length=101:=by
 unfold nD;split
 .rw[Wv,c]
 exact ak _
def qd (A b:L)(c:b.length=101):∀a,(j_ A b a).length=101
 | 0=>c
 | a+1=>by
  show(qR A (nD (j_ A b a) a) _).length=101;rw[wP,Dk _ (qd A b c a)]
def uq (A b:L)(e:b.length=101)(c:j6 A)(d:bJ b=true):∀a,a<=2->bJ (j_ A b a)=true
 | 0,_=>d
 | a+1,h=>by
  have g:=uq A b e c d a gO;have f:=qd A b e a;exact Fx (Dk _ f _) c (Ww _ f a ⟨g,gO,gO⟩) (Fy _ _)
def Ae (A b:L)(d:b.length=101)(c:j6 A)(f:bJ b=true):∀a,a<=2->(Eu A b a).length=40*a/\aL (Eu A b a)=true
 | 0,_=>⟨rfl,rfl⟩
 | a+1,n=>by
  have⟨h,i⟩:=Ae A b d c f a gO;have k:=uq A b d c f a gO;have l:=qd A b d a;have g:Et (j_ A b a) (a:Int):=⟨k,gO,gO⟩;have e:=Ww _ l a g;have m:(nN (j_ A b a) a).length=40:=by rw[(iJ (s:=true) g).2.2.1,jk]
  constructor
  .show(Eu A b a++qU A _ _).length=_;rw[ZB,h,WE c e (Fy _ _),m];omega
  show aL (Eu A b a++qU A _ _)=true;have j:=Kh (A:=A) (m:=nD (j_ A b a) a) (x:=nN (j_ A b a) a) c e (Fy _ _);unfold aL at *
  rw[List.all_append,i,j];rfl
def qV (a:L):L:=if bJ a=true then j_ (jN a) a 2 else au 101
def sG (a:L)(b:Bool):Bool:=if bJ a=true then b else false
def qI (a:L):L:=if bJ a=true then Eu (jN a) a 2 else[]
def qg (a:L):Int:=if bJ a=true then 0 else 2
def oh (a:bJ l=true):qV l=j_ (jN l) l 2/\sG l s=s/\qI l=Eu (jN l) l 2/\qg l=0:=⟨Q9 a,Q9 a,Q9 a,Q9 a⟩
def aeu (b:l.length=101)(a:bJ l=true):bJ (qV l)=true:=by rw[(oh (s:=true) a).1];exact uq _ _ b (rP a) a 2 gO
def aaz (b:l.length=101)(a:bJ l=true):(qI l).length=80/\aL (qI l)=true:=by rw[(oh (s:=true) a).2.2.1];exact Ae _ _ b (rP a) a 2 gO
def wids:L:=[6,6,5,5,4,4,3,3]
def wid (a:Nat):Nat:=if a<2 then 6 else if a<4 then 5 else if a<6 then 4 else 3
def many (a:Nat):Nat:=2^a
def Ki (a:Nat):wid a=6\/wid a=5\/wid a=4\/wid a=3:=by unfold wid;split<;>(try split)<;>(try split)<;>simp
def aje (a:Nat)(b:a<8):wids.getD a 0=(wid a:Int):=by
 have:∀a:Fin 8,wids.getD a.val 0=(wid a.val:Int):=by decide
 exact this ⟨a,b⟩
def Pn (a b:Int):Int:=31000-31000*(2*(a-b)-1)*(2*(a-b)-1) / (a*a)
def lvl (a:Nat)(b:Int):Int:=if 2*b<(many a:Int)then -Pn (many a) ((many a:Int)-1-b)else Pn (many a) b
def okB (a:Nat):Prop:=a=6\/a=5\/a=4\/a=3
def qj (a:Nat)(b:okB a):8<=many a/\many a<=64:=by rcases b with rfl|rfl|rfl|rfl<;>decide
def tL (a:Nat)(b:okB a):∃c:Nat,many a=2*c:=⟨many a / 2,by rcases b with rfl|rfl|rfl|rfl<;>decide⟩
def aaA (a b:Int)(n:1<=b)(c:b<=a)(d:8<=a)(e:a<=64):0<=31000*b*b / (a*a)/\31000*b*b / (a*a)<=31000/\0<=31000*b*b/\31000*b*b<=126976000/\0<a*a/\a*a<=4096:=by
 have j:b*b<=a*a:=Int.mul_le_mul c c gO gO;have k:0<=b*b:=ZA gO gO;have l:a*a<=64*64:=Int.mul_le_mul e e gO gO;have m:8*8<=a*a:=Int.mul_le_mul d d gO gO;rw[FP];generalize b*b=f at *
 generalize a*a=g at *
 have h:0<=31000*f / g:=F7 gO gO;have i:31000*f / g<=31000:=Int.ediv_le_of_le_mul gO gO;omega
def Kj (a:Nat)(b:Int)(c:okB a)(d:(many a:Int)<=2*b)(e:b<many a):0<=Pn (many a) b/\Pn (many a) b<=31000:=by have⟨g,h⟩:=qj a c;have⟨i,f⟩:=tL a c;have:=aaA (many a) (2*((many a:Int)-b)-1) gO gO gO gO;unfold Pn;omega
def Tn (a:Nat)(b:Int)(c:okB a)(d:0<=b)(e:b<many a):-31000<=lvl a b/\lvl a b<=31000:=by
 have⟨g,f⟩:=tL a c;unfold lvl;split
 .have:=Kj a ((many a:Int)-1-b) c gO gO;omega
 have:=Kj a b c gO gO;omega
def ac9 (a:Nat)(b:Int)(c:2*b<many a):lvl a b=-Pn (many a) ((many a:Int)-1-b):=Q9 c
def WG (a:Nat)(b:Int)(c:¬2*b<many a):lvl a b=Pn (many a) b:=X9 c
def far (a b:Int):Int:=if a<b then b-a else a-b
def gap (a:Nat)(b:Int)(c:Nat):Int:=far (lvl a c) b
def pI (a:Nat)(b:Int):Nat->Nat
 | 0=>0
 | c+1=>if gap a b c<gap a b (pI a b c)then c else pI a b c
def agv (a:Nat)(b:Int)(c:Nat)(d:gap a b c<gap a b (pI a b c)):pI a b (c+1)=c:=Q9 d
def ajf (a:Nat)(b:Int)(c:Nat)(d:¬gap a b c<gap a b (pI a b c)):pI a b (c+1)=pI a b c:=X9 d
def WH (a:Nat)(b:Int):pI a b 1=0:=by show(if gap a b 0<gap a b 0 then 0 else 0)=0;split<;>rfl
def ac_ (b:Nat)(c:Int):∀a,pI b c (a+1)<=a
 | 0=>by rw[WH];omega
 | a+1=>by
  have:=ac_ b c a;show(if gap b c (a+1)<gap b c (pI b c (a+1))then a+1 else pI b c (a+1))<=a+1;split<;>omega
def Tp (c:Nat)(d:Int)(a b:Nat)(f:a<=b)(e:0<b):pI c d a<b:=by
 match a with
 | 0=>exact e
 | a+1=>have:=ac_ c d a;omega
def one (a:Nat)(b:Int):Nat:=pI a b (many a)
def alK (a:Nat)(b:Int)(c:okB a):one a b<many a:=Tp a b _ _ (Q6 _) (by have:=qj a c;omega)
def xU (c:Nat->Int)(b:Int)(d:∀a,-b<=c a/\c a<=b):∀a:Nat,-(b*(a:Int))<=fE c a/\fE c a<=b*(a:Int)
 | 0=>by show -(b*((0:Nat):Int))<=0/\(0:Int)<=b*((0:Nat):Int);simp
 | a+1=>by
  have f:=xU c b d a;have g:=d a;have e:b*((a+1:Nat):Int)=b*(a:Int)+b:=by rw[show((a+1:Nat):Int)=(a:Int)+1 from rfl,Int.mul_add,Int.mul_one]
  show -(b*((a+1:Nat):Int))<=fE c a+c a/\fE c a+c a<=b*((a+1:Nat):Int);rw[e];omega
def Af (b:Nat->Int):∀a,(∀c,c<a->b c=0)->fE b a=0
 | 0,_=>rfl
 | a+1,d=>by show fE b a+b a=0;rw[Af b a (λc b=>d c gO),d a gO];rfl
def Kk (b:Int)(c:Nat->Int):∀a,fE (λd=>b*c d) a=b*fE c a
 | 0=>by show(0:Int)=b*0;simp
 | a+1=>by show fE (λd=>b*c d) a+b*c a=b*(fE c a+c a);rw[Kk b c a,Int.mul_add]
def Qy (b:Int)(c:Nat->Int):∀a,fE c a*b=fE (λd=>c d*b) a
 | 0=>by show 0*b=(0:Int);simp
 | a+1=>by show(fE c a+c a)*b=fE (λd=>c d*b) a+c a*b;rw[<-Qy b c a,GL]
def Qz (b c:Nat->Int):∀a,fE (λd=>b d+c d) a=fE b a+fE c a
 | 0=>rfl
 | a+1=>by show fE (λd=>b d+c d) a+(b a+c a)=fE b a+b a+(fE c a+c a);rw[Qz b c a];omega
def Fz (d:Nat->Nat->Int)(e:Nat):∀c,fE (λb=>fE (λa=>d b a) e) c=fE (λa=>fE (λb=>d b a) c) e
 | 0=>(Af _ e (λb _=>rfl)).symm
 | c+1=>by
  show fE (λb=>fE (λa=>d b a) e) c+fE (λa=>d c a) e=fE (λa=>fE (λb=>d b a) c+d c a) e;rw[Fz d e c,Qz]
def Kl (a:Nat->Int)(b:Nat)(e:∀d,d<b->a d=0):∀c,fE a (b+c)=fE (λd=>a (b+d)) c
 | 0=>Af a b e
 | c+1=>by show fE a (b+c)+a (b+c)=fE (λd=>a (b+d)) c+a (b+c);rw[Kl a b e c]
def aev (a b:Nat->Int)(d c:Nat):fE a d*fE b c=fE (λe=>fE (λf=>a e*b f) c) d:=by rw[Qy];exact j4 _ _ d (λd _=>(Kk (a d) b c).symm)
def fM (c:L)(b a:Nat):Int:=if b<=a then fA (aB c (a-b))else 0
def late (b:L)(a:Nat):L:=f_ 40 (fM b a)
def uw (c:L)(b a:Nat):-32768<=fM c b a/\fM c b a<=32767:=by
 unfold fM;split
 .exact mq _
 omega
def aaB (c:L)(b:Nat):aL (late c b)=true:=by
 rw[bD];intro d a;unfold late at *
 rw[cK]at a;rw[dP _ _ _ a];exact uw c b d
def Tq (b:L)(c d:Nat):Int:=fE (λa=>fM b c a*fM b d a) 40
def agw (a:L)(b c:Nat)(f:b<=39)(g:c<=39)(e:b=39\/c=39):Tq a b c=fA (aB a (39-b))*fA (aB a (39-c)):=by
 show fE (λd=>fM a b d*fM a c d) 39+fM a b 39*fM a c 39=_;rw[Af _ 39 (λd h=>by
  rcases e with e|e
  .rw[show fM a b d=0 from nO];simp
  rw[show fM a c d=0 from nO];simp)]
 rw[show fM a b 39=fA (aB a (39-b))from Q9 f,show fM a c 39=fA (aB a (39-c))from Q9 g];omega
def agx (a:L)(c d:Nat)(b:c<39)(e:d<39):Tq a c d=fA (aB a (39-c))*fA (aB a (39-d))+Tq a (c+1) (d+1):=by
 have h:Tq a (c+1) (d+1)=fE (λb=>fM a c b*fM a d b) 39:=by
  show fE (λb=>fM a (c+1) b*fM a (d+1) b) (39+1)=_;rw[Bw,show fM a (c+1) 0=0 from nO];rw[j4 (λb=>fM a (c+1) (b+1)*fM a (d+1) (b+1)) (λb=>fM a c b*fM a d b) 39 (λb _=>by
   have f:∀e,fM a (e+1) (b+1)=fM a e b:=λe=>by
    unfold fM;by_cases g:e<=b
    .rw[Q9 g,pO,show b+1-(e+1)=b-e by omega]
    rw[X9 g,nO]
   rw[f c,f d])]
  simp
 rw[h];show fE (λb=>fM a c b*fM a d b) 39+fM a c 39*fM a d 39=_;rw[show fM a c 39=fA (aB a (39-c))from pO,show fM a d 39=fA (aB a (39-d))from pO];omega
def agy (a:L)(c d:Nat):-42949672960<=Tq a c d/\Tq a c d<=42949672960:=by have:=Db (λb=>fM a c b*fM a d b) (λb=>sF _ _ (uw a c b).1 (uw a c b).2 (uw a d b).1 (uw a d b).2) 40;unfold Tq;omega
def tbN (b:L)(a:Nat):Int:=Tq b (a / 40) (a % 40)
def tbl (a:L):L:=f_ 1600 (tbN a)
def ajg (a:L):(tbl a).length=1600:=cK _ _
def alL (c:L)(a b:Nat)(d:a<40)(e:b<40):aB (tbl c) (a*40+b)=Tq c a b:=by unfold tbl;rw[dP _ _ _ gO];unfold tbN;rw[show(a*40+b) / 40=a by omega,show(a*40+b) % 40=b by omega]
def Y_ (f:L)(c e:Nat)(d:L):Prop:=d.length=1600/\∀a b,a<40->b<40->(c<a\/(c=a/\e<=b))->aB d (a*40+b)=Tq f a b
def aew (a:L):Y_ a 40 0 (au 1600):=⟨ak _,λa a a a a=>gO⟩
def agz (a:Y_ l (n+1) 0 p):Y_ l n 40 p:=⟨a.1,λd e b c f=>a.2 d e b c gO⟩
def ade (d:n<40)(f:b<40)(a:Y_ l n (b+1) p)(c:Int)(h:c=Tq l n b):Y_ l n b (p.set (n*40+b) c):=by
 refine⟨by simpa using a.1,λc d f g e=>?_⟩;by_cases e:n=c/\b=d
 .obtain⟨rfl,rfl⟩:=e;rw[oD _ _ _ (by rw[a.1];omega),h]
 rw[lF _ _ _ _ gO];exact a.2 c d f g gO
def aex (d:n<40)(e:b<40)(a:Y_ l n (b+1) p)(c:Int):Y_ l n (b+1) (p.set (n*40+b) c):=
 ⟨by simpa using a.1,λf g d e c=>by rw[lF _ _ _ _ gO];exact a.2 f g d e c⟩
def ajh (b:Y_ l 0 0 p):p=tbl l:=by refine dL b.1 λa c=>?_;have:=b.2 (a / 40) (a % 40) gO gO gO;rw[show a / 40*40+a % 40=a by omega]at this;exact this
def QC (d c:L)(b:Nat):Int:=fE (λa=>aB d a*fM c b a) 40
def tgL (b a:L):L:=f_ 40 (QC b a)
def aji (c b:L)(a:Nat):fU c (late b a) 40=QC c b a:=
 j4 _ _ 40 (λa a=>by unfold late;rw[dP _ _ _ a])
def agA (d c:L)(g:aL c=true)(a:Nat)(b:a<=40):fU (d.drop a) c (40-a)=QC d c a:=by have f:=Kl (λb=>aB d b*fM c a b) a (λb d=>by rw[show fM c a b=0 from nO];simp) (40-a);rw[show a+(40-a)=40 by omega]at f;unfold QC;rw[f];refine j4 _ _ _ λb _=>?_;have e:=kJ _ _ _ gO gO ((bD c).1 g) b;rw[Da,show fM c a (a+b)=aB c b by unfold fM;rw[pO,show a+b-a=b by omega,JJ _ e.1 e.2]]
def NJ (b a:L):L:=if b.length=40/\a.length=40/\(aL b&&aL a)=true then tgL b a else[]
def QD (b a:L):Int:=if b.length=40/\a.length=40 then(if(aL b&&aL a)=true then 0 else 2)else 1
def sg (a:Int):Int:=if a<0 then -1 else 1
def rQ (a:Int):(a<0/\sg a=-1)\/(0<=a/\sg a=1):=by
 unfold sg;by_cases b:a<0
 .exact .inl ⟨b,Q9 b⟩
 exact .inr ⟨gO,X9 b⟩
def jO (b:L)(a:Nat):Nat:=a+4*(aB b a).toNat
def gY (a:L):Bool:=a.all λa=>decide (0<=a)&&decide (a<=9)
def jf (c:L):gY c=true↔∀a,a<c.length->0<=aB c a/\aB c a<=9:=by
 unfold gY;rw[List.all_eq_true];constructor
 .intro d a b;have:=d c[a] (List.getElem_mem b);simp only[VL,decide_eq_true_eq]at this;simpa [aB,List.getD,b] using this
 intro d f e;obtain⟨a,b,rfl⟩:=List.getElem_of_mem e;have:=d a b;simp only[aB,List.getD,KM b,Option.getD_some]at this;simp[this]
def FE (b:gY l=true)(c:l.length=4)(a:Nat)(d:a<4):jO l a<40:=by have:=(jf l).1 b a gO;unfold jO;omega
def Km (a c:L):Nat->Int
 | 0=>0
 | b+1=>wrap64 (Km a c b+wrap64 (sg (aB a (jO c b))*aB a (jO c b)))
def MJ (a c:L)(b:Nat):Int:=sg (aB a (jO c b))
def VJ (b e a:L)(c d:Nat):Int:=MJ b a c*MJ b a d*Tq e (jO a c) (jO a d)
def Kn (b c e:L)(d g:Nat):Int:=fE (λf=>fE (λa=>VJ b c e f a) 4) d+fE (λa=>VJ b c e d a) g
def agB (a b e:L)(c d:Nat):Kn a b e c (d+1)=Kn a b e c d+VJ a b e c d:=by unfold Kn;show _+(fE (λf=>VJ a b e c f) d+VJ a b e c d)=_;omega
def agC (a b d:L)(c:Nat):Kn a b d c 4=Kn a b d (c+1) 0:=by unfold Kn;show _=fE (λf=>fE (λe=>VJ a b d f e) 4) c+fE (λe=>VJ a b d c e) 4+0;omega
def aaC (b e a:L)(c d:Nat):-42949672960<=VJ b e a c d/\VJ b e a c d<=42949672960:=by have:=agy e (jO a c) (jO a d);unfold VJ MJ;rcases rQ (aB b (jO a c))with⟨_,g⟩|⟨_,g⟩<;>rcases rQ (aB b (jO a d))with⟨_,f⟩|⟨_,f⟩<;>rw[g,f]<;>omega
def aaD (b c d:L)(e g:Nat)(h:e<=4)(i:g<=4):-1000000000000<=Kn b c d e g/\Kn b c d e g<=1000000000000:=by
 have a:=xU (λf=>fE (λa=>VJ b c d f a) 4) 171798691840 (λf=>by
  have:=xU (λa=>VJ b c d f a) 42949672960 (λa=>aaC b c d f a) 4;omega) e
 have f:=xU (λa=>VJ b c d e a) 42949672960 (λa=>aaC b c d e a) g;unfold Kn;omega
def uQ (c e b:L)(f d:Nat):Int:=fE (λa=>MJ c b a*fM e (jO b a) d) f
def aaE (c e a:L)(f d:Nat)(g:f<=4):-131072<=uQ c e a f d/\uQ c e a f d<=131072:=by
 have:=xU (λb=>MJ c a b*fM e (jO a b) d) 32768 (λb=>by
  have:=uw e (jO a b) d;unfold MJ;rcases rQ (aB c (jO a b))with⟨_,b⟩|⟨_,b⟩<;>rw[b]<;>omega) f
 unfold uQ;omega
def aey (c d a:L):Kn c d a 4 0=fE (λb=>uQ c d a 4 b*uQ c d a 4 b) 40:=by have g:∀b,uQ c d a 4 b*uQ c d a 4 b=fE (λf=>fE (λe=>(MJ c a f*fM d (jO a f) b)*(MJ c a e*fM d (jO a e) b)) 4) 4:=λb=>aev _ _ 4 4;rw[j4 _ _ 40 (λb _=>g b),Fz (λb f=>fE (λe=>(MJ c a f*fM d (jO a f) b)*(MJ c a e*fM d (jO a e) b)) 4) 4 40];unfold Kn;show fE (λg=>fE (λh=>VJ c d a g h) 4) 4+0=_;rw[Int.add_zero];refine j4 _ _ 4 λf _=>?_;rw[Fz (λb e=>(MJ c a f*fM d (jO a f) b)*(MJ c a e*fM d (jO a e) b)) 4 40];refine j4 _ _ 4 λe _=>?_;unfold VJ Tq;rw[<-Kk];refine j4 _ _ 40 λb _=>?_;simp only[FP,Int.mul_left_comm]
def anp (a:L):Prop:=∀b,-1099511627776<=aB a b/\aB a b<=1099511627776
def cS (a b:L):Int:=Km a b 4
def eS (a b c:L):Int:=Kn a b c 4 0
def uy (c d:L->Int)(b:Nat->L):Nat->L×Int×Int
 | 0=>(au 4,0,0)
 | a+1=>if a=0\/Bz (c (b a)) (d (b a)) (uy c d b a).2.1 (uy c d b a).2.2=true then(b a,c (b a),d (b a))else uy c d b a
def Tt (c d:L->Int)(b:Nat->L)(a:Nat)(e:a=0\/Bz (c (b a)) (d (b a)) (uy c d b a).2.1 (uy c d b a).2.2=true):uy c d b (a+1)=(b a,c (b a),d (b a)):=Q9 e
def aaF (c d:L->Int)(b:Nat->L)(a:Nat)(e:¬(a=0\/Bz (c (b a)) (d (b a)) (uy c d b a).2.1 (uy c d b a).2.2=true)):uy c d b (a+1)=uy c d b a:=X9 e
def Ag (c d:L->Int)(b:Nat->L):∀a,0<a->∃e,e<a/\uy c d b a=(b e,c (b e),d (b e))
 | 0,f=>gO
 | a+1,_=>by
  by_cases f:a=0\/Bz (c (b a)) (d (b a)) (uy c d b a).2.1 (uy c d b a).2.2=true
  .exact⟨a,gO,Tt c d b a f⟩
  have⟨e,h,g⟩:=Ag c d b a gO;exact⟨e,gO,by rw[aaF c d b a f,g]⟩
def rR (a b:L->Int):Nat->L
 | 0=>au 4
 | c+1=>(uy a b (λd=>(rR a b c).set (c % 4) (d:Int)) 10).1
def FH (h:gY l=true)(e:Nat)(b:Int)(f:0<=b)(g:b<=9):gY (l.set e b)=true:=by
 rw[jf]at *
 intro d a;rw[XB]at a;by_cases c:e=d
 .subst c;rw[oD _ _ _ a];exact⟨f,g⟩
 rw[lF _ _ _ _ c];exact h d a
def tN (b c:L->Int):∀a,(rR b c a).length=4/\gY (rR b c a)=true
 | 0=>⟨rfl,rfl⟩
 | a+1=>by
  have e:=tN b c a;have⟨h,g,f⟩:=Ag b c (λd=>(rR b c a).set (a % 4) (d:Int)) 10 gO;show(uy b c (λd=>(rR b c a).set (a % 4) (d:Int)) 10).1.length=4/\gY (uy b c (λd=>(rR b c a).set (a % 4) (d:Int)) 10).1=true;rw[f];exact⟨by simpa using e.1,FH e.2 _ _ gO gO⟩
def dig (a:Nat):L:=[((a / 1000:Nat):Int),((a / 100 % 10:Nat):Int),((a / 10 % 10:Nat):Int),((a % 10:Nat):Int)]
def Tv (b c:L)(a:Nat):Int:=if aB b (jO c a)<0 then 0 else 2^a
def Ko (a c:L)(b:Nat):Int:=fE (Tv a c) b
def Kq (b c:L)(a:Nat):0<=Tv b c a/\Tv b c a<=2^a:=by have:(0:Int)<2^a:=Int.pow_pos gO;unfold Tv;split<;>omega
def alM (a b:L):0<=Ko a b 4/\Ko a b 4<=15:=by
 have d:=Kq a b 0;have e:=Kq a b 1;have f:=Kq a b 2;have g:=Kq a b 3;show 0<=0+Tv a b 0+Tv a b 1+Tv a b 2+Tv a b 3/\0+Tv a b 0+Tv a b 1+Tv a b 2+Tv a b 3<=15;have c:(2:Int)^0=1/\(2:Int)^1=2/\(2:Int)^2=4/\(2:Int)^3=8:=by decide
 omega
def AY (a:L):Bool:=a.all λa=>decide (-1099511627776<=a)&&decide (a<=1099511627776)
def wQ (c:L):AY c=true↔∀a,a<c.length->-1099511627776<=aB c a/\aB c a<=1099511627776:=by
 unfold AY;rw[List.all_eq_true];constructor
 .intro d a b;have:=d c[a] (List.getElem_mem b);simp only[VL,decide_eq_true_eq]at this;simpa [aB,List.getD,b] using this
 intro d f e;obtain⟨a,b,rfl⟩:=List.getElem_of_mem e;have:=d a b;simp only[aB,List.getD,KM b,Option.getD_some]at this;simp[this]
def ajj (a:AY l=true):anp l:=kJ _ _ _ gO gO ((wQ l).1 a)
def yU (a b:L):Int:=if a.length=40/\b.length=40 then(if AY a=true then 0 else 2)else 1
def Kr (b c:L)(a:L):L:=if yU b c=0 then a else au 4
def N8 (a c:L)(b:L):Int:=if yU a c=0 then Ko a b 4 else 0
def mJ (a b:L):L:=rR (cS a) (eS a b) 8
def Po (a b c:L):Int:=if a.length=40/\b.length=40 then(if gY c=true then 0 else 2)else 1
def vK (a c b:L):Int:=if Po a c b=0 then cS a b else 0
def yu (a b c:L):Int:=if Po a b c=0 then eS a b c else 0
def Tw (d:L)(c b:Int)(a:Nat):Int:=if aB d (a % 4)=((a / 4:Nat):Int)then(if c / 2^(a % 4) % 2=1 then b else -b)else 0
def Og (c:L)(a b:Int):Int:=if(0<=a/\a<=15)/\(0<=b/\b<=32767)/\gY c=true then 0 else 2
def Pp (b:L)(a c:Int):L:=if Og b a c=0 then f_ 40 (Tw b a c)else[]
def blV (c a:Int)(b:Nat):Int:=if c / 2^b % 2=1 then a else -a
def WL (e:L)(d f:Int)(c:Nat)(b:L):Prop:=b.length=40/\∀a,a<40->aB b a=if a % 4<c then Tw e d f a else 0
def WO (b:L)(a c:Int):WL b a c 0 (au 40):=⟨ak _,λa a=>by rw[jU,nO]⟩
def aaG {a:Int}(f:gY l=true)(h:l.length=4)(j:n<4)(c:WL l i a n p):WL l i a (n+1) (p.set (jO l n) (blV i a n)):=by
 have k:=(jf l).1 f n gO;have hp:=FE f h n j;refine⟨by simpa using c.1,λa f=>?_⟩;by_cases b:jO l n=a
 .subst b;rw[oD _ _ _ (by rw[c.1];exact hp)];have d:jO l n % 4=n:=by unfold jO;omega
  have e:((jO l n / 4:Nat):Int)=aB l n:=by unfold jO;omega
  rw[pO];unfold Tw blV;rw[d,e,Q9 rfl]
 rw[lF _ _ _ _ b,c.2 a f];by_cases d:a % 4<n
 .rw[Q9 d,pO]
 rw[X9 d];by_cases e:a % 4<n+1
 .have g:a % 4=n:=gO;rw[Q9 e];unfold Tw;rw[g,X9 (λa=>b (by unfold jO;omega))]
 rw[X9 e]
def aez {b:Int}(a:WL l i b 4 p):p=f_ 40 (Tw l i b):=
 dL a.1 (λc b=>by rw[a.2 c b,pO])
def aaH {x:L}{s z:Int}(b:¬((0<=s/\s<=15)/\(0<=z/\z<=32767)/\gY x=true)):Og x s z=2/\Pp x s z=[]:=by have a:Og x s z=2:=X9 b;exact⟨a,by unfold Pp;rw[X9 (by rw[a];decide)]⟩
def Jl {x:L}{s z:Int}(b:(0<=s/\s<=15)/\(0<=z/\z<=32767)/\gY x=true):Og x s z=0/\Pp x s z=f_ 40 (Tw x s z):=by have a:Og x s z=0:=Q9 b;exact⟨a,by unfold Pp;rw[Q9 a]⟩
def wdP:List Nat:=[2,6,6,5,5,4,4,3,3,6,3,4,4,4,4,4,5,6,3,4,4,4,4,4,5]
def lX (a:Nat):Nat:=wdP.getD a 0
def VO:L:=[2,63,63,31,31,15,15,7,7,59,7,9,9,9,9,15,31,59,7,9,9,9,9,15,31]
def wo (a:Nat):Int:=VO.getD a 0
def sW:Nat->Nat
 | 0=>0
 | a+1=>sW a+lX a
def agD:sW 25=106:=by decide
def Kt (a:Nat)(b:a<=25):sW a<=106:=by
 have:∀a:Fin 26,sW a.val<=106:=by decide
 exact this ⟨a,gO⟩
def Tx (a:Nat)(b:a<25):2<=lX a/\lX a<=6:=by
 have:∀a:Fin 25,2<=lX a.val/\lX a.val<=6:=by decide
 exact this ⟨a,b⟩
def FJ (a:Nat)(b:a<25):0<=wo a/\wo a<2^lX a/\wo a<=63:=by
 have:∀a:Fin 25,0<=wo a.val/\wo a.val<2^lX a.val/\wo a.val<=63:=by decide
 exact this ⟨a,b⟩
def jP (a:Nat):(0:Int)<2^a:=Int.pow_pos (by decide)
def jC (b:L):Bool:=(List.range 25).all λa=>decide (0<=aB b a)&&decide (aB b a<=wo a)
def lY (d:L):jC d=true↔∀a,a<25->0<=aB d a/\aB d a<=wo a:=by
 unfold jC;rw[List.all_eq_true];constructor
 .intro b a c;have:=b a (List.mem_range.2 c);simpa using this
 intro b a c;have:=b a (List.mem_range.1 c);simpa using this
def adf (b:L)(a:Nat)(c:a<25)(d:¬(0<=aB b a/\aB b a<=wo a)):jC b=false:=by
 rcases hb:jC b with _|_
 .rfl
 exact absurd ((lY b).1 hb a c) d
def nF (b:L):Nat->Int
 | 0=>0
 | a+1=>nF b a*2^lX a+aB b a
def agE (b:L)(c:jC b=true):∀a,a<=25->0<=nF b a/\nF b a<2^sW a
 | 0,_=>⟨DC _,by show(0:Int)<2^0;decide⟩
 | a+1,j=>by
  have⟨e,i⟩:=agE b c a gO;have⟨g,h⟩:=(lY b).1 c a gO;have⟨k,l,m⟩:=FJ a gO;have hp:=jP (lX a);have f:0<=nF b a*2^lX a:=ZA e (VR hp);have d:(nF b a+1)*2^lX a<=2^sW a*2^lX a:=WA gO (VR hp);rw[GL,<-Int.pow_add]at d;show 0<=nF b a*2^lX a+aB b a/\nF b a*2^lX a+aB b a<2^(sW a+lX a);omega
def rT (b:Int):Nat->Int
 | 0=>0
 | a+1=>rT b a+b / 2^a % 2
def Tz (b:Int):∀a:Nat,0<=rT b a/\rT b a<=a
 | 0=>⟨DC _,DC _⟩
 | a+1=>by
  have:=Tz b a;show 0<=rT b a+b / 2^a % 2/\rT b a+b / 2^a % 2<=((a+1:Nat):Int);generalize b / 2^a=c;omega
def pS (a:Int):Int:=if 0<a then rT a 63 else 0
def agF (a:Int):0<=pS a/\pS a<=63:=by
 unfold pS;split
 .exact Tz a 63
 omega
def nE (a:L):Int:=(pS (aB a 0)+pS (aB a 9)+pS (aB a 17)) % 2
def TA (a:L):0<=nE a/\nE a<2:=by unfold nE;omega
def oH (a:L):Int:=(nF a 25*2+nE a)*32
def ajk (a:L)(b:jC a=true):0<=oH a/\oH a<5192296858534827628530496329220096:=by have⟨d,c⟩:=agE a b 25 (Q6 _);have⟨e,f⟩:=TA a;rw[agD,show(2:Int)^106=81129638414606681695789005144064 by decide]at c;unfold oH;omega
def Q7 (b:Int)(a:Nat):Int:=b / 256^(13-a) % 256
def alN (b:Int)(a:Nat):0<=Q7 b a/\Q7 b a<256:=by unfold Q7;omega
def uU (a:L):Nat->Int
 | 0=>0
 | b+1=>uU a b+aB a b
def yP (a:L):Prop:=∀b,0<=aB a b/\aB a b<256
def TD (b:L)(c:yP b):∀a:Nat,0<=uU b a/\uU b a<=256*(a:Int)
 | 0=>⟨DC _,DC _⟩
 | a+1=>by
  have:=TD b c a;have:=c a;show 0<=uU b a+aB b a/\uU b a+aB b a<=256*((a+1:Nat):Int);omega
def oI (b c:L):∀a:Nat,(∀d,d<a->aB b d=aB c d)->uU b a=uU c a
 | 0,_=>rfl
 | a+1,e=>by
  show uU b a+aB b a=uU c a+aB c a;rw[oI b c a (λd b=>e d gO),e a gO]
def qJ (a:L)(b:Nat):Int:=(90+uU a b) % 256
def Dl (a:Int):L:=f_ 14 (Q7 a)
def sU (a:Int):(Dl a).length=14:=cK _ _
def Dm (b:Int)(a:Nat)(c:a<14):aB (Dl b) a=Q7 b a:=dP _ _ _ c
def alO (b:Int):yP (Dl b):=λa=>by
 by_cases c:a<14
 .rw[Dm b a c];exact alN b a
 rw[dI _ a (by rw[sU];omega)];omega
def GJ (a:L):L:=Dl (oH a)++[qJ (Dl (oH a)) 14]
def pkR (a:L):L:=if jC a=true then GJ a else[]
def ajl (a:L):Int:=if jC a=true then 0 else 2
def ajm (a:L):(GJ a).length=15:=by unfold GJ;rw[ZB,sU];rfl
def aaI (b:L)(a:Nat)(c:a<14):aB (GJ b) a=Q7 (oH b) a:=by
 have d:aB (GJ b) a=aB (Dl (oH b)) a:=by
  unfold GJ;simp[aB,List.getD,H6,sU,c]
 rw[d,Dm _ _ c]
def alP (a:L):aB (GJ a) 14=qJ (GJ a) 14:=by
 have b:aB (GJ a) 14=qJ (Dl (oH a)) 14:=by
  unfold GJ;simp[aB,List.getD,H6,sU]
 rw[b];unfold qJ;rw[oI (GJ a) (Dl (oH a)) 14 (λc b=>by rw[aaI a c b,Dm _ _ b])]
def xB (a:L):Nat->Int
 | 0=>0
 | b+1=>xB a b*256+aB a b
def WU (b c:L):∀a:Nat,(∀d,d<a->aB b d=aB c d)->xB b a=xB c a
 | 0,_=>rfl
 | a+1,e=>by
  show xB b a*256+aB b a=xB c a*256+aB c a;rw[WU b c a (λd b=>e d gO),e a gO]
def agG (b:L)(c:yP b):∀a:Nat,0<=xB b a/\xB b a<256^a
 | 0=>⟨DC _,by show(0:Int)<256^0;decide⟩
 | a+1=>by
  have d:=agG b c a;have e:=c a;show 0<=xB b a*256+aB b a/\xB b a*256+aB b a<256^(a+1);rw[Int.pow_succ];generalize (256:Int)^a=f at *
  omega
def agH (a:Nat):(0:Int)<256^a:=Int.pow_pos (by decide)
def agI (b:L)(d:yP b):∀c a:Nat,a+c=14->xB b 14 / 256^c=xB b a
 | 0,a,e=>by
  obtain rfl:a=14:=gO;rw[show(256:Int)^0=1 from rfl,Int.ediv_one]
 | c+1,a,e=>by
  have:=agI b d c (a+1) gO;have f:=d a;rw[Int.pow_succ,<-WR (VR (agH _)),this];show(xB b a*256+aB b a) / 256=xB b a;omega
def alQ (b:L)(c:yP b)(a:Nat)(e:a<14):Q7 (xB b 14) a=aB b a:=by unfold Q7;rw[agI b c (13-a) (a+1) gO];have d:=c a;show(xB b a*256+aB b a) % 256=aB b a;omega
def fI (b:Int)(a:Nat):Int:=b / 2^(112-sW (a+1)) % 2^lX a
def agJ (b:Int)(a:Nat)(c:a<25):0<=fI b a/\fI b a<2^lX a/\fI b a<=63:=by
 unfold fI;have hp:=jP (lX a);have d:=FT (b / 2^(112-sW (a+1))) (Int.ne_of_gt hp);have e:=H7 (b / 2^(112-sW (a+1))) hp;have f:(2:Int)^lX a<=64:=by
  have:∀a:Fin 25,(2:Int)^lX a.val<=64:=by decide
  exact this ⟨a,c⟩
 omega
def Bj (a:Int):L:=f_ 25 (fI a)
def tq (a:Int):(Bj a).length=25:=cK _ _
def TH (b:Int)(a:Nat)(c:a<25):aB (Bj b) a=fI b a:=dP _ _ _ c
def agK (a:Nat)(d:a<25):(2:Int)^(112-sW a)=2^(112-sW (a+1))*2^lX a:=by have b:=Kt (a+1) gO;have c:sW (a+1)=sW a+lX a:=rfl;rw[<-Int.pow_add,show 112-sW a=112-sW (a+1)+lX a by omega]
def pB (a:Int):Int:=a / 32 % 2
def xV (a:L):Int:=if a.length=15 then(if qJ a 14=aB a 14 then(if xB a 14 % 32=0 then(if jC (Bj (xB a 14))=true then(if nE (Bj (xB a 14))=pB (xB a 14)then 0 else 3)else 2)else 3)else 5)else 1
def oJ (a:L):L:=if xV a=0 then Bj (xB a 14)else f_ 25 (λ_=>0)
def Ku (a:L)(b:a.length≠15):xV a=1:=X9 b
def TI (a:L)(b:a.length=15)(c:qJ a 14≠aB a 14):xV a=5:=by unfold xV;rw[Q9 b,X9 c]
def Kv (a:L)(b:a.length=15)(c:qJ a 14=aB a 14)(d:xB a 14 % 32≠0):xV a=3:=by unfold xV;rw[Q9 b,Q9 c,X9 d]
def FK (a:L)(b:a.length=15)(c:qJ a 14=aB a 14)(d:xB a 14 % 32=0)(e:jC (Bj (xB a 14))=false):xV a=2:=by unfold xV;rw[Q9 b,Q9 c,Q9 d,X9 (by rw[e];decide)]
def TJ (a:L)(b:a.length=15)(c:qJ a 14=aB a 14)(d:xB a 14 % 32=0)(e:jC (Bj (xB a 14))=true)(f:nE (Bj (xB a 14))≠pB (xB a 14)):xV a=3:=by unfold xV;rw[Q9 b,Q9 c,Q9 d,Q9 e,X9 f]
def agL (a:L)(b:a.length=15)(c:qJ a 14=aB a 14)(d:xB a 14 % 32=0)(e:jC (Bj (xB a 14))=true)(f:nE (Bj (xB a 14))=pB (xB a 14)):xV a=0:=by unfold xV;rw[Q9 b,Q9 c,Q9 d,Q9 e,Q9 f]
def agM (a:L)(c:xV a=0):a.length=15/\qJ a 14=aB a 14/\xB a 14 % 32=0/\jC (Bj (xB a 14))=true/\nE (Bj (xB a 14))=pB (xB a 14):=by
 by_cases b:a.length=15
 .by_cases d:qJ a 14=aB a 14
  .by_cases e:xB a 14 % 32=0
   .rcases h3:jC (Bj (xB a 14))with _|_
    .rw[FK a b d e h3]at c;omega
    by_cases f:nE (Bj (xB a 14))=pB (xB a 14)
    .exact⟨b,d,e,rfl,f⟩
    rw[TJ a b d e h3 f]at c;omega
   rw[Kv a b d e]at c;omega
  rw[TI a b d]at c;omega
 rw[Ku a b]at c;omega
def Dn (d:L)(b:Nat)(e:Int)(f:b<d.length)(a:Nat):aB (d.set b e) a=if a=b then e else aB d a:=by
 unfold aB;by_cases c:a=b
 .subst c;simp[List.getD,f]
 simp[List.getD,c,WB,Ne.symm c]
def iF (c a:L)(b:Nat):L:=if b=0 then pG (pR c a 2)else pG a
def aaJ (a b:L)(i:a.length=8)(j:b.length=8)(d:cZ a=true)(e:cZ b=true):cZ (pR a b 2)=true:=by
 have h:V_ a b 2=true:=by unfold V_;rw[d,e];decide
 have f:pR a b 2=f_ 8 (Iq a b 2):=Q9 h;rw[iO,wG];intro c g;rw[f,dP _ _ _ g];have k:=(iO a).1 d c gO;have l:=(iO b).1 e c gO;have:=Wy (aB a c*(4-2)+aB b c*2) (-32767) 32767 gO gO;unfold Iq;omega
def ajn (b a:L)(d:a.length=8)(f:cZ b=true)(g:cZ a=true):pR b a 4=a:=by
 have e:V_ b a 4=true:=by unfold V_;rw[f,g];decide
 have c:pR b a 4=f_ 8 (Iq b a 4):=Q9 e;rw[c];refine(dL d (λc d=>?_)).symm;unfold Iq;have:=Wy (aB b c*(4-4)+aB a c*4) (aB a c) (aB a c) gO gO;omega
def tO (b a:L)(e:Nat)(f:b.length=8)(c:a.length=8)(g:cZ b=true)(d:cZ a=true):j6 (iF b a e):=by
 unfold iF;split
 .exact Kg _ (wG _ _ _) (aaJ _ _ f c g d)
 exact Kg _ c d
def agN (c b:L)(a:Nat)(g:a<2)(d:b.length=8)(f:cZ c=true)(e:cZ b=true):pG (pR c b (2+2*(a:Int)))=iF c b a:=by
 obtain rfl|rfl:a=0\/a=1:=gO
 .rfl
 unfold iF;rw[nO];rw[show(2:Int)+2*((1:Nat):Int)=4 from rfl,ajn c b d f e]
def UD (b:L):L:=f_ 8 (λa=>lvl (wid a) (aB b (1+a)))
def xW (a:L):(UD a).length=8:=cK _ _
def TL (a:Nat)(b:a<8):wo (1+a)=(many (wid a):Int)-1:=by
 have:∀a:Fin 8,wo (1+a.val)=(many (wid a.val):Int)-1:=by decide
 exact this ⟨a,b⟩
def agO (b:L)(hp:jC b=true)(a:Nat)(c:a<8):-31000<=aB (UD b) a/\aB (UD b) a<=31000:=by unfold UD;rw[dP _ _ _ c];have:=(lY b).1 hp (1+a) gO;rw[TL a c]at this;exact Tn _ _ (Ki a) this.1 gO
def uz (a:L)(hp:jC a=true):cZ (UD a)=true:=by rw[iO,xW];intro c b;have:=agO a hp c b;omega
def d9 (b:L)(a:Nat):L:=bM b (9+8*a) 8
structure vO (u:L):Prop where
 len:u.length=8
 eZ:0<=aB u 0/\aB u 0<=59
 pit:0<=aB u 1/\aB u 1<=7
 idx:∀j,j<4->0<=aB u (2+j)/\aB u (2+j)<=9
 mO:0<=aB u 6/\aB u 6<=15
 iC:0<=aB u 7/\aB u 7<=31
def nG (d:L)(hp:jC d=true)(b:Nat)(c:b<2):vO (d9 d b):=by
 have e:=(lY d).1 hp;have a:∀c,c<8->0<=aB (d9 d b) c/\aB (d9 d b) c<=wo (9+8*b+c):=λc d=>by
  unfold d9;rw[fV _ _ _ _ d];exact e (9+8*b+c) gO
 obtain rfl|rfl:b=0\/b=1:=gO
 .refine⟨aT _ _ _,a 0 gO,a 1 gO,λb c=>?_,a 6 gO,a 7 gO⟩;obtain rfl|rfl|rfl|rfl:b=0\/b=1\/b=2\/b=3:=gO
  .exact a 2 gO
  .exact a 3 gO
  .exact a 4 gO
  exact a 5 gO
 refine⟨aT _ _ _,a 0 gO,a 1 gO,λb c=>?_,a 6 gO,a 7 gO⟩;obtain rfl|rfl|rfl|rfl:b=0\/b=1\/b=2\/b=3:=gO
 .exact a 2 gO
 .exact a 3 gO
 .exact a 4 gO
 exact a 5 gO
def Nv (a:L):Int:=BO (aB a 7)
def Nw (a:L):Int:=Es (aB a 1)
def TM (a:L):L:=Pp (bM a 2 4) (aB a 6) (Nv a)
def tQ (b a:L):L:=Df (bM b 16 80) (20+aB a 0) (Nw a) (TM a)
def Cb (b a:L):L:=(((jd b 16 (Jk (bM b 16 80) (tQ b a))).set 98 (20+aB a 0)).set 97 (Nw a)).set 96 (Nv a)
def Ah (a b:L):(Cb a b).length=a.length:=by unfold Cb;rw[XB,XB,XB,dV]
def TP (b:vO l):0<=Nv l/\Nv l<=25267:=by have a:Nv l=mD (aB l 7).toNat:=Q9 b.iC;rw[a];exact Jf _
def aaK (b:vO l):0<=Nw l/\Nw l<=18022:=by have a:Nw l=jG (aB l 1).toNat:=Q9 b.pit;rw[a];exact wK _
def alR (b:vO l):gY (bM l 2 4)=true:=by unfold gY;rw[CG,aT];intro c a;rw[fV _ _ _ _ a];have:=b.idx c a;simp[this.1,this.2]
def adg (a:vO l):Og (bM l 2 4) (aB l 6) (Nv l)=0/\TM l=f_ 40 (Tw (bM l 2 4) (aB l 6) (Nv l)):=
 Jl ⟨a.mO,⟨(TP a).1,by have:=(TP a).2;omega⟩,alR a⟩
def Jm (a:vO l):(TM l).length=40:=by rw[(adg a).2,cK]
def alS (a:vO l):VH (20+aB l 0) (Nw l) (TM l):=
 ⟨Jm a,by have:=a.eZ;omega,(aaK a).1,by have:=(aaK a).2;omega⟩
def adh (b:vO l)(a:L):tQ a l=Wt (lW (bM a 16 80) (20+aB l 0)) (Nw l) (TM l)/\B_ (20+aB l 0) (Nw l) (TM l)=0:=kL (alS b)
def Dp (b:vO l)(a:L):(tQ a l).length=40:=by rw[(adh b a).1,Jj]
def FM (b:vO l)(a:L):aL (tQ a l)=true:=by rw[(adh b a).1];exact wL _ _ _
def WV (o:l.length=101)(h:bJ l=true)(b:vO p):bJ (Cb l p)=true:=by
 have g:=(g_ l).1 h;have j:Jk (bM l 16 80) (tQ l p)=yM (bM l 16 80) (tQ l p):=(ji (Dp b l)).1;rw[g_];intro a i;unfold Cb;rw[j];have m:=TP b;have k:=aaK b;have n:=b.eZ;rw[iM _ _ _ (by rw[XB,XB,dV];omega),iM _ _ _ (by rw[XB,dV];omega),iM _ _ _ (by rw[dV];omega)];by_cases c:a=96
 .rw[Q9 c,c];exact⟨m.1,by show Nv p<=32767;omega⟩
 rw[X9 c];by_cases d:a=97
 .rw[Q9 d,d];exact k
 rw[X9 d];by_cases e:a=98
 .rw[Q9 e,e];exact⟨by show(20:Int)<=_;omega,by show _<=(79:Int);omega⟩
 rw[X9 e,gT _ _ _ _ gO,lG];by_cases f:16<=a/\a<16+80
 .rw[Q9 f,(mF a gO gO).1,(mF a gO gO).2];refine Qw _ _ (λb c=>?_) _ gO;rw[fV _ _ _ _ c];have:=g (16+b) gO;rw[(mF (16+b) gO gO).1,(mF (16+b) gO gO).2]at this;exact this
 rw[X9 f];exact g a i
def nK (b:Bool)(a c:L):L:=if b=true then Cy a else Cb a c
def yV (b:Bool)(a c:L):L:=if b=true then Cz a else tQ a c
def kY (c:Bool)(e d b:L):Nat->L
 | 0=>d
 | a+1=>qR (iF (bM (nK c (kY c e d b a) (d9 b a)) 0 8) e a) (nK c (kY c e d b a) (d9 b a)) (yV c (kY c e d b a) (d9 b a))
def Ny (c:Bool)(d e b:L):Nat->L
 | 0=>[]
 | a+1=>Ny c d e b a++qU (iF (bM (nK c (kY c d e b a) (d9 b a)) 0 8) d a) (nK c (kY c d e b a) (d9 b a)) (yV c (kY c d e b a) (d9 b a))
def Ai (b:Bool)(a:l.length=101)(c:L):(nK b l c).length=101:=by
 unfold nK;split
 .unfold Cy;split
  .rw[Wv,a]
  exact ak _
 rw[Ah,a]
def Dq (d:Bool)(b:l.length=101)(a:bJ l=true)(c:vO p):bJ (nK d l p)=true:=by
 unfold nK;split
 .exact agl l b a
 exact WV b a c
def wR (b:Bool)(c:bJ l=true)(a:vO p):(yV b l p).length=40/\aL (yV b l p)=true:=by
 unfold yV;split
 .exact⟨by rw[(oG (s:=true) c).2.2.1,ac7],aes _⟩
 exact⟨Dp a l,FM a l⟩
def qo (b:Bool)(d c:L)(e:l.length=101):∀a,(kY b d l c a).length=101
 | 0=>e
 | a+1=>by
  show(qR _ (nK b (kY b d l c a) (d9 c a)) _).length=101;rw[wP,Ai b (qo b d c e a)]
def nS (b:Bool)(f:r.length=101)(e:bJ r=true)(g:l.length=8)(i:cZ l=true)(hp:jC p=true):∀a,a<=2->bJ (kY b l r p a)=true
 | 0,_=>e
 | a+1,k=>by
  have c:=nS b f e g i hp a gO;have h:=qo b l p f a;have j:=nG p hp a gO;have d:=Dq b h c j;exact Fx (Ai b h _) (tO _ _ _ (aT _ _ _) g (jM d) i) d (wR b c j).2
def wS (b:Bool)(d:r.length=101)(i:bJ r=true)(e:l.length=8)(f:cZ l=true)(hp:jC p=true):∀a,a<=2->(Ny b l r p a).length=40*a/\aL (Ny b l r p a)=true
 | 0,_=>⟨rfl,rfl⟩
 | a+1,s=>by
  have⟨m,n⟩:=wS b d i e f hp a gO;have h:=nS b d i e f hp a gO;have q:=qo b l p d a;have j:=nG p hp a gO;have c:=Dq b q h j;have g:=wR b h j;have k:=tO (bM (nK b (kY b l r p a) (d9 p a)) 0 8) l a (aT _ _ _) e (jM c) f;constructor
  .show(Ny b l r p a++qU _ _ _).length=_;rw[ZB,m,WE k c g.2,g.1];omega
  show aL (Ny b l r p a++qU _ _ _)=true;have o:=Kh k c g.2;unfold aL at *
  rw[List.all_append,n,o];rfl
def plF (a b:L):L:=if aB b 0=1 then iY else a
def mU (a:L):Bool:=decide (aB a 0=2)
def lH (b a:L):L:=(jd (kY (mU a) (UD a) (plF b a) a 2) 0 (UD a)).set 99 0
def qK (b a:L):L:=Ny (mU a) (UD a) (plF b a) a 2
def zu (b:l.length=101)(a:bJ l=true):(plF l p).length=101/\bJ (plF l p)=true:=by
 unfold plF;split
 .exact⟨j5,Ab⟩
 exact⟨b,a⟩
def uD (b:L)(a:l.length=101):(lH l b).length=101:=by
 unfold lH;rw[XB,dV,qo];unfold plF;split
 .exact j5
 exact a
def QE (i:l.length=101)(g:bJ l=true)(hp:jC p=true):bJ (lH l p)=true:=by
 have⟨d,e⟩:=zu (p:=p) i g;have f:=(g_ _).1 (nS (mU p) d e (xW p) (uz p hp) hp 2 gO);have j:=qo (mU p) (UD p) p d 2;rw[g_];intro a h;unfold lH;rw[iM _ _ _ (by rw[dV];omega)];by_cases b:a=99
 .rw[Q9 b,b];exact⟨by decide,by decide⟩
 rw[X9 b,gT _ _ _ _ gO,xW];by_cases c:0<=a/\a<0+8
 .rw[Q9 c,(Fq a gO).1,(Fq a gO).2];exact agO p hp (a-0) gO
 rw[X9 c];exact f a h
def Kw (d:l.length=101)(c:bJ l=true)(hp:jC p=true):(qK l p).length=80/\aL (qK l p)=true:=by have⟨b,a⟩:=zu (p:=p) d c;exact wS (mU p) b a (xW p) (uz p hp) hp 2 gO
def mV (b a:L):L:=if bJ b=true/\xV a=0 then lH b (oJ a)else au 101
def r_ (b a:L):Bool:=if bJ b=true/\xV a=0 then mU (oJ a)else false
def nP (b a:L):L:=if bJ b=true/\xV a=0 then qK b (oJ a)else[]
def kM (b a:L):Int:=if bJ b=true then xV a else 2
def Aj (a:L)(b:xV a=0):jC (oJ a)=true:=by have c:oJ a=Bj (xB a 14):=Q9 b;rw[c];exact(agM a b).2.2.2.1
def qp (b:bJ l=true)(a:xV p=0):mV l p=lH l (oJ p)/\r_ l p=mU (oJ p)/\nP l p=qK l (oJ p)/\kM l p=0:=⟨Q9 ⟨b,a⟩,Q9 ⟨b,a⟩,Q9 ⟨b,a⟩,by unfold kM;rw[Q9 b,a]⟩
def xX (c:bJ l=true)(b:xV p≠0):mV l p=au 101/\r_ l p=false/\nP l p=[]/\kM l p=xV p:=⟨X9 (λa=>b a.2),X9 (λa=>b a.2),X9 (λa=>b a.2),Q9 c⟩
def Ky (a:L)(b:l.length=101):(mV l a).length=101:=by
 unfold mV;split
 .exact uD _ b
 exact ak _
def kg (a:L):Bool:=decide (a.length=40)&&aL a
def om (d:L)(a:L->L)(b:L)(c:Nat):Int:=if aL d&&kg (a (kW b c))then fU d (a (kW b c)) 40 else 0
def oq (a:L->L)(b:L)(c:Nat):Int:=if kg (a (kW b c))then fU (a (kW b c)) (a (kW b c)) 40 else 0
def kV (a:L->L)(b:L):Bool:=(List.range 60).all λc=>kg (a (kW b (20+c)))
def zw (a:Nat×Int×Int):V:=.tuple #[I (a.1:Int),I a.2.1,I a.2.2,I 0]
def uE (a:kg l=true):l.length=40/\aL l=true:=by unfold kg at a;simpa using a
def aaL (e:L)(b:L->L)(c:L)(d:Nat):om e b c d<=42949672960:=by
 unfold om;split
 .rename_i a;simp only[VL]at a;have:=n_ e (b (kW c d)) a.1 (uE a.2).2 40;omega
 omega
def aaM (a:L->L)(b:L)(c:Nat):oq a b c<=42949672960:=by
 unfold oq;split
 .rename_i d;have:=n_ (a (kW b c)) (a (kW b c)) (uE d).2 (uE d).2 40;omega
 omega
def aaN (b:L->L)(c:L)(a:Nat)(e:a<60)(d:kg (b (kW c (20+a)))=false):kV b c=false:=by unfold kV;rw[List.all_eq_false];exact⟨a,List.mem_range.2 e,by rw[d];simp⟩
def GV (b:L->L)(c:L)(d:∀a,a<60->kg (b (kW c (20+a)))=true):kV b c=true:=by unfold kV;rw[List.all_eq_true];exact λa b=>d a (List.mem_range.1 b)
def Folds (g:W)(f:Nat)(e:Array V)(d:L->L):Prop:=
 ∀b c a,g.grownBy b none->aY b c a->rD c a->a.length=40->aL a=true->
  Calls prog f (#[c]++e) b λf e=>∃c,f=.returned c/\aY e c (d a)/\(d a).length<=1000000000000000000/\b.grownBy e none
def Dr (c:Fn)(first b:Array V)(a:W):Sem.run prog (binOp BinOp.eql 45 (.func c first b) .nilFunc) a=.ok (.bool false) a:=by kernel_rfl
def jl {b:Func}{c d e g:Tmp}(h:b.results=#[.tmp c,.tmp d,.tmp e,.tmp g])(a:Array V)(P:Program)(f:W):(results b a).run P f=.ok (.tuple #[a.getD c undef,a.getD d undef,a.getD e undef,a.getD g undef]) f:=by simp[results,h]
def qW (a:L):L:=Vm a 40
def UF (a b:L):L:=J9 (qW a) b
def Pq (b a:L):L:=zn a (bM b 8 8) (au 40)
def Kz (c b d:L):L:=f_ 40 (λa=>fA (aB d a-aB (Pq c b) a))
def yQ (b a c:L):Nat×Int×Int:=kE (om (Kz b a c) (UF a) (bM b 16 80)) (oq (UF a) (bM b 16 80)) 60
def KA (b a c:L):Int:=PW (yQ b a c).2.1 (yQ b a c).2.2
def VP (b a c:L):L:=UF a (lW (bM b 16 80) ((yQ b a c).1:Int))
def aaO (b a c:L)(d:Nat):Int:=fA (aB (Kz b a c) d-fA ((aB (VP b a c) d*Es (KA b a c)+8192) / 16384))
def Cc (b a c:L):L:=f_ 40 (aaO b a c)
def Ev (b a c:L):L:=NJ (Cc b a c) (qW a)
def qX (b a c:L):L:=Kr (Ev b a c) (qW a) (mJ (Ev b a c) (qW a))
def yR (b a c:L):Int:=N8 (Ev b a c) (qW a) (mJ (Ev b a c) (qW a))
def Dh (b a c:L):L:=Pp (qX b a c) (yR b a c) 4096
def wT (b a c:L):L:=UF a (Dh b a c)
def P7 (b a c:L):Int:=Py (4096*fU (Cc b a c) (wT b a c) 40) (fU (wT b a c) (wT b a c) 40)
def WW (b a c:L):L:=[((yQ b a c).1:Int)-20,KA b a c,aB (qX b a c) 0,aB (qX b a c) 1,aB (qX b a c) 2,aB (qX b a c) 3,yR b a c,P7 b a c]
def GY (a:Nat):aL (au a)=true:=by rw[bD];intro b _;rw[jU];omega
def WX (b:Nat):aL (jV b)=true:=by rw[bD];unfold jV;rw[cK];intro c a;rw[dP _ _ _ a];split<;>omega
def agP (a:j6 l)(hp:aL p=true)(b:aL r=true):okF l p r=true:=by unfold okF;rw[a.wide,hp,b,KN a.one];rfl
def sH (d:j6 l):(qW l).length=40/\aL (qW l)=true/\Vq l 40=0:=by
 have a:=agP d (GY 8) (WX 40);have b:qW l=zn l (au 8) (jV 40):=by unfold qW Vm;rw[pO,show(40:Int).toNat=40 from rfl]
 have c:Vq l 40=Nu l (au 8) (jV 40):=by unfold Vq;rw[pO,show(40:Int).toNat=40 from rfl]
 refine⟨?_,?_,?_⟩
 .rw[b,Tc _ _ _ a];exact cK _ _
 .rw[b,show zn l (au 8) (jV 40)=oF l (au 8) (jV 40) (jV 40).length from Q9 a];exact nC _ _ _ _
 rw[c];exact Q9 a
def FQ (e:j6 l)(b:p.length=40)(i:aL p=true):(UF l p).length=40/\aL (UF l p)=true/\Qu (qW l) p=0:=by
 have⟨g,h,_⟩:=sH e;have d:yG (qW l) p=true:=by unfold yG;rw[g,b];decide
 have c:okO (qW l) p=true:=by unfold okO;rw[h,i];rfl
 have a:UF l p=f_ p.length (PO (qW l) p):=Q9 ⟨d,c⟩;refine⟨by rw[a,cK,b],?_,by unfold Qu;rw[Q9 d,Q9 c]⟩;rw[a,bD,cK];intro j f;rw[dP _ _ _ f];unfold PO;exact mq _
def TQ (c:bJ l=true)(b:j6 p):(Pq l p).length=40/\aL (Pq l p)=true:=by
 have a:=Tk b c (GY 40);refine⟨?_,?_⟩
 .unfold Pq;rw[Tc _ _ _ a];exact ak 40
 unfold Pq;rw[show zn p (bM l 8 8) (au 40)=oF p (bM l 8 8) (au 40) (au 40).length from Q9 a];exact nC _ _ _ _
def FU (d:Nat)(b:Nat->Int):aL (f_ d (λa=>fA (b a)))=true:=by rw[bD,cK];intro a c;rw[dP _ _ _ c];exact mq _
def vQ (b a c:L):(Kz b a c).length=40/\aL (Kz b a c)=true:=⟨cK _ _,FU 40 _⟩
def oK (b a c:L):(Cc b a c).length=40/\aL (Cc b a c)=true:=⟨cK _ _,FU 40 _⟩
def FX (a:bJ l=true):aL (bM l 16 80)=true:=((oU l).1 a).2.2.1
def aaP (c:bJ l=true)(b:j6 p):kV (UF p) (bM l 16 80)=true:=by refine GV _ _ λd a=>?_;have a:=FQ b (mR (bM l 16 80) (20+d)) (xP _ _ (FX c));unfold kg;rw[KN a.1,a.2.1];rfl
def Jo (b a c:L):20<=(yQ b a c).1/\(yQ b a c).1<=79:=by have:=Tf (om (Kz b a c) (UF a) (bM b 16 80)) (oq (UF a) (bM b 16 80)) 60;unfold yQ;omega
def W_ (b a c:L):0<=(yQ b a c).2.1/\(yQ b a c).2.1<=42949672960/\0<=(yQ b a c).2.2/\(yQ b a c).2.2<=42949672960:=
 aaw _ _ 42949672960 (by decide) (aaL _ _ _) (aaM _ _) 60
def aaQ (a b:Int):0<=PW a b/\PW a b<=7:=by
 unfold PW;split
 .omega
 have:=agi (jH a) (jH b) 7;omega
def alT (a b:Int):0<=Py a b/\Py a b<=31:=by
 unfold Py;split
 .omega
 have:=aga (uS a) (uT b) 31;omega
def alU (a:Int):0<=Es a/\Es a<=18022:=by
 unfold Es;split
 .exact wK _
 omega
def agQ (a b c:L):lW (bM a 16 80) ((yQ a b c).1:Int)=kW (bM a 16 80) (yQ a b c).1/\Fj ((yQ a b c).1:Int)=0:=by have d:=Jo a b c;exact uh _ _ gO gO
def FZ (a:L)(c:bJ l=true)(b:j6 p):(VP l p a).length=40/\aL (VP l p a)=true/\Qu (qW p) (lW (bM l 16 80) ((yQ l p a).1:Int))=0:=by unfold VP;rw[(agQ l p a).1];exact FQ b (mR _ _) (xP _ _ (FX c))
def alV (g:aL l=true)(c:L)(b:Nat):-42949672960<=QC l c b/\QC l c b<=42949672960:=by
 have:=xU (λa=>aB l a*fM c b a) 1073741824 (λa=>by
  have d:=uw c b a;have e:-32768<=aB l a/\aB l a<=32767:=by
   by_cases f:a<l.length
   .exact(bD l).1 g a f
   rw[dI _ _ gO];omega
  have:=uf _ _ e.1 e.2 d.1 d.2;show -1073741824<=aB l a*fM c b a/\aB l a*fM c b a<=1073741824;omega) 40
 unfold QC;omega
def F4 {m:L}(a:L)(g:j6 l):Ev m l a=tgL (Cc m l a) (qW l)/\QD (Cc m l a) (qW l)=0/\(Ev m l a).length=40/\AY (Ev m l a)=true:=by
 have⟨d,e,_⟩:=sH g;have⟨f,c⟩:=oK m l a;have b:Ev m l a=tgL (Cc m l a) (qW l):=Q9 ⟨f,d,by rw[c,e];rfl⟩;refine⟨b,?_,?_,?_⟩
 .unfold QD;rw[Q9 ⟨f,d⟩,Q9 (by rw[c,e];rfl)]
 .rw[b];exact cK _ _
 rw[wQ,b];unfold tgL;rw[cK];intro i h;rw[dP _ _ _ h];have:=alV c (qW l) i;omega
def agR (b:L)(a:j6 p):yU (Ev l p b) (qW p)=0:=by have⟨_,_,c,d⟩:=F4 (m:=l) b a;unfold yU;rw[Q9 ⟨c,(sH a).1⟩,Q9 d]
def Ce {m:L}(a:L)(c:j6 l):(qX m l a).length=4/\gY (qX m l a)=true:=by have b:qX m l a=mJ (Ev m l a) (qW l):=Q9 (agR a c);rw[b];exact tN _ _ 8
def agS {m:L}(a:L)(c:j6 l):0<=yR m l a/\yR m l a<=15:=by have b:yR m l a=Ko (Ev m l a) (mJ (Ev m l a) (qW l)) 4:=Q9 (agR a c);rw[b];exact alM _ _
def TV {m:L}(a:L)(c:j6 l):(Dh m l a).length=40/\aL (Dh m l a)=true/\Og (qX m l a) (yR m l a) 4096=0:=by
 have⟨d,b⟩:=Jl (x:=qX m l a) (s:=yR m l a) (z:=4096) ⟨agS a c,⟨by decide,by decide⟩,(Ce a c).2⟩;refine⟨by unfold Dh;rw[b,cK],?_,d⟩;unfold Dh;rw[b,bD,cK];intro f e;rw[dP _ _ _ e];unfold Tw;split
 .split<;>omega
 omega
def kZ {m:L}(a:L)(b:j6 l):(wT m l a).length=40/\aL (wT m l a)=true/\Qu (qW l) (Dh m l a)=0:=FQ b (TV a b).1 (TV a b).2.1
def Dt (c b:L)(i:aL c=true)(g:aL b=true):-42949672960<=fU c b 40/\fU c b 40<=42949672960:=by
 have f:∀d:L,aL d=true->∀a,-32768<=aB d a/\aB d a<=32767:=λd h a=>by
  by_cases e:a<d.length
  .exact(bD d).1 h a e
  rw[dI _ _ gO];omega
 have:=xU (λa=>aB c a*aB b a) 1073741824 (λa=>by
  have d:=f c i a;have e:=f b g a;have:=uf _ _ d.1 d.2 e.1 e.2;show -1073741824<=aB c a*aB b a/\aB c a*aB b a<=1073741824;omega) 40
 unfold fU;omega
def Xa (a:List Int)(c:j6 p):vO (WW l p a):=by
 have i:=Jo l p a;have b:=(jf _).1 (Ce (m:=l) a c).2;rw[(Ce (m:=l) a c).1]at b;have e:=agS (m:=l) a c;have d:0<=KA l p a/\KA l p a<=7:=aaQ _ _;have f:0<=P7 l p a/\P7 l p a<=31:=alT _ _;unfold WW;generalize qX l p a=h at *
 generalize yR l p a=S at *
 generalize P7 l p a=L at *
 generalize KA l p a=g at *
 generalize (yQ l p a).1=P at *
 refine⟨rfl,?_,d,λa c=>?_,e,f⟩
 .show 0<=(P:Int)-20/\(P:Int)-20<=59;omega
 obtain rfl|rfl|rfl|rfl:a=0\/a=1\/a=2\/a=3:=gO
 .exact b 0 gO
 .exact b 1 gO
 .exact b 2 gO
 exact b 3 gO
def alW {b:IntKind}{a:Int}{c:Bool}(d:i=a)(e:s=c):Ending.returned (.tuple #[.int b i,.bool s])=.returned (.tuple #[.int b a,.bool c]):=by rw[d,e]
def tT (b:Int)(g:W):Calls prog 208 #[I b] g λa c=>a=.returned (.tuple #[I (fA b),.bool (o16 b)])/\c=g:=by
 have e:=alA b;by_cases d:b < -32768
 .have a:fA b=-32768:=by unfold fA;simp[d]
  have c:o16 b=true:=by unfold o16;rw[a];simp;omega
  clear e;rw[a,c];clear a c;go_enter func208,ntmps208;go_wp2;go_ret2;exact⟨alW rfl (by simp;omega),rfl⟩
 by_cases f:32767<b
 .have a:fA b=32767:=by unfold fA;simp[d,f]
  have c:o16 b=true:=by unfold o16;rw[a];simp;omega
  clear e;rw[a,c];clear a c;go_enter func208,ntmps208;go_wp2;go_ret2;exact⟨alW rfl (by simp;omega),rfl⟩
 have a:fA b=b:=by unfold fA;simp[d,f]
 have c:o16 b=false:=by unfold o16;rw[a];simp
 clear e;rw[a,c];clear a c;go_enter func208,ntmps208;go_wp2;go_ret2;exact⟨alW rfl (by simp),rfl⟩
def ajo (a b:Int)(d:W):Calls prog 221 #[I a,I b] d λc e=>c=.returned (.tuple #[I (fA (fA a-fA b)),.bool (o16 (fA a-fA b))])/\e=d:=by have⟨f,g⟩:=mq a;have⟨i,j⟩:=mq b;go_enter func221,ntmps221;go_wp2_with (first|(go_at_call 208;refine(tT _ _).mono ?_;rintro c e ⟨rfl,rfl⟩)|go_in);go_ret2;exact⟨rfl,rfl⟩
def lI (a:Int):Int:=if a<0\/119<a then 0 else 32767*(2*(if 59<a then 119-a else a)+1) / 119
def KE (a:Int)(d:0<=a)(e:a<=59)(c:W):Calls prog 46 #[I a] c λb d=>b=.returned (I (32767*(2*a+1) / 119))/\d=c:=by have b:(32767*(2*a+1)).tdiv 119=32767*(2*a+1) / 119:=YS gO;go_enter func46,ntmps46;go_wp2_with fail;go_ret;exact⟨by first|rfl|(rw[<-b]),rfl⟩
def N9 (a:Int)(b:W):Calls prog 46 #[I a] b λc d=>c=.returned (I (lI a))/\d=b:=by
 unfold lI;by_cases e:a<0
 .rw[Q9 (.inl e)];go_enter func46,ntmps46;go_wp2_with fail;go_ret;exact⟨rfl,rfl⟩
 by_cases f:119<a
 .rw[Q9 (.inr f)];go_enter func46,ntmps46;go_wp2_with fail;go_ret;exact⟨rfl,rfl⟩
 rw[nO];by_cases d:59<a
 .rw[Q9 d];have L:=Zd<|KE (119-a) gO gO b;generalize 32767*(2*(119-a)+1) / 119=i at *
  go_enter func46,ntmps46;go_wp2_with fail;refine L.mono ?_;rintro c g ⟨rfl,rfl⟩;go_wp2_with fail;go_ret;exact⟨rfl,rfl⟩
 rw[X9 d];exact KE a gO gO b
def wN (b:L)(a:Nat):Int:=(aB b a*lI a+16384) / 32768
def gZ (a:Nat->Int)(c:Nat):Nat->Int
 | 0=>0
 | b+1=>gZ a c b+a b*a (b+c)
def oM (b:Nat->Int)(a:Nat):Int:=gZ b a (120-a)
def Cg (a:Nat):0<=lI a/\lI a<=32767:=by
 unfold lI;split
 .omega
 split<;>omega
def TY (a b:Int)(f:-32768<=a)(g:a<=32767)(c:0<=b)(h:b<=32767):-1073709056<=a*b/\a*b<=1073676289:=by have d:0<=(a+32768)*b:=ZA gO c;have e:0<=(32767-a)*b:=ZA gO c;simp only[GL,Int.sub_mul]at d e;omega
def alf (b:L)(a:Nat)(e:-32768<=aB b a)(f:aB b a<=32767):-32768<=wN b a/\wN b a<=32768:=by
 have⟨c,d⟩:=Cg a;have⟨g,h⟩:=TY _ _ e f c d;unfold wN;generalize aB b a*lI a=i at *
 omega
def Jp (a b:Int)(g:-32768<=a)(h:a<=32768)(i:-32768<=b)(j:b<=32768):-1073741824<=a*b/\a*b<=1073741824:=by have c:0<=(32768-a)*(b+32768):=ZA gO gO;have d:0<=(a+32768)*(32768-b):=ZA gO gO;have e:0<=(a+32768)*(b+32768):=ZA gO gO;have f:0<=(32768-a)*(32768-b):=ZA gO gO;simp only[Int.sub_mul,GL,Int.mul_add,Int.mul_sub]at c d e f;omega
def wU (b:Nat->Int)(c:Nat)(d:∀a,-32768<=b a/\b a<=32768):∀a:Nat,-1073741824*(a:Int)<=gZ b c a/\gZ b c a<=1073741824*(a:Int)
 | 0=>by simp[gZ]
 | a+1=>by
  have⟨e,f⟩:=wU b c d a;have⟨g,h⟩:=Jp _ _ (d a).1 (d a).2 (d (a+c)).1 (d (a+c)).2;unfold gZ;generalize b a*b (a+c)=i at *
  omega
def adj (a:Int):0<=a*a:=by
 rcases Int.le_total 0 a with b|b
 .exact ZA b b
 have:=ZA (a:=-a) (b:=-a) gO gO;rwa [Int.neg_mul_neg]at this
def aaR (a b:Int):-(a*a+b*b)<=2*(a*b)/\2*(a*b)<=a*a+b*b:=by have c:0<=(a-b)*(a-b):=adj _;have d:0<=(a+b)*(a+b):=adj _;simp only[Int.sub_mul,GL,Int.mul_add,Int.mul_sub]at c d;rw[V7 b a]at c d;omega
def G_ (c:Nat->Int):∀a b,gZ c 0 a<=gZ c 0 (a+b)
 | a,0=>DC _
 | a,b+1=>by
  have:=G_ c a b;have d:0<=c (a+b)*c (a+b):=adj _;show _<=gZ c 0 (a+b)+c (a+b)*c (a+b+0);rw[Nat.add_zero];omega
def adk (b:Nat->Int)(a:Nat):∀c,gZ b 0 (a+c)=gZ b 0 a+gZ (λd=>b (d+a)) 0 c
 | 0=>by simp[gZ]
 | c+1=>by
  have:=adk b a c;show gZ b 0 (a+c)+b (a+c)*b (a+c+0)=gZ b 0 a+(gZ (λd=>b (d+a)) 0 c+b (c+a)*b (c+0+a));rw[this,Nat.add_zero,Nat.add_zero,Nat.add_comm a c];omega
def sq_nonneg (b:Nat->Int):∀a,0<=gZ b 0 a
 | 0=>DC _
 | a+1=>by
  have:=sq_nonneg b a;have c:0<=b a*b a:=adj _;show 0<=gZ b 0 a+b a*b (a+0);rw[Nat.add_zero];omega
def Xb (b:Nat->Int)(c:Nat):∀a,-(gZ b 0 a+gZ (λd=>b (d+c)) 0 a)<=2*gZ b c a/\2*gZ b c a<=gZ b 0 a+gZ (λd=>b (d+c)) 0 a
 | 0=>by simp[gZ]
 | a+1=>by
  have⟨e,f⟩:=Xb b c a;have⟨g,h⟩:=aaR (b a) (b (a+c));show -(gZ b 0 a+b a*b (a+0)+(gZ (λd=>b (d+c)) 0 a+b (a+c)*b (a+0+c)))<=2*(gZ b c a+b a*b (a+c))/\_<=gZ b 0 a+b a*b (a+0)+(gZ (λd=>b (d+c)) 0 a+b (a+c)*b (a+0+c));rw[Nat.add_zero];show _/\2*(gZ b c a+b a*b (a+c))<=_;omega
def alX (b:Nat->Int)(a:Nat)(h:a<=120):-oM b 0<=oM b a/\oM b a<=oM b 0:=by have⟨e,f⟩:=Xb b a (120-a);have c:=G_ b (120-a) a;have d:=adk b a (120-a);have g:=sq_nonneg b a;rw[show 120-a+a=120 by omega]at c;rw[show a+(120-a)=120 by omega]at d;unfold oM;rw[Nat.sub_zero];omega
def eO (a:Nat->Int)(b:Nat):Int:=if b=0 then oM a 0+1 else oM a b
def QF (a:Nat)(b:Int):Int:=if 31<a then b / 2^(a-31)else b*2^(31-a)
def iD (b:Nat->Int)(c a:Nat):Int:=QF c (eO b a)-QF c (eO b a)*a*a / 8192
def uY (a:Nat->Int)(b:Nat):V:=.agg #[I (iD a b 0),I (iD a b 1),I (iD a b 2),I (iD a b 3),I (iD a b 4),I (iD a b 5),I (iD a b 6),I (iD a b 7),I (iD a b 8)]
def KG (d:L)(c:Nat)(b:L):Prop:=b.length=120/\∀a,a<c->aB b a=wN d a
def T9 (a:L)(f:a.length=120)(c:aL a=true)(b:Nat):-32768<=wN a b/\wN a b<=32768:=by
 by_cases e:b<120
 .have:=(bD a).1 c b gO;exact alf a b this.1 this.2
 have d:aB a b=0:=dI a b gO;exact alf a b gO gO
def QG (b e:L)(a:Nat)(f:KG b a e)(h:a<120):KG b (a+1) (e.set a (wN b a)):=by
 have⟨d,g⟩:=f;refine⟨by simpa using d,λb c=>?_⟩;by_cases c:b=a
 .subst c;simp[aB,List.getD,d,h]
 have:=g b gO;simpa [aB,List.getD,WB,Ne.symm c] using this
def Ak:1<=eO f 0:=by have:=sq_nonneg f 120;show 1<=gZ f 0 120+1;omega
def wV (b:∀a,-32768<=f a/\f a<=32768)(a:Nat)(h:a<9):-128849018880<=eO f a/\eO f a<=128849018881:=by have e:=wU f a b (120-a);have g:=wU f 0 b 120;have c:oM f 0=gZ f 0 120:=rfl;have d:oM f a=gZ f a (120-a):=rfl;unfold eO;split<;>omega
def KH (e:∀a,-32768<=f a/\f a<=32768)(d:Bits (eO f 0) n):1<=n/\n<=37:=by
 have⟨g,h,a⟩:=d;have l:=Ak (f:=f);have⟨b,i⟩:=a gO;refine⟨b,?_⟩;rcases WZ n 38 with c|c
 .omega
 have m:=(wV e 0 gO).2;have k:(2:Nat)^37<=2^(n-1):=WM gO gO;have j:((2^(n-1):Nat):Int)=(2:Int)^(n-1):=by simp
 omega
def QI (c:Nat->Int)(e d:Nat)(b:L):Prop:=b.length=9/\∀a,a<d->aB b a=iD c e a
def QJ (d:QI f n b l)(g:b<9):QI f n (b+1) (l.set b (iD f n b)):=by
 have⟨c,e⟩:=d;refine⟨by simpa using c,λd a=>?_⟩;by_cases a:d=b
 .subst a;simp[aB,List.getD,c,g]
 have:=e d gO;simpa [aB,List.getD,WB,Ne.symm a] using this
def aeA (a:Nat)(d:a<9):-eO f 0<=eO f a/\eO f a<=eO f 0:=by have c:=alX f a gO;have e:=sq_nonneg f 120;have b:oM f 0=gZ f 0 120:=rfl;unfold eO;rw[Q9 rfl];split<;>omega
def agT (g:Bits (eO f 0) n)(a:Nat)(i:a<9):-2147483648<=QF n (eO f a)/\QF n (eO f a)<=2147483648:=by
 have⟨k,l⟩:=aeA (f:=f) a i;have h:=g.1;generalize eO f a=c at *
 generalize eO f 0=m at *
 unfold QF;split
 .rename_i j;have hp:(0:Int)<2^(n-31):=Int.pow_pos (by decide);have b:(2:Int)^n=2147483648*2^(n-31):=by
   rw[show(2147483648:Int)=2^31 by decide,<-Int.pow_add,show 31+(n-31)=n by omega]
  rw[b]at h;exact⟨(Int.le_ediv_iff_mul_le hp).2 (by rw[Int.neg_mul];omega),by
   have:=Int.ediv_lt_of_lt_mul (a:=c) (b:=2147483648) hp gO;omega⟩
 rename_i j;have hp:(0:Int)<2^(31-n):=Int.pow_pos (by decide);have b:(2:Int)^n*2^(31-n)=2147483648:=by
  rw[<-Int.pow_add,show n+(31-n)=31 by omega];decide
 have d:0<=(2^n-c)*2^(31-n):=ZA gO gO;have e:0<=(2^n+c)*2^(31-n):=ZA gO gO;rw[Int.sub_mul,b]at d;rw[GL,b]at e;omega
def adl (e:0<i)(c:Bits i n)(f:Bits i b):n<=b:=by
 have⟨_,_,d⟩:=c;have⟨m,_,_⟩:=f;have⟨g,h⟩:=d e;rcases WZ b n with a|a
 .have l:(2:Nat)^b<=2^(n-1):=WM gO gO;have j:((2^(n-1):Nat):Int)=(2:Int)^(n-1):=by simp
  have k:((2^b:Nat):Int)=(2:Int)^b:=by simp
  omega
 exact a
def He (c:0<i)(a:Bits i n)(d:Bits i b):n=b:=by have:=adl c a d;have:=adl c d a;omega
def arr (a:L):Array V:=(a.map (Value.int .u32)).toArray
def oz (b:L)(a:Nat)(c:a<b.length):(arr b)[a]?=some (.int .u32 (aB b a)):=by simp[arr,aB,List.getD,c]
def mG (b:L)(a:Nat)(c:Int):(arr b).setIfInBounds a (.int .u32 c)=arr (b.set a c):=by simp[arr,List.map_set]
def Sl (f:W)(e:V)(a:L):Prop:=
 (e=N/\a=[])\/∃(b c:Nat) (d:Array V),e=.slice (S b) a.length c/\a.length<=c/\f.heap[b]?=some (.cells d 160 (0,0))/\∀b,b<a.length->d[b]?=some (.int .u32 (aB a b))
def Struct (b:W)(a:Nat):Prop:=∃c d,b.heap[a]?=some (.cells #[c,d] 113 (0,0))
def kD (c:W)(e:Nat)(d:Int):Prop:=
 ∃(b:V) (a:L),c.heap[e]?=some (.cells #[.bool (decide (d<0)),b] 113 (0,0))/\Sl c b a/\WF a/\Top a/\val a=d.natAbs/\a.length<=8
def alY (c:Sl w x l):∃b a,x=.slice b l.length a:=by
 rcases c with⟨rfl,rfl⟩|⟨b,a,d,rfl,_⟩
 .exact⟨_,_,rfl⟩
 exact⟨_,_,rfl⟩
def sI (a:W):Sl a N []:=Or.inl ⟨rfl,rfl⟩
def Du (b:Sl w x l)(k:w.grownBy w' z)(m:∀a,z=some a->Struct w a):Sl w' x l:=by
 rcases b with b|⟨a,e,f,h,i,c,j⟩
 .exact Or.inl b
 refine Or.inr ⟨a,e,f,h,i,?_,j⟩;rw[k.block a (aO c) ?_]
 .exact c
 intro g;have⟨n,o,d⟩:=m a g.symm;rw[c]at d;simp at d
def jQ (a:Sl w x l)(b:w.grownBy w' none):Sl w' x l:=Du a b (λa a=>by cases a)
def bQ (b:Struct w n)(d:w.grownBy w' z)(c:z≠some n):Struct w' n:=by have⟨e,f,a⟩:=b;exact⟨e,f,by rw[d.block n (aO a) (λb=>c b.symm)];exact a⟩
def dA (a:kD w n i):Struct w n:=by have⟨d,c,b,_⟩:=a;exact⟨_,_,b⟩
def Xi (c:kD w n i)(b:w.grownBy w' z)(f:z≠some n)(g:∀a,z=some a->Struct w a):kD w' n i:=by have⟨j,h,a,d,e⟩:=c;exact⟨j,h,by rw[b.block n (aO a) (λc=>f c.symm)];exact a,Du d b g,e⟩
def bP (a:kD w n i)(b:w.grownBy w' none):kD w' n i:=Xi a b (by simp) (λa a=>by cases a)
def vR (c:W)(a:L)(b:Nat)(d:a.length=b):Sl (c.alloc (.cells (arr a) 160)) (.slice (S c.heap.size) b b) a:=
 Or.inr ⟨c.heap.size,b,arr a,by rw[d],gO,dF _ _,λc b=>oz a c b⟩
def jm (c:Sl w x l):∃b d,x=.slice b l.length d/\(0<l.length->∃a,b=some (A a 0)/\a<w.heap.size/\∀b,b<l.length->w.cell? (A a b)=some (.int .u32 (aB l b))):=by
 rcases c with⟨rfl,rfl⟩|⟨a,d,g,rfl,h,e,f⟩
 .exact⟨_,_,rfl,λc=>by simp at c⟩
 exact⟨_,_,rfl,λ_=>⟨a,rfl,aO e,λb a=>by rw[aI e];exact f b a⟩⟩
def iU (f:W)(g:Int)(e:Nat)(d:Ending)(c:W):Prop:=
 ∃b a,d=.returned b/\Sl c b a/\WF a/\Top a/\val a=g/\a.length<=e/\f.grownBy c none
def ads (c:W)(g:Int)(e:Nat)(d:Ending)(f:W):Prop:=
 ∃b a,d=.returned b/\Sl c b a/\WF a/\Top a/\val a=g/\a.length<=e/\f=c
def ag2 {d:Array V}(j:WF l)(f:w.heap[n]?=some (.cells d 160 (0,0)))(g:∀a,a<l.length->d[a]?=some (.int .u32 (aB l a)))(q:l.length<=b)
 (c:Nat) (h:c<=l.length) (k:∀a,c<=a->a<l.length->aB l a=0) (i:c=0\/aB l (c-1)≠0):ads w (val l) l.length (.returned (.slice (S n) c b)) w:=by
 have⟨m,o,p,e⟩:=aec l j c h k i;refine⟨_,l.take c,rfl,Or.inr ⟨n,b,d,by rw[e],gO,f,λa c=>?_⟩,m,o,p,gO,rfl⟩;rw[e]at c;rw[zW,Q9 c];exact g a gO
def qw (b:V)(a:L)(e:W)(y:Sl e b a)(o:WF a)(E:a.length<=100):Calls prog 132 #[b] e (ads e (val a) a.length):=by
 rcases y with⟨rfl,rfl⟩|⟨s,B,C,rfl,x,m,n⟩
 .go_enter func132,ntmps132;go_wp2_with fail;refine wp_loop_rounds 1 ?_;rw[rounds_succ];go_wp2_with fail;go_ret;exact⟨_,[],rfl,sI _,o,Or.inl rfl,rfl,Q6 _,rfl⟩
 have r:∀b,b<a.length->e.cell? (A s b)=some (.int .u32 (aB a b)):=λb c=>by rw[aI m];exact n b c
 have u:=λd k f c=>ag2 (w:=e) (l:=a) o m n x d k f c;have l:Hid _:=u;generalize v:ads e (val a) a.length=q at *
 have z:Hid (ads e (val a) a.length=q):=v;go_enter func132,ntmps132;go_wp2_with fail;go_loop [3] (λc=>∃d:Nat,c=I d/\d<=a.length/\Hid (∀b,d<=b->b<a.length->aB a b=0)) (λc=>(intOf c).toNat)
 case atStart=>exact⟨a.length,rfl,Q6 _,λb m e=>gO⟩
 case round=>
  obtain⟨d,rfl,k,f⟩:=hrel;cases d with
  | zero=>
   have i:=l 0 gO f (Or.inl rfl);have j:Hid _:=i;go_wp2_with fail;exact j
  | succ c=>
   have D:=r c gO;by_cases g:aB a c=0
   .have w:(aB a c==0)=true:=by simp[g]
    have p:Hid (aB a c=0):=g;go_wp2_with fail;go_round
    case rel=>exact⟨c,by go_num,gO,λb m e=>by by_cases t:b=c;exact(by rw[t];exact p);exact f b gO e⟩
    case measure=>simp[intOf]
   have w:(aB a c==0)=false:=by simp[g]
   have i:=l (c+1) k f (Or.inr (by rw[Nat.add_sub_cancel];exact g));have j:Hid _:=i;go_wp2_with fail;exact j
def wW (a:Int)(b:W)(r:0<=a)(s:a<18446744073709551616):Calls prog 119 #[.int .u64 a] b (iU b a 2):=by
 have j:WF [a % 4294967296,a / 4294967296]:=WF2 _ _ gO gO gO gO;have i:val [a % 4294967296,a / 4294967296]=a:=by rw[ank];omega
 have g:Sl (b.alloc (.cells #[.int .u32 (a % 4294967296),.int .u32 (a / 4294967296)] 160)) (.slice (S b.heap.size) 2 2) [a % 4294967296,a / 4294967296]:=
  Or.inr ⟨b.heap.size,2,_,rfl,Q6 _,dF _ _,λd c=>by
   match d,c with
   | 0,_=>rfl
   | 1,_=>rfl⟩
 have e:Hid (Sl (b.alloc (.cells #[.int .u32 (a % 4294967296),.int .u32 (a / 4294967296)] 160)) (.slice (S b.heap.size) 2 2) [a % 4294967296,a / 4294967296]):=g;have f:Hid (val [a % 4294967296,a / 4294967296]=a):=i;go_enter func119,ntmps119;go_wp2_with fail;refine(qw _ _ _ e j (by simp)).mono ?_;rintro q t ⟨d,k,rfl,l,m,n,o,p,rfl⟩;have c:Hid (iU b a 2 (.returned d) _):=⟨d,k,rfl,l,m,n,o.trans f,p,aj _ _ _⟩;go_wp2_with fail
 first|exact c|(go_ret;exact c)
def gH (d:W)(a:Nat)(e:Int)(c:Ending)(b:W):Prop:=
 c=.returned (.pointer (S a))/\kD b a e/\d.grownBy b (some a)
def aaX (b:Bool)(a:Int)(c:0<=a):a=(((if b then -a else a).natAbs:Nat):Int):=by cases b<;>simp<;>omega
def aeI {d:V}(f:w.heap[n]?=some (.cells #[x,v'] 113 (0,0)))(k:Sl w d l)(b:WF l)(e:Top l)(i:l.length<=8)(c:Bool)(m:c=(s&&decide (0<l.length))):gH w n (if s then -val l else val l) (.returned (.pointer (S n))) ((w.setCell (A n 1) d).setCell (A n 0) (.bool c)):=by
 have o:=(su l b).1;have j:0<l.length->0<val l:=λa=>by
  have g:=JI l b e (List.length_pos_iff.1 a);have:=oP (l.length-1);omega
 have g:c=decide ((if s then -val l else val l)<0):=by
  rw[m];cases s
  .simp;omega
  by_cases a:0<l.length
  .have:=j a;simp[a];omega
  have h:l=[]:=List.length_eq_zero_iff.1 gO;subst h;simp[nA]
 refine⟨rfl,⟨d,l,?_,Du k (JG w n _ _) (λa a=>by cases a;exact⟨_,_,f⟩),b,e,aaX s _ o,i⟩,JG w n _ _⟩;rw[<-g];exact aeb f _ _
def ku (a:Nat)(e:Bool)(n:V)(b:L)(c:W)(d:Struct c a)(m:Sl c n b)(q:WF b)(p:Top b)(o:b.length<=8):Calls prog 96 #[.pointer (S a),.bool e,n] c (gH c a (if e then -val b else val b)):=by
 have⟨r,s,d⟩:=d;obtain⟨i,j,rfl⟩:=alY m;have t:c.cell? (A a 0)=some r:=by rw[aI d];rfl
 have u:c.cell? (A a 1)=some s:=by rw[aI d];rfl
 have v:c.frozen? (A a 0)=false:=bA d 0;have w:c.frozen? (A a 1)=false:=bA d 1;have g:Hid (∀f,f=(e&&decide (0<b.length))->gH c a (if e then -val b else val b) (.returned (.pointer (S a))) ((c.setCell (A a 1) (.slice i b.length j)).setCell (A a 0) (.bool f))):=λf k=>aeI d m q p o f k;generalize gH c a (if e then -val b else val b)=k at *
 cases e
 .go_enter func96,ntmps96;go_wp2_with fail;exact g false rfl
 by_cases l:0<b.length
 .have f:Hid (k (.returned (.pointer (S a))) ((c.setCell (A a 1) (.slice i b.length j)).setCell (A a 0) (.bool true))):=g true (by simp[l]);go_enter func96,ntmps96;go_wp2_with fail;exact f
 have f:Hid (k (.returned (.pointer (S a))) ((c.setCell (A a 1) (.slice i b.length j)).setCell (A a 0) (.bool false))):=g false (by simp[l]);have x:decide (0<(b.length:Int))=false:=KF gO;go_enter func96,ntmps96;go_wp2_with fail;exact f
def P2:P 2=18446744073709551616:=rfl
def P8:P 8=115792089237316195423570985008687907853269984665640564039457584007913129639936:=rfl
def mW {b:Int}{a:Ending}(c:gH w' n i a u)(g:w.grownBy w' none)(h:i=b):gH w n b a u:=by have⟨d,e,f⟩:=c;subst h;exact⟨d,e,bT g f (some n) (λb a _=>by cases a) (λb a _=>a)⟩
def Ua (a:Nat)(c:Int)(f:W)(u:Struct f a)(m:-9223372036854775808<=c)(y:c<=9223372036854775807):Calls prog 98 #[.pointer (S a),I c] f (gH f a c):=by
 by_cases z:c<0
 .have d:Hid (IntKind.u64.wrap (-IntKind.u64.wrap c)=-c):=by unfold Hid;rw[IntKind.wrap_u64,IntKind.wrap_u64];omega
  go_enter func98,ntmps98;go_wp2_with fail;rw[d.out];refine(wW _ _ gO gO).mono ?_;rintro w j ⟨t,e,rfl,p,q,r,s,x,i⟩;have k:Hid (∀d b,gH j a (if true then -val e else val e) d b->gH f a c d b):=λd b m=>mW m i (by rw[s];simp);have o:=bQ u i (by simp);generalize gH f a c=v at *
  go_wp2_with fail;refine(ku a true t e j o p q r gO).mono ?_;intro l b g;have n:=k l b g;obtain⟨rfl,-⟩:=g;go_wp2_with fail;exact n
 go_enter func98,ntmps98;go_wp2_with fail;refine(wW _ _ gO gO).mono ?_;rintro w j ⟨t,e,rfl,p,q,r,s,x,i⟩;have k:Hid (∀d b,gH j a (if false then -val e else val e) d b->gH f a c d b):=λd b m=>mW m i (by rw[s];simp);have o:=bQ u i (by simp);generalize gH f a c=v at *
 go_wp2_with fail;refine(ku a false t e j o p q r gO).mono ?_;intro l b g;have n:=k l b g;obtain⟨rfl,-⟩:=g;go_wp2_with fail;exact n
def aeJ (b:W)(e:Int)(d:Ending)(c:W):Prop:=
 ∃a,d=.returned (.pointer (S a))/\b.heap.size<=a/\kD c a e/\b.grownBy c none
def iW:Obj:=.cells #[.bool false,N] 113
def dW (a:W):Struct (a.alloc iW) a.heap.size:=⟨_,_,dF _ _⟩
def ajv {a:Ending}(b:gH (w.alloc iW) w.heap.size i a w'):aeJ w i a w':=by have⟨c,d,e⟩:=b;refine⟨_,c,Q6 _,d,bT (aj w iW none) e none (λb a _=>by cases a) (λb a b=>by cases a;omega)⟩
def kN (b:Int)(a:W)(g:-9223372036854775808<=b)(i:b<=9223372036854775807):Calls prog 49 #[I b] a (aeJ a b):=by
 have e:Hid (∀d c,gH (a.alloc iW) a.heap.size b d c->aeJ a b d c):=λd c d=>ajv d;generalize aeJ a b=k at *
 go_enter func49,ntmps49;go_wp2_with fail;refine(Ua a.heap.size b (a.alloc iW) (dW a) g i).mono ?_;intro f c d;have j:=e f c d;obtain⟨rfl,-⟩:=d;go_wp2_with fail;exact j
def eP (a:Int)(b:W)(d:-9223372036854775808<=a)(e:a<=9223372036854775807):Calls prog 48 #[I a] b (aeJ b a):=by
 go_enter func48,ntmps48;go_wp2_with fail;refine(kN a b d e).mono ?_;intro j k c;have f:=c;obtain⟨i,rfl,-⟩:=c;generalize aeJ b a=g at *
 go_wp2_with fail;exact f
def Ub:(prog.info? 160).map (λa=>(a.zero,a.size,a.bytes))=some (some (.int .u32 0),1,4):=by kernel_rfl
def ag3 (a:Nat):madeCells #[.int .u32 0] a=arr (List.replicate a 0):=by
 unfold arr madeCells;apply Array.ext
 .simp
 intro d b c;simp[Nat.mod_one]
def uF (a:Int)(d:0<=a)(j:a<=10000)(b:W):(Instr.makeSlice 111 (I a) (I a)).run prog b=.ok (.slice (S b.heap.size) a.toNat a.toNat) (b.alloc (.cells (arr (List.replicate a.toNat 0)) 160)):=by have⟨i,e,f,g,h⟩:=info_parts Ub;have c:=run_make (P:=prog) b 111 160 i (.int .u32 0) underlying111 e f .i64 .i64 a a d (DC _) (by rw[h];omega) gO;rw[<-ag3];simpa [g,Value.cells] using c
def ag4 (b d:Int)(a:Nat)(k:a<=32)(g:0<=b)(l:b<2^a)(h:0<=d)(i:(2:Int)^a ∣ d)(n:d<4294967296):bits .or .u32 b d=b+d:=by
 have hp:(2:Int)^a<=4294967296:=by
  have c:(2:Nat)^a<=2^32:=WM gO k;have e:((2^a:Nat):Int)=(2:Int)^a:=by simp
  omega
 rw[u32_or b d g gO h n];obtain⟨c,rfl⟩:=i;have j:0<=c:=by
  have f:(0:Int)<2^a:=Int.pow_pos (by decide);exact Int.nonneg_of_mul_nonneg_right h f
 obtain⟨c,rfl⟩:=Int.eq_ofNat_of_zero_le j;obtain⟨b,rfl⟩:=Int.eq_ofNat_of_zero_le g;have e:((2:Int)^a*(c:Int))=((2^a*c:Nat):Int):=by simp
 rw[e,Int.toNat_natCast,Int.toNat_natCast];have m:b<2^a:=by
  have f:((2^a:Nat):Int)=(2:Int)^a:=by simp
  rw[<-f]at l;omega
 have f:=Nat.shiftLeft_add_eq_or_of_lt m c;rw[Nat.shiftLeft_eq,Nat.mul_comm c]at f;rw[Nat.or_comm,<-f];omega
def QO (b:Int)(a:Nat)(n:a<32)(g:0<=b)(e:b<4294967296):0<=b*2^a/\b*2^a<18446744073709551616/\(2:Int)^a ∣ b*2^a % 4294967296/\b*2^a / 4294967296<2^a/\b*2^a % 4294967296<=4294967296-2^a:=by
 have c:(4294967296:Int)=2^(32-a)*2^a:=by rw[<-Int.pow_add,show 32-a+a=32 by omega];rfl
 have d:(0:Int)<2^a:=Int.pow_pos (by decide);have k:(0:Int)<2^(32-a):=Int.pow_pos (by decide);have j:(2:Int)^a ∣ b*2^a % 4294967296:=by
  rw[c,V7 b,V7 (2^(32-a)),Int.mul_emod_mul_of_pos _ _ d];exact Int.dvd_mul_right _ _
 have l:(2:Int)^a<=2147483648:=by
  have e:(2:Nat)^a<=2^31:=WM gO gO;have c:((2^a:Nat):Int)=(2:Int)^a:=by simp
  omega
 have m:b*2^a<=4294967295*2^a:=WA gO gO;refine⟨ZA g gO,gO,j,?_,?_⟩
 .apply Int.ediv_lt_of_lt_mul gO;have:b*2^a<4294967296*2^a:=Int.mul_lt_mul_of_pos_right e d;rw[V7 (2^a)];omega
 have f:b*2^a % 4294967296=(b % 2^(32-a))*2^a:=by
  rw[c,V7 b,V7 (2^(32-a)),Int.mul_emod_mul_of_pos _ _ d,V7]
 rw[f];have h:b % 2^(32-a)+1<=2^(32-a):=H7 b k;have i:(b % 2^(32-a)+1)*2^a<=2^(32-a)*2^a:=WA h gO;rw[GL,<-c]at i;omega
def Uc (d:L)(a e c:Nat)(b:L):Prop:=
 b.length=d.length+a+1/\WF b/\dJ b (c+a+1)=dJ d c*2^e*P a/\aB b (c+a)<2^e/\∀d,c+a<d->aB b d=0
def aaY (a:L)(b c:Nat):Uc a b c 0 (List.replicate (a.length+b+1) 0):=by
 refine⟨by simp,wC _,?_,?_,λa _=>mQ _ _⟩
 .rw[za];simp[dJ]
 rw[mQ];exact Int.pow_pos (by decide)
def aaZ (f:L)(b c a:Nat)(d:L)(l:WF f)(u:c<32)(z:a<f.length)(r:Uc f b c a d):Uc f b c (a+1) ((d.set (a+b) (bits .or .u32 (aB d (a+b)) (aB f a*2^c % 4294967296))).set (a+b+1) (bits .or .u32 (aB d (a+b+1)) (aB f a*2^c / 4294967296))):=by
 have⟨s,i,j,t,k⟩:=r;have⟨D,E,w,x,F⟩:=QO (aB f a) c u (l a).1 (l a).2;have C:(0:Int)<2^c:=Int.pow_pos (by decide);have B:(2:Int)^c<=2147483648:=by
  have s:(2:Nat)^c<=2^31:=WM gO gO;have e:((2^c:Nat):Int)=(2:Int)^c:=by simp
  omega
 rw[ag4 _ _ c gO (i _).1 t gO w gO];rw[k (a+b+1) gO,ag4 0 _ 0 gO gO (by decide) gO (by simp) gO,Int.zero_add];generalize v:aB f a*2^c=e at *
 have G:=i (a+b);have m:(d.set (a+b) (aB d (a+b)+e % 4294967296)).length=d.length:=by simp
 have y:=xM d (a+b) (aB d (a+b)+e % 4294967296) i gO gO gO;have h:∀g,aB ((d.set (a+b) (aB d (a+b)+e % 4294967296)).set (a+b+1) (e / 4294967296)) g=if g=a+b+1 then e / 4294967296 else if g=a+b then aB d (a+b)+e % 4294967296 else aB d g:=by
  intro g;rw[mP _ _ _ _ (by rw[m];omega),mP _ _ _ _ gO]
 refine⟨by simp;omega,xM _ _ _ y (by rw[m];omega) gO gO,?_,?_,?_⟩
 .rw[show a+1+b+1=a+b+1+1 by omega,dJ,dJ,h,Q9 rfl,h,nO,Q9 rfl];rw[jT _ d (a+b) (λg d=>by rw[h,nO,nO])];rw[dJ]at j;have n:dJ f (a+1)*2^c*P b=dJ f a*2^c*P b+aB f a*P a*2^c*P b:=by rw[dJ,GL,GL]
  rw[n,<-j,xK];have o:aB f a*P a*2^c*P b=e*P (a+b):=by
   rw[<-v,V4,Int.mul_right_comm (aB f a),FP]
  rw[o];have p:e=e % 4294967296+4294967296*(e / 4294967296):=(Int.emod_add_mul_ediv e 4294967296).symm;have q:e*P (a+b)=e % 4294967296*P (a+b)+e / 4294967296*(P (a+b)*4294967296):=by
   conv=>lhs;rw[p]
   rw[GL,V7 4294967296,FP,V7 4294967296]
  rw[q,GL];omega
 .rw[show a+1+b=a+b+1 by omega,h,Q9 rfl];exact x
 intro n o;rw[h,nO,nO];exact k n gO
def Xj (D:V)(a:L)(b d:Nat)(e:W)(l:Sl e D a)(w:WF a)(X:a.length<=40)(Y:b<=40)(u:d<32):Calls prog 103 #[D,.int .u64 (32*b+d)] e (iU e (val a*2^d*P b) (a.length+b+1)):=by
 rcases l with⟨rfl,rfl⟩|⟨F,M,O,rfl,T,o,r⟩
 .have i:iU e (val []*2^d*P b) (0+b+1) (.returned N) e:=⟨_,[],rfl,sI _,vM,rA,by simp[nA],by simp,aM _ _⟩;have m:=Zd i;clear i;generalize iU e _ _=q at *
  go_enter func103,ntmps103;go_wp2_with fail;exact m
 by_cases k:a.length=0
 .have i:iU e (val a*2^d*P b) (a.length+b+1) (.returned N) e:=⟨_,[],rfl,sI _,vM,rA,by rw[List.length_eq_zero_iff.1 k];simp[nA],by simp,aM _ _⟩;have m:=Zd i;have G:((a.length:Int)==0)=true:=by simp[k]
  clear i k;generalize iU e _ _=q at *
  go_enter func103,ntmps103;go_wp2_with fail;exact m
 have n:∀g,g<a.length->e.cell? (A F g)=some (.int .u32 (aB a g)):=λg c=>by rw[aI o];exact r g c
 have R:=aO o;have G:((a.length:Int)==0)=false:=beq_eq_false_iff_ne.2 gO;have Z:(32*(b:Int)+d) / 32=b:=gO;have aa:(32*(b:Int)+d) % 32=d:=gO;have J:=λc=>uF ((a.length:Int)+b+1) gO gO c;have t:((a.length:Int)+b+1).toNat=a.length+b+1:=gO;rw[t]at J;clear t k o r;go_enter func103,ntmps103;go_wp2_with fail;go_loopw [8] (λg wr=>∃(c:Nat) (f:L),g=I c/\c<=a.length/\Hid (Uc a b d c f)/\wr=e.alloc (.cells (arr f) 160)) (λg _=>a.length-(intOf g).toNat)
 case atStart=>exact⟨0,_,rfl,QN _,aaY a b d,rfl⟩
 case round=>
  obtain⟨c,f,rfl,U,g,rfl⟩:=hrel;by_cases s:c<a.length
  .have H:=n c s;have p:=Zd<|aaZ a b d c f w u s g;have j:Hid (f.length=a.length+b+1):=g.1;have C:=oz f (c+b) (by rw[j.out];omega);have E:=oz f (c+b+1) (by rw[j.out];omega);obtain⟨z,B⟩:=w c;obtain⟨K,Q,v,x,y⟩:=QO (aB a c) d u z B;clear n v x y;go_wp2_with fail;go_roundw
   case rel=>exact⟨c+1,_,by go_num,gO,p,by rw[mG,mG]⟩
   case measure=>simp[intOf];omega
  have H:c=a.length:=gO;have x:=Zd g.2.1;have v:Hid (val f=val a*2^d*P b):=by
   obtain⟨y,z,p,-⟩:=g;unfold Hid;rw[<-nu f (c+b+1) gO,p,nu a c gO]
  have l:=Zd<|vR e f (a.length+b+1) g.1;have j:Hid (f.length=a.length+b+1):=g.1;clear n H g;go_wp2_with fail;refine(qw _ f _ l x (by rw[j.out];omega)).mono ?_;rintro Q w1 ⟨E,K,rfl,y,z,B,C,p,rfl⟩;have i:=Zs (iU e (val a*2^d*P b) (a.length+b+1) (.returned E) _) (⟨E,K,rfl,y,z,B,C.trans v,by rw[j.out]at p;exact p,aj _ _ _⟩);clear y z B C p l x v j;generalize iU e (val a*2^d*P b) (a.length+b+1)=q at *
  go_wp2_with fail;exact i
end Go.Proofs.YtmpfdogdinhhcaaGreatDoor
