/- Texts put together: Hds, Order, Grow, Tak, BigMath, Math, Ints, Arrs, LpcMath, LpcS, LevMath, VBlk, RegA, Lds, DualMath, PowMath, GainMath, SynthMath, Btr, PitchMath, MemMath, EraMath, Owns, EndMath, SynW, ConX, ConW, MemS, CodW, LpcA, Base, SynA, SynB, SynC, QuantMath, PulMath, PackMath, PlyMath. -/
import Derived.Below
import Derived.WalkKit
import Derived.OrdersHeld
import Derived.StillTail
import Derived.RegionTactic
import Derived.Deep.RegionHeld
import Derived.Test.YtbaccaipcimlhaaGreatDoorProg
import Derived.WalkSpells
import Derived.WalkLawsBesides
import Derived.RowKit3
import Derived.Laws.OwnMore
import Derived.Deep.MidRow
import Derived.Deep.CutRange
import Derived.Laws.AppendOwnNone
import Derived.Laws.CopyOwn
import Derived.BigQuiet
import Derived.Deep.QuietTactic
namespace Go.Proofs.YtbaccaipcimlhaaGreatDoor
open Go.RowKit
open Tryz
set_option linter.unusedSimpArgs false
set_option linter.unusedVariables false
set_option maxHeartbeats 1000000
set_option maxRecDepth 100000
theorem Zd {p:Prop}(h:p):Hid p:=h
theorem Zs (p:Prop)(h:p):Hid p:=h
theorem gA {p:Prop}(h:p:=by omega):p:=h
theorem sZ:(∀(a:Act) (d:Tmp) (v:Value),a.put (some d) v={ a with tmps:=a.tmps.setIfInBounds d v })∧(∀(a:Act) (v:Value),a.put none v=a)∧(∀(l:List Value) (i:Nat) (a:Value),l.toArray.setIfInBounds i a=(l.set i a).toArray)∧(∀(a b:Value) (l:List Value),(a::l).set 0 b=b::l)∧(∀(a b:Value) (l:List Value) (n:Nat),(a::l).set (n+1) b=a::l.set n b)∧(∀(xs:List Value) (i:Nat) (h:i<xs.toArray.size),xs.toArray[i]=xs[i]'(by simpa using h))∧(∀(a:Value) (l:List Value) (h:0<(a::l).length),(a::l)[0]=a)∧(∀(a:Value) (l:List Value) (i:Nat) (h:i+1<(a::l).length),(a::l)[i+1]=l[i]'(by simpa using h))∧(∀(l:List Bool) (i:Nat) (a:Bool),l.toArray.setIfInBounds i a=(l.set i a).toArray)∧(∀(a b:Bool) (l:List Bool),(a::l).set 0 b=b::l)∧(∀(a b:Bool) (l:List Bool) (n:Nat),(a::l).set (n+1) b=a::l.set n b)∧(∀(xs:List Oper) (i:Nat) (h:i<xs.toArray.size),xs.toArray[i]=xs[i]'(by simpa using h))∧(∀(a:Oper) (l:List Oper) (h:0<(a::l).length),(a::l)[0]=a)∧(∀(a:Oper) (l:List Oper) (i:Nat) (h:i+1<(a::l).length),(a::l)[i+1]=l[i]'(by simpa using h)):=
 ⟨fun _ _ _=>rfl,fun _ _=>rfl,fun _ _ _=>List.setIfInBounds_toArray ..,fun _ _ _=>List.set_cons_zero ..,fun _ _ _ _=>List.set_cons_succ ..,fun _ _ _=>List.getElem_toArray ..,fun _ _ _=>List.getElem_cons_zero ..,fun _ _ _ _=>List.getElem_cons_succ ..,fun _ _ _=>List.setIfInBounds_toArray ..,fun _ _ _=>List.set_cons_zero ..,fun _ _ _ _=>List.set_cons_succ ..,fun _ _ _=>List.getElem_toArray ..,fun _ _ _=>List.getElem_cons_zero ..,fun _ _ _ _=>List.getElem_cons_succ ..⟩
section
variable {P:Program} {ops:Array Oper} {Q:Exit→Act→World→Prop} {md:Region.Mode} {S:World→Prop} {g:Nat}
def Closed (md:Region.Mode)(ops:Array Oper)(listed:Array Bool):Prop:=
 ∀j oj,ops[j]?=some oj→listed.getD j false=true→∀e∈oj.after,Region.binds md e=true→listed.getD e.on false=true
theorem Le {listed:Array Bool}{i j:Nat}(h:(listed.setIfInBounds i true).getD j false=true):j=i∨listed.getD j false=true:=by
 by_cases hij:i=j
 ·exact Or.inl hij.symm
 rw[getD_set_ne false hij]at h;exact Or.inr h
theorem Closed.set {listed:Array Bool}{i:Nat}(h:Closed md ops listed)(hi:i∈Region.ready md ops listed):Closed md ops (listed.setIfInBounds i true):=by
 intro j oj hj hl e he hb
 apply getD_set_true
 rcases Le hl with rfl|hl
 ·obtain⟨_,o,ho,hall⟩:=mem_ready.1 hi
  rw[hj]at ho;cases ho
  exact hall e he hb
 exact h j oj hj hl e he hb
theorem Closed.zero (n:Nat):Closed md ops (Array.replicate n false):=fun j oj _ hl=>by rw[getD_replicate_false]at hl;cases hl
def anc (md:Region.Mode)(ops:Array Oper)(i:Nat):Nat→Nat→Bool
 | 0,_=>false
 | f+1,j=>Region.waitsFor md ops j i||(List.range ops.size).any fun n=>Region.waitsFor md ops j n&&anc md ops i f n
theorem Pf {i:Nat}{listed:Array Bool}(hc:Closed md ops listed)(hi:listed.getD i false=false):∀(f j:Nat),anc md ops i f j=true→listed.getD j false=false∧j∉Region.ready md ops listed
 | 0,j,h=>by cases h
 | f+1,j,h=>by
  have key:∀n,Region.waitsFor md ops j n=true→listed.getD n false=false→listed.getD j false=false∧j∉Region.ready md ops listed:=by
   intro n hw hn
   obtain⟨oj,hj,e,he,hb,hon⟩:=Region.waitsFor_spec hw
   refine⟨?_,?_⟩
   ·cases hl:listed.getD j false
    ·rfl
    have:=hc j oj hj hl e he hb;rw[hon,hn]at this;cases this
   intro hr
   obtain⟨_,o,ho,hall⟩:=mem_ready.1 hr
   rw[hj]at ho;cases ho
   have:=hall e he hb;rw[hon,hn]at this;cases this
  simp only[anc,Bool.or_eq_true,List.any_eq_true,List.mem_range,Bool.and_eq_true]at h
  rcases h with h|⟨n,_,h1,h2⟩
  ·exact key i h hi
  exact key n h1 (Pf hc hi f n h2).1
def jD (P:Program)(md:Region.Mode)(ops:Array Oper)(Q:Exit→Act→World→Prop)(S:World→Prop)(g:Nat):Nat→Array Bool→Act→World→Prop
 | 0,listed,a,w=>Region.ready md ops listed=[]∧Q .normal a w
 | fuel+1,listed,a,w=>
  (Region.ready md ops listed=[]→Q .normal a w)∧
  ∀i∈Region.ready md ops listed,wpOp P ops Q i (fun a' w'=>((listed.setIfInBounds i true).getD g false=false→S w')∧jD P md ops Q S g fuel (listed.setIfInBounds i true) a' w') a w
theorem D_:∀(fuel:Nat) (listed:Array Bool) (a:Act) (w:World),jD P md ops Q S g fuel listed a w→wpAny P md ops Q fuel listed a w
 | 0,_,_,_,h=>h
 | fuel+1,_,_,_,h=>⟨h.1,fun i hi=>wpOp_mono (fun a' w' h'=>D_ fuel _ a' w' h'.2) (h.2 i hi)⟩
theorem bI:∀(fuel:Nat) (listed:Array Bool) (a:Act) (w:World),listed.getD g false=true→wpAny P md ops Q fuel listed a w→jD P md ops Q S g fuel listed a w
 | 0,_,_,_,_,h=>h
 | fuel+1,listed,_,_,hg,h=>⟨h.1,fun i hi=>wpOp_mono (fun a' w' h'=>⟨fun e=>(by rw[getD_set_true hg]at e;cases e),bI fuel _ a' w' (getD_set_true hg) h'⟩) (h.2 i hi)⟩
def Alone (md:Region.Mode)(ops:Array Oper)(i:Nat)(oi:Oper)(listed:Array Bool):Prop:=
 ∀j oj,ops[j]?=some oj→j≠i→listed.getD j true=false→(∀e∈oj.after,Region.binds md e=true→e.on≠i)→oi.apart ops oj=true
theorem Alone.more {i j:Nat}{oi:Oper}{listed:Array Bool}(h:Alone md ops i oi listed):Alone md ops i oi (listed.setIfInBounds j true):=by
 intro k ok hk hki hun
 have hl:listed.getD k true=false:=by
  rcases Nat.decEq j k with hjk|rfl
  ·rwa [getD_set_ne true hjk]at hun
  rcases Nat.lt_or_ge j listed.size with hs|hs
  ·simp[hs]at hun
  simp[hs]at hun
 exact h k ok hk hki hl
theorem Ea {i j:Nat}{oj:Oper}{listed:Array Bool}(Zz:listed.getD i false=false)(hj:j∈Region.ready md ops listed)(hoj:ops[j]?=some oj):∀e∈oj.after,Region.binds md e=true→e.on≠i:=by
 obtain⟨_,o,ho,hall⟩:=mem_ready.1 hj
 obtain rfl:o=oj:=Option.some.inj (ho.symm.trans hoj)
 rintro e he hb rfl
 exact Bool.noConfusion (Zz.symm.trans (hall e he hb))
theorem Lf {i f:Nat}{oi:Oper}{v:Value}(hi:ops[i]?=some oi)(hsel:∀(j:Nat) (o:Oper) cs b,ops[j]?=some o→o.op≠.select cs b)
 (hQ:∀c a w,Q (.panic c) (a.put oi.dst v) w→Q (.panic c) a w) (akX:anc md ops i f g=true) (hgi:g≠i) (fuel:Nat) :
 ∀(listed:Array Bool) (a:Act) (w:World),Closed md ops listed→Alone md ops i oi listed→
  i∈Region.ready md ops listed→YieldsIf P ops S oi v a→S w→
  jD P md ops Q S g fuel (listed.setIfInBounds i true) (a.put oi.dst v) w→jD P md ops Q S g (fuel+1) listed a w:=by
 induction fuel with
 | zero=>
  intro listed a w _ _ hr hy hS H
  constructor
  ·intro h0;rw[h0]at hr;cases hr
  intro j hj
  rcases Nat.decEq j i with hji|rfl
  ·have hnone:=ready_mono hj hji
   rw[H.1]at hnone;cases hnone
  exact hy.wpOp hi hS ⟨fun _=>hS,H⟩
 | succ fuel ih=>
  intro listed a w aK hal hr hy hS H
  have Zz:=getD_both (mem_ready.1 hr).1
  obtain⟨akY,hgr⟩:=Pf aK Zz f g akX
  constructor
  ·intro h0;rw[h0]at hr;cases hr
  intro j hj
  rcases Nat.decEq j i with hji|rfl
  ·obtain⟨hjun,oj,hoj,-⟩:=mem_ready.1 hj
   have hjg:j≠g:=by rintro rfl;exact hgr hj
   have hgl:((listed.setIfInBounds i true).setIfInBounds j true).getD g false=false:=by
    rw[getD_set_ne false hjg,getD_set_ne false (Ne.symm hgi)];exact akY
   have step:=wpOp_putIf hoj (hal j oj hoj hji hjun (Ea Zz hj hoj)) (fun cs b=>hsel i oi cs b hi) (fun cs b=>hsel j oj cs b hoj) hQ hy (H.2 j (ready_mono hj hji))
   refine wpOp_mono (fun a' w' k=>?_) step
   obtain⟨ky,ks,kw⟩:=k
   rw[Array.setIfInBounds_comm _ _ (Ne.symm hji)]at kw
   exact⟨fun _=>ks hgl,ih _ a' w' (aK.set hj) hal.more (ready_mono hr (Ne.symm hji)) ky (ks hgl) kw⟩
  exact hy.wpOp hi hS ⟨fun _=>hS,H⟩
theorem vM {i:Nat}{oi:Oper}{v:Value}{fuel:Nat}{listed:Array Bool}{a:Act}{w:World}(hi:ops[i]?=some oi)
 (hst:(Region.noSelect ops&&Region.free md ops listed i&&(Region.ready md ops listed).contains i&&anc md ops i ops.size g&&g != i)=true)
 (aK:Closed md ops listed)
 (hQ:∀c a w,Q (.panic c) (a.put oi.dst v) w→Q (.panic c) a w) (hy:YieldsIf P ops S oi v a) (hS:S w)
 (h:Closed md ops (listed.setIfInBounds i true)→jD P md ops Q S g fuel (listed.setIfInBounds i true) (a.put oi.dst v) w):jD P md ops Q S g (fuel+1) listed a w:=by
 simp only[Bool.and_eq_true,bne_iff_ne]at hst
 obtain⟨⟨⟨⟨h1,h2⟩,h3⟩,h4⟩,h5⟩:=hst
 have h3':i∈Region.ready md ops listed:=by simpa using h3
 exact Lf hi (Region.noSelect_spec h1) hQ h4 h5 fuel listed a w aK (Region.free_spec hi h2) h3' hy hS (h (aK.set h3'))
theorem Pg {i:Nat}{o:Oper}{fuel:Nat}{listed:Array Bool}{a:Act}{w:World}(ho:ops[i]?=some o)(hr:Region.ready md ops listed=[i])(aK:Closed md ops listed)
 (h:∀K':Act→World→Prop,Shut (∀a w,((listed.setIfInBounds i true).getD g false=false→S w)→(Closed md ops (listed.setIfInBounds i true)→jD P md ops Q S g fuel (listed.setIfInBounds i true) a w)→K' a w)→if Region.wanted o (yielded ops a.tmps)=true then Oper.wp P o a w K' Q else K' (a.put o.dst undef) w) :
 jD P md ops Q S g (fuel+1) listed a w:=by
 refine⟨fun h0=>(by rw[hr]at h0;cases h0),fun j hj=>?_⟩
 rw[hr]at hj
 have:j=i:=by simpa using hj
 subst this
 exact wpOp_step ho (fun K' hK=>h K' (fun a w hS hW=>hK a w ⟨hS,hW (aK.set (by rw[hr];simp))⟩))
theorem b_ {id:Nat}{a:Act}{w:World}(g:Nat)(S:World→Prop)(n:Nat)(hn:ops.size=n)(L:Array Bool)(hL:Array.replicate n false=L)(hm:P.follows .mixedOrders=true)(h:Closed .any ops L→jD P .any ops Q S g n L a w.drew):(Code.region id ops true).wp P Q a w:=by
 subst hn hL
 exact wp_region_any hm (D_ _ _ _ _ (h (Closed.zero _)))
end
theorem aN {w:World}{b:Nat}{o:Obj}(h:w.heap[b]?=some o):b<w.heap.size:=by
 by_cases hb:b<w.heap.size
 ·exact hb
 rw[Array.getElem?_eq_none gA]at h;cases h
theorem aI {w:World}{b:Nat}{cs:Array Value}{t:TypeId}{f:Nat×Nat}(h:w.heap[b]?=some (.cells cs t f))(i:Nat):w.cell? ⟨b,i,none⟩=cs[i]?:=by
 simp[World.cell?,h]
theorem aT {w:World}{b:Nat}{cs:Array Value}{t:TypeId}(h:w.heap[b]?=some (.cells cs t (0,0)))(i:Nat):w.frozen? ⟨b,i,none⟩=false:=by
 simp[World.frozen?,h]
theorem aQ (w:World)(r:Option Nat):w.grownBy w r:=⟨rfl,rfl,rfl,Nat.le_refl _,fun _ _ _=>rfl⟩
theorem ak (w:World)(o:Obj)(r:Option Nat):w.grownBy (w.alloc o) r:=⟨rfl,rfl,rfl,by simp,fun k hk _=>Below.heap_alloc _ _ _ hk⟩
theorem dB {a b c:World}{r s:Option Nat}(h:a.grownBy b r)(k:b.grownBy c s)(t:Option Nat)(hr:∀i,r=some i→i<a.heap.size→t=some i)(hs:∀i,s=some i→i<a.heap.size→t=some i):a.grownBy c t:=
 ⟨k.os.trans h.os,k.tape.trans h.tape,k.output.trans h.output,Nat.le_trans h.size k.size,fun i hi ht=>by
  rw[k.block i (Nat.lt_of_lt_of_le hi h.size) (fun e=>ht ((hs i e.symm hi).symm)),h.block i hi (fun e=>ht ((hr i e.symm hi).symm))]⟩
theorem aB {a b c:World}(h:a.grownBy b none)(k:b.grownBy c none):a.grownBy c none:=dB h k none (fun i e=>by cases e) (fun i e=>by cases e)
theorem aF (w:World)(a:Addr)(v:Value):w.grownBy (w.setCell a v) (some a.block):=⟨rfl,rfl,rfl,by simp[World.setCell],fun k _ h=>Below.heap_setCell _ _ _ _ (fun e=>h (by rw[e]))⟩
theorem bW {a b:World}{r:Option Nat}(h:a.grownBy b r):a.grownBy b.drew r:=⟨h.os,h.tape,h.output,h.size,h.block⟩
theorem cK (w:World)(o:Obj):(w.alloc o).heap[w.heap.size]?=some o:=by
 show(w.heap.push o)[w.heap.size]?=_
 simp
theorem ZF {w:World}{b:Nat}{x y:Value}{t:TypeId}(h:w.heap[b]?=some (.cells #[x,y] t (0,0)))(v u:Value) :
 ((w.setCell ⟨b,1,none⟩ v).setCell ⟨b,0,none⟩ u).heap[b]?=some (.cells #[u,v] t (0,0)):=by
 simp only[World.setCell,Array.getElem?_modify,h]
 simp
theorem Eb (w:World)(b:Nat)(u v:Value):w.grownBy ((w.setCell ⟨b,1,none⟩ v).setCell ⟨b,0,none⟩ u) (some b):=
 dB (aF w ⟨b,1,none⟩ v) (aF _ ⟨b,0,none⟩ u) (some b) (fun i e _=>e) (fun i e _=>e)
theorem aG {a b c:World}{i:Nat}(h:a.grownBy b none)(k:b.grownBy c (some i))(hi:a.heap.size≤i):a.grownBy c none:=
 dB h k none (fun i e _=>by cases e) (fun j e hj=>by cases e;omega)
theorem Ec {w w':World}(h:w.grownBy w' none):Below w.heap.size w w':=⟨h.os,h.tape,h.output,h.size,fun k hk=>h.block k hk (by simp)⟩
theorem kH {w w':World}{o:Obj}(h:(w.alloc o).grownBy w' none):w'.heap[w.heap.size]?=some o:=by rw[h.block _ (aN (cK w _)) (by simp)];exact cK w _
theorem dR (w:World)(n:Nat)(r:Option Nat):w.grownBy (w.drewN n) r:=⟨rfl,rfl,rfl,Nat.le_refl _,fun _ _ _=>rfl⟩
theorem bA {w w':World}(h:w.grownBy w' none){a:Addr}{v:Value}(hc:w.cell? a=some v):w'.cell? a=some v:=by
 have hb:a.block<w.heap.size:=by
  rcases Nat.lt_or_ge a.block w.heap.size with g|g
  ·exact g
  unfold World.cell? at hc
  rw[Array.getElem?_eq_none g]at hc
  simp at hc
 rw[World.cell?_of_block (w:=w) (h.block a.block hb (by simp))];exact hc
theorem sL {α:Type}:(∀(l:List α) (i:Nat) (a:α),l.toArray.setIfInBounds i a=(l.set i a).toArray)∧(∀(a b:α) (l:List α),(a::l).set 0 b=b::l)∧(∀(a b:α) (l:List α) (n:Nat),(a::l).set (n+1) b=a::l.set n b)∧(∀(xs:List α) (i:Nat) (h:i<xs.toArray.size),xs.toArray[i]=xs[i]'(by simpa using h))∧(∀(a:α) (l:List α) (h:0<(a::l).length),(a::l)[0]=a)∧(∀(a:α) (l:List α) (i:Nat) (h:i+1<(a::l).length),(a::l)[i+1]=l[i]'(by simpa using h)):=
 ⟨fun _ _ _=>List.setIfInBounds_toArray ..,fun _ _ _=>List.set_cons_zero ..,fun _ _ _ _=>List.set_cons_succ ..,fun _ _ _=>List.getElem_toArray ..,fun _ _ _=>List.getElem_cons_zero ..,fun _ _ _ _=>List.getElem_cons_succ ..⟩
section
variable {P:Program} {ops:Array Oper} {Q:Exit→Act→World→Prop} {md:Region.Mode} {S:World→Prop} {g:Nat}
theorem bV (i:Nat){oi:Oper}{v:Value}{fuel:Nat}{listed L:Array Bool}{a a':Act}{w:World}(hS:S w)(h:wpAnyH P md ops Q S fuel L a' w)(hi:ops[i]?=some oi:=by rfl)
 (hst:(Region.noSelect ops&&Region.free md ops listed i&&(Region.ready md ops listed).contains i)=true:=by kernel_rfl)
 (hw:Region.wanted oi (yielded ops a.tmps)=true:=by rfl)
 (hy:∀w',S w'→(execOp a.eval oi).run P w'=.ok (.value v) w':=by intro w' bL;go_simp;try with_reducible rfl)
 (hL:listed.setIfInBounds i true=L:=by(try simp only[sL])<;>exact rfl) (ha:a.put oi.dst v=a':=by(try simp only[Act.put,sL])<;>exact rfl)
 (hQ:∀c a w,Q (.panic c) (a.put oi.dst v) w→Q (.panic c) a w:=by exact fun _ _ _ h=>h):wpAnyH P md ops Q S (fuel+1) listed a w:=by
 subst hL ha
 simp only[Bool.and_eq_true]at hst
 exact wpAnyH_take hi hst.1.1 hst.1.2 hst.2 hQ (.inl ⟨hw,hy⟩) hS h
theorem jq (i:Nat){oi:Oper}{v:Value}{fuel:Nat}{listed L:Array Bool}{a a':Act}{w:World}(hS:S w)(aK:Closed md ops listed)(h:Closed md ops L→jD P md ops Q S g fuel L a' w)(hi:ops[i]?=some oi:=by rfl)
 (hst:(Region.noSelect ops&&Region.free md ops listed i&&(Region.ready md ops listed).contains i&&anc md ops i ops.size g&&g != i)=true:=by kernel_rfl)
 (hw:Region.wanted oi (yielded ops a.tmps)=true:=by rfl)
 (hy:∀w',S w'→(execOp a.eval oi).run P w'=.ok (.value v) w':=by intro w' bL;go_simp;try with_reducible rfl)
 (hL:listed.setIfInBounds i true=L:=by(try simp only[sL])<;>exact rfl) (ha:a.put oi.dst v=a':=by(try simp only[Act.put,sL])<;>exact rfl)
 (hQ:∀c a w,Q (.panic c) (a.put oi.dst v) w→Q (.panic c) a w:=by exact fun _ _ _ h=>h):jD P md ops Q S g (fuel+1) listed a w:=by
 subst hL ha
 exact vM hi hst aK hQ (.inl ⟨hw,hy⟩) hS h
theorem sF (i:Nat){oi:Oper}{v:Value}{fuel:Nat}{listed L:Array Bool}{a a':Act}{w:World}(hS:S w)(h:wpAnyH P md ops Q S fuel L a' w)(hi:ops[i]?=some oi:=by rfl)
 (hst:(Region.noSelect ops&&Region.free md ops listed i&&(Region.ready md ops listed).contains i)=true:=by kernel_rfl)
 (hw:Region.wanted oi (yielded ops a.tmps)=true:=by rfl)
 (hy:∀w',S w'→(execOp a.eval oi).run P w'=.ok (.value v) w':=by intro w' bL;(try dsimp only at bL);go_simp;try with_reducible rfl)
 (hL:listed.setIfInBounds i true=L:=by(try simp only[sL])<;>exact rfl) (ha:a.put oi.dst v=a':=by(try simp only[Act.put,sL])<;>exact rfl)
 (hQ:∀c a w,Q (.panic c) (a.put oi.dst v) w→Q (.panic c) a w:=by exact fun _ _ _ h=>h):wpAnyH P md ops Q S (fuel+1) listed a w:=by
 subst hL ha
 simp only[Bool.and_eq_true]at hst
 exact wpAnyH_take hi hst.1.1 hst.1.2 hst.2 hQ (.inl ⟨hw,hy⟩) hS h
theorem bF (i:Nat){oi:Oper}{v:Value}{fuel:Nat}{listed L:Array Bool}{a a':Act}{w:World}(hS:S w)(aK:Closed md ops listed)(h:Closed md ops L→jD P md ops Q S g fuel L a' w)(hi:ops[i]?=some oi:=by rfl)
 (hst:(Region.noSelect ops&&Region.free md ops listed i&&(Region.ready md ops listed).contains i&&anc md ops i ops.size g&&g != i)=true:=by kernel_rfl)
 (hw:Region.wanted oi (yielded ops a.tmps)=true:=by rfl)
 (hy:∀w',S w'→(execOp a.eval oi).run P w'=.ok (.value v) w':=by intro w' bL;(try dsimp only at bL);go_simp;try with_reducible rfl)
 (hL:listed.setIfInBounds i true=L:=by(try simp only[sL])<;>exact rfl) (ha:a.put oi.dst v=a':=by(try simp only[Act.put,sL])<;>exact rfl)
 (hQ:∀c a w,Q (.panic c) (a.put oi.dst v) w→Q (.panic c) a w:=by exact fun _ _ _ h=>h):jD P md ops Q S g (fuel+1) listed a w:=by
 subst hL ha
 exact vM hi hst aK hQ (.inl ⟨hw,hy⟩) hS h
theorem ng (i:Nat){oi:Oper}{v:Value}{fuel:Nat}{listed L:Array Bool}{a a':Act}{w:World}(hS:S w)(h:wpAnyH P md ops Q S fuel L a' w)(hi:ops[i]?=some oi:=by rfl)
 (hst:(Region.noSelect ops&&Region.free md ops listed i&&(Region.ready md ops listed).contains i)=true:=by kernel_rfl)
 (hw:Region.wanted oi (yielded ops a.tmps)=true:=by rfl)
 (hy:∀w',S w'→(execOp a.eval oi).run P w'=.ok (.value v) w':=by intro w' bL;subst bL;go_simp;try with_reducible rfl)
 (hL:listed.setIfInBounds i true=L:=by(try simp only[sL])<;>exact rfl) (ha:a.put oi.dst v=a':=by(try simp only[Act.put,sL])<;>exact rfl)
 (hQ:∀c a w,Q (.panic c) (a.put oi.dst v) w→Q (.panic c) a w:=by exact fun _ _ _ h=>h):wpAnyH P md ops Q S (fuel+1) listed a w:=by
 subst hL ha
 simp only[Bool.and_eq_true]at hst
 exact wpAnyH_take hi hst.1.1 hst.1.2 hst.2 hQ (.inl ⟨hw,hy⟩) hS h
theorem eF (i:Nat){oi:Oper}{v:Value}{fuel:Nat}{listed L:Array Bool}{a a':Act}{w:World}(hS:S w)(aK:Closed md ops listed)(h:Closed md ops L→jD P md ops Q S g fuel L a' w)(hi:ops[i]?=some oi:=by rfl)
 (hst:(Region.noSelect ops&&Region.free md ops listed i&&(Region.ready md ops listed).contains i&&anc md ops i ops.size g&&g != i)=true:=by kernel_rfl)
 (hw:Region.wanted oi (yielded ops a.tmps)=true:=by rfl)
 (hy:∀w',S w'→(execOp a.eval oi).run P w'=.ok (.value v) w':=by intro w' bL;subst bL;go_simp;try with_reducible rfl)
 (hL:listed.setIfInBounds i true=L:=by(try simp only[sL])<;>exact rfl) (ha:a.put oi.dst v=a':=by(try simp only[Act.put,sL])<;>exact rfl)
 (hQ:∀c a w,Q (.panic c) (a.put oi.dst v) w→Q (.panic c) a w:=by exact fun _ _ _ h=>h):jD P md ops Q S g (fuel+1) listed a w:=by
 subst hL ha
 exact vM hi hst aK hQ (.inl ⟨hw,hy⟩) hS h
theorem fI (i:Nat){o:Oper}{fuel:Nat}{listed:Array Bool}{a:Act}{w:World}(hi:∀K':Act→World→Prop,Shut (∀a w,S w→(S w→wpAnyH P md ops Q S fuel (listed.setIfInBounds i true) a w)→K' a w)→if Region.wanted o (yielded ops a.tmps)=true then Oper.wp P o a w K' Q else K' (a.put o.dst undef) w)(hr:Region.ready md ops listed=[i]:=by kernel_rfl)(ei:ops[i]?=some o:=by rfl):wpAnyH P md ops Q S (fuel+1) listed a w:=wpAnyH_ready hr (by simp) (AllReadyH.cons ei hi AllReadyH.nil)
theorem oL (i j:Nat){o p:Oper}{fuel:Nat}{listed:Array Bool}{a:Act}{w:World}(hi:∀K':Act→World→Prop,Shut (∀a w,S w→(S w→wpAnyH P md ops Q S fuel (listed.setIfInBounds i true) a w)→K' a w)→if Region.wanted o (yielded ops a.tmps)=true then Oper.wp P o a w K' Q else K' (a.put o.dst undef) w)(hj:∀K':Act→World→Prop,Shut (∀a w,S w→(S w→wpAnyH P md ops Q S fuel (listed.setIfInBounds j true) a w)→K' a w)→if Region.wanted p (yielded ops a.tmps)=true then Oper.wp P p a w K' Q else K' (a.put p.dst undef) w)(hr:Region.ready md ops listed=[i,j]:=by kernel_rfl)(ei:ops[i]?=some o:=by rfl)(ej:ops[j]?=some p:=by rfl):wpAnyH P md ops Q S (fuel+1) listed a w:=wpAnyH_ready hr (by simp) (AllReadyH.cons ei hi (AllReadyH.cons ej hj AllReadyH.nil))
theorem aiB (i j k:Nat){o p q:Oper}{fuel:Nat}{listed:Array Bool}{a:Act}{w:World}(hi:∀K':Act→World→Prop,Shut (∀a w,S w→(S w→wpAnyH P md ops Q S fuel (listed.setIfInBounds i true) a w)→K' a w)→if Region.wanted o (yielded ops a.tmps)=true then Oper.wp P o a w K' Q else K' (a.put o.dst undef) w)(hj:∀K':Act→World→Prop,Shut (∀a w,S w→(S w→wpAnyH P md ops Q S fuel (listed.setIfInBounds j true) a w)→K' a w)→if Region.wanted p (yielded ops a.tmps)=true then Oper.wp P p a w K' Q else K' (a.put p.dst undef) w)(hk:∀K':Act→World→Prop,Shut (∀a w,S w→(S w→wpAnyH P md ops Q S fuel (listed.setIfInBounds k true) a w)→K' a w)→if Region.wanted q (yielded ops a.tmps)=true then Oper.wp P q a w K' Q else K' (a.put q.dst undef) w)(hr:Region.ready md ops listed=[i,j,k]:=by kernel_rfl)(ei:ops[i]?=some o:=by rfl)(ej:ops[j]?=some p:=by rfl)(ek:ops[k]?=some q:=by rfl):wpAnyH P md ops Q S (fuel+1) listed a w:=wpAnyH_ready hr (by simp) (AllReadyH.cons ei hi (AllReadyH.cons ej hj (AllReadyH.cons ek hk AllReadyH.nil)))
theorem lM {fuel:Nat}{listed:Array Bool}{a:Act}{w:World}(h:Q .normal a w)(hr:Region.ready md ops listed=[]:=by kernel_rfl):wpAnyH P md ops Q S fuel listed a w:=wpAnyH_done hr h fuel
theorem xP {fuel:Nat}{listed:Array Bool}{a:Act}{w:World}(h:Q .normal a w)(hr:Region.ready md ops listed=[]:=by kernel_rfl):wpAny P md ops Q fuel listed a w:=wpAny_done hr h fuel
theorem kT (i:Nat){o:Oper}{fuel:Nat}{listed:Array Bool}{a:Act}{w:World}(aK:Closed md ops listed)(h:∀K':Act→World→Prop,Shut (∀a w,((listed.setIfInBounds i true).getD g false=false→S w)→(Closed md ops (listed.setIfInBounds i true)→jD P md ops Q S g fuel (listed.setIfInBounds i true) a w)→K' a w)→if Region.wanted o (yielded ops a.tmps)=true then Oper.wp P o a w K' Q else K' (a.put o.dst undef) w)(hr:Region.ready md ops listed=[i]:=by kernel_rfl)(ho:ops[i]?=some o:=by rfl):jD P md ops Q S g (fuel+1) listed a w:=Pg ho hr aK h
end
def aC (l:List Int)(i:Nat):Int:=l.getD i 0
def P (k:Nat):Int:=4294967296^k
theorem yC:P 0=1:=rfl
theorem uG (k:Nat):P (k+1)=P k*4294967296:=Int.pow_succ _ _
theorem nD (k:Nat):0<P k:=Int.pow_pos (by decide)
theorem Ph (j k:Nat):P (j+k)=P j*P k:=Int.pow_add _ _ _
def cZ (l:List Int):Nat→Int
 | 0=>0
 | k+1=>cZ l k+aC l k*P k
def val (l:List Int):Int:=cZ l l.length
def WF (l:List Int):Prop:=∀i,0≤aC l i∧aC l i<4294967296
def Top (l:List Int):Prop:=l=[]∨aC l (l.length-1)≠0
theorem dO (l:List Int)(k:Nat)(h:l.length≤k):aC l k=0:=by simp[aC,List.getD,List.getElem?_eq_none h]
theorem lD (l:List Int)(k:Nat)(h:l.length≤k):cZ l k=val l:=by
 obtain⟨d,rfl⟩:∃d,k=l.length+d:=⟨k-l.length,gA⟩
 induction d with
 | zero=>rfl
 | succ d ih=>
  rw[←Nat.add_assoc,cZ,ih gA,dO l _ gA];omega
theorem iY (l m:List Int)(k:Nat)(h:∀i,i<k→aC l i=aC m i):cZ l k=cZ m k:=by
 induction k with
 | zero=>rfl
 | succ k ih=>rw[cZ,cZ,ih (fun i hi=>h i gA),h k gA]
theorem oM (l:List Int)(h:WF l)(k:Nat):0≤cZ l k∧cZ l k<P k:=by
 induction k with
 | zero=>exact⟨Int.le_refl _,(by decide:(0:Int)<1)⟩
 | succ k ih=>
  obtain⟨h1,h2⟩:=h k
  rw[cZ,uG]
  have hp:=nD k
  have e1:0≤aC l k*P k:=Int.mul_nonneg h1 gA
  have e2:aC l k*P k≤4294967295*P k:=Int.mul_le_mul_of_nonneg_right gA gA
  generalize aC l k*P k=z at *
  omega
theorem pI (l:List Int)(h:WF l):0≤val l∧val l<P l.length:=oM l h _
theorem uH (j k:Nat)(h:j≤k):P j≤P k:=by
 obtain⟨d,rfl⟩:∃d,k=j+d:=⟨k-j,gA⟩
 induction d with
 | zero=>exact Int.le_refl _
 | succ d ih=>rw[←Nat.add_assoc,uG];have:=nD (j+d);have:=ih gA;omega
theorem Lg (l:List Int)(h:WF l)(ht:Top l)(h0:l≠[]):P (l.length-1)≤val l:=by
 rcases ht with ht|ht
 ·exact absurd ht h0
 have hl:0<l.length:=List.length_pos_iff.2 h0
 unfold val
 obtain⟨k,hk⟩:∃k,l.length=k+1:=⟨l.length-1,gA⟩
 rw[hk,Nat.add_sub_cancel]at ht
 rw[hk,cZ,Nat.add_sub_cancel]
 have:=(oM l h k).1
 have h1:=h k
 have e:1*P k≤aC l k*P k:=Int.mul_le_mul_of_nonneg_right gA (by have:=nD k;omega)
 omega
theorem Ed (l:List Int)(h:WF l)(ht:Top l)(n:Nat)(hv:val l<P n):l.length≤n:=by
 by_cases h0:l=[]
 ·subst h0;simp
 have:=Lg l h ht h0
 by_cases hn:l.length≤n
 ·exact hn
 have:=uH n (l.length-1) gA;omega
theorem mh:val []=0:=rfl
theorem wT (l:List Int)(k i:Nat):aC (l.take k) i=if i<k then aC l i else 0:=by
 simp only[aC,List.getD,List.getElem?_take];split<;>simp
theorem ZG (l:List Int)(h:WF l)(k:Nat)(hk:k≤l.length)(hz:∀i,k≤i→i<l.length→aC l i=0)(ht:k=0∨aC l (k-1)≠0) :
 WF (l.take k)∧Top (l.take k)∧val (l.take k)=val l∧(l.take k).length=k:=by
 have hl:(l.take k).length=k:=by rw[List.length_take];omega
 refine⟨fun i=>?_,?_,?_,hl⟩
 ·rw[wT];have:=h i;split<;>omega
 ·rcases ht with ht|ht
  ·left;subst ht;rfl
  by_cases h0:k=0
  ·left;subst h0;rfl
  right;rw[hl,wT,if_pos gA];exact ht
 have e1:val (l.take k)=cZ l k:=by
  unfold val;rw[hl]
  exact iY _ _ _ (fun i hi=>by rw[wT,if_pos hi])
 rw[e1]
 have:∀d,k+d≤l.length→cZ l (k+d)=cZ l k:=by
  intro d
  induction d with
  | zero=>intro _;rfl
  | succ d ih=>intro hd;rw[←Nat.add_assoc,cZ,ih gA,hz (k+d) gA gA];omega
 have:=this (l.length-k) gA
 rw[show k+(l.length-k)=l.length by omega]at this
 exact this.symm
theorem kU (l:List Int)(k i:Nat)(v:Int)(hk:k<l.length):aC (l.set k v) i=if i=k then v else aC l i:=by
 simp only[aC,List.getD,List.getElem?_set]
 by_cases h:k=i
 ·subst h;simp[hk]
 have h':¬i=k:=fun e=>h e.symm
 simp[h,h']
theorem uI (l:List Int)(k:Nat)(v:Int)(h:WF l)(hk:k<l.length)(h1:0≤v)(h2:v<4294967296):WF (l.set k v):=by
 intro i;rw[kU l k i v hk];have:=h i;split<;>omega
theorem tq (n:Nat):WF (List.replicate n 0):=by
 intro i;simp only[aC,List.getD,List.getElem?_replicate];split<;>simp
theorem kV (n i:Nat):aC (List.replicate n (0:Int)) i=0:=by
 simp only[aC,List.getD,List.getElem?_replicate];split<;>simp
theorem vN (n k:Nat):cZ (List.replicate n 0) k=0:=by
 induction k with
 | zero=>rfl
 | succ k ih=>rw[cZ,ih,kV];omega
theorem uJ:WF []:=fun i=>by simp[aC]
theorem qb:Top []:=Or.inl rfl
theorem WF2 (a b:Int)(h1:0≤a)(h2:a<4294967296)(h3:0≤b)(h4:b<4294967296):WF [a,b]:=by
 intro i
 match i with
 | 0=>exact⟨h1,h2⟩
 | 1=>exact⟨h3,h4⟩
 | i+2=>simp[aC]
theorem akZ (a b:Int):val [a,b]=a+b*4294967296:=by
 show 0+a*P 0+b*P 1=_
 have:P 1=4294967296:=rfl
 rw[this,yC];omega
theorem Pj (a b:List Int)(ha:WF a)(hb:WF b)(n k:Nat)(hk:k<n)(hs:∀i,k<i→i<n→aC a i=aC b i)(hlt:aC a k<aC b k):cZ a n<cZ b n:=by
 obtain⟨d,rfl⟩:∃d,n=k+1+d:=⟨n-(k+1),gA⟩
 clear hk
 induction d with
 | zero=>
  show cZ a k+_<cZ b k+_
  have h1:=oM a ha k
  have h2:=oM b hb k
  have e:(aC a k+1)*P k≤aC b k*P k:=Int.mul_le_mul_of_nonneg_right gA (by have:=nD k;omega)
  rw[Int.add_mul]at e
  omega
 | succ d ih=>
  rw[←Nat.add_assoc,cZ,cZ]
  have:=ih (fun i h1 h2=>hs i h1 gA)
  rw[hs (k+1+d) gA gA]
  omega
theorem abG (a b:List Int)(n:Nat)(hs:∀i,i<n→aC a i=aC b i):cZ a n=cZ b n:=iY a b n hs
theorem Av (a b:List Int)(ha:WF a)(hb:WF b)(ht:Top b)(h:a.length<b.length):val a<val b:=by
 have h1:=(pI a ha).2
 have h2:=Lg b hb ht (by intro e;subst e;simp at h)
 have:=uH a.length (b.length-1) gA
 omega
def Bits (z:Int)(n:Nat):Prop:=z<2^n∧(z=0→n=0)∧(0<z→1≤n∧2^(n-1)≤z)
def eU (x:Int):Int:=if x < -32768 then -32768 else if 32767<x then 32767 else x
def o16 (x:Int):Bool:=eU x != x
def aiC (v n:Int):Int:=v % n
theorem kK (x:Int):-32768≤eU x∧eU x≤32767:=by unfold eU;split<;>(try split)<;>omega
theorem Ee (x:Int)(h:-32768≤x)(h':x≤32767):eU x=x:=by unfold eU;split<;>(try split)<;>omega
theorem ahh (x:Int):(if 32767<(if x < -32768 then -32768 else x)then 32767 else(if x < -32768 then -32768 else x))=eU x:=by
 unfold eU;split<;>split<;>(try split)<;>omega
theorem qK (a b:Int)(h1:-32768≤a)(h2:a≤32767)(h3:-32768≤b)(h4:b≤32767):-1073709056≤a*b∧a*b≤1073741824:=by
 have e1:0≤(32767-a)*(b+32768):=Int.mul_nonneg gA gA
 have e2:0≤(a+32768)*(32767-b):=Int.mul_nonneg gA gA
 have e3:0≤(a+32768)*(b+32768):=Int.mul_nonneg gA gA
 have e4:0≤(32767-a)*(32767-b):=Int.mul_nonneg gA gA
 simp only[Int.sub_mul,Int.add_mul,Int.mul_add,Int.mul_sub]at e1 e2 e3 e4
 omega
theorem Dn (n:Int)(h:-9223372036854775808≤n)(h':n≤9223372036854775807):wrap64 n=n:=by unfold wrap64;omega
theorem ahi (a:Int)(n:Nat)(lo hi:Int)(hlo:lo≤0)(hhi:0≤hi)(h1:lo≤a)(h2:a≤hi):lo≤a / 2^n∧a / 2^n≤hi:=by
 have hp:(0:Int)<2^n:=Int.pow_pos (by decide)
 refine⟨?_,?_⟩
 ·rw[Int.le_ediv_iff_mul_le hp]
  have hq:(1:Int)≤2^n:=hp
  have e:0≤(0-lo)*(2^n-1):=Int.mul_nonneg gA gA
  simp only[Int.sub_mul,Int.mul_sub]at e
  omega
 exact Int.le_trans (Int.ediv_le_ediv hp h2) (Int.ediv_le_self _ hhi)
def aS (w:World)(v:Value)(l:List Int):Prop:=
 ∃(ad:Option Addr) (c:Nat),v=.slice ad l.length c∧l.length≤c∧(0<l.length→∃a,ad=some a∧∀i,i<l.length→w.cell? (a.add i)=some (.int .i64 (aC l i)))
def aL (l:List Int):Bool:=l.all fun x=>decide (-32768≤x)&&decide (x≤32767)
theorem aV (l:List Int):aL l=true↔∀i,i<l.length→-32768≤aC l i∧aC l i≤32767:=by
 unfold aL
 rw[List.all_eq_true]
 constructor
 ·intro h i hi
  have:=h l[i] (List.getElem_mem hi)
  simp only[Bool.and_eq_true,decide_eq_true_eq]at this
  simpa [aC,List.getD,hi] using this
 intro h x hx
 obtain⟨i,hi,rfl⟩:=List.getElem_of_mem hx
 have:=h i hi
 simp only[aC,List.getD,List.getElem?_eq_getElem hi,Option.getD_some]at this
 simp[this]
def aD (l:List Int):Array Value:=(l.map (Value.int .i64)).toArray
theorem lU (l:List Int)(i:Nat)(h:i<l.length):(aD l)[i]?=some (.int .i64 (aC l i)):=by
 simp[aD,aC,List.getD,h]
theorem vO (l:List Int)(k:Nat)(v:Int):(aD l).setIfInBounds k (.int .i64 v)=aD (l.set k v):=by
 simp[aD,List.map_set]
theorem nE:(prog.info? 3).map (fun i=>(i.zero,i.size,i.bytes))=some (some (.int .i64 0),1,8):=by kernel_rfl
theorem J5 (n:Nat):madeCells #[.int .i64 0] n=aD (List.replicate n 0):=by
 unfold aD madeCells
 apply Array.ext
 ·simp
 intro i h1 h2
 simp[Nat.mod_one]
theorem Ef (z:Int)(h0:0≤z)(h1:z≤35184372088832)(u:World) :
 (Instr.makeSlice 32 (.int .i64 z) (.int .i64 z)).run prog u=.ok (.slice (some ⟨u.heap.size,0,none⟩) z.toNat z.toNat) (u.alloc (.cells (aD (List.replicate z.toNat 0)) 3)):=by
 obtain⟨i0,hi,hz0,hz1,hz2⟩:=info_parts nE
 have h:=run_make (P:=prog) u 32 3 i0 (.int .i64 0) underlying32 hi hz0 .i64 .i64 z z h0 (Int.le_refl _) (by rw[hz2];omega) gA
 rw[←J5]
 simpa [hz1,Value.cells] using h
theorem aP {w w':World}{v:Value}{l:List Int}(h:aS w v l)(g:w.grownBy w' none):aS w' v l:=by
 obtain⟨ad,c,rfl,hc,bH⟩:=h
 refine⟨ad,c,rfl,hc,fun h=>?_⟩
 obtain⟨a,rfl,hv⟩:=bH h
 exact⟨a,rfl,fun i hi=>bA g (hv i hi)⟩
def Lists (w:World)(l:List Int)(e:Ending)(w':World):Prop:=∃v',e=.returned v'∧w'.ownsRow w.heap.size 3 1 v' l.length (l.map (Value.int .i64))∧w.grownBy w' none
theorem Lh {w:World}{base:Nat}{v:Value}{l:List Int}(h:w.ownsRow base 3 1 v l.length (l.map (Value.int .i64))):aS w v l:=by
 obtain⟨h1,h2⟩:=h
 rcases h2 with⟨h2,h3⟩|⟨g,cap,cur,h2,_,h4,h5,_,h7,h8⟩
 ·exact⟨none,0,by rw[h2,h3],gA,fun h=>gA⟩
 refine⟨some ⟨g,0,none⟩,cap,h2,h5,fun _=>⟨_,rfl,fun i hi=>?_⟩⟩
 have e:(cur.toList.take (l.length*1))[i]?=(l.map (Value.int .i64))[i]?:=by rw[h8]
 rw[List.getElem?_take,if_pos gA,Array.getElem?_toList]at e
 have ea:(⟨g,0,none⟩:Addr).add i=⟨g,i,none⟩:=by unfold Addr.add;split<;>simp_all
 rw[ea,aI h4,e]
 simp[aC,List.getD,hi]
theorem heap_setCell {w:World}{b k:Nat}{cs:Array Value}{t:TypeId}(h:w.heap[b]?=some (.cells cs t (0,0)))(v:Value) :
 (w.setCell ⟨b,k,none⟩ v).heap[b]?=some (.cells (cs.setIfInBounds k v) t (0,0)):=by
 simp only[World.setCell,Array.getElem?_modify,h]
 simp
theorem gL {w:World}{b:Nat}{cs:Array Value}{t:TypeId}(h:w.heap[b]?=some (.cells cs t (0,0)))(o:Nat)(p q:Int)(h1:cs[o]?=some (.int .i64 p))(h2:cs[o+1]?=some (.int .i64 q)):aS w (.slice (some ⟨b,o,none⟩) 2 2) [p,q]:=by
 refine⟨some ⟨b,o,none⟩,2,rfl,Nat.le_refl _,fun _=>⟨_,rfl,fun i hi=>?_⟩⟩
 have ea:(⟨b,o,none⟩:Addr).add i=⟨b,o+i,none⟩:=by unfold Addr.add;split<;>simp_all
 rw[ea,aI h]
 match i,hi with
 | 0,_=>exact h1
 | 1,_=>exact h2
def hiS (x0 x1 x2 y1 y2:Int):Int:=eU ((3798*(x0-2*x1+x2)+7807*y1-3733*y2+2048) / 4096)
def j5 (xs:List Int)(ys0:List Int):Nat→List Int
 | 0=>ys0
 | i+1=>j5 xs ys0 i++[hiS (aC xs (i+2)) (aC xs (i+1)) (aC xs i) (aC (j5 xs ys0 i) (i+1)) (aC (j5 xs ys0 i) i)]
theorem rO (xs:List Int)(y0 y1:Int):∀k,(j5 xs [y1,y0] k).length=k+2
 | 0=>rfl
 | k+1=>by
  show(j5 xs [y1,y0] k++[_]).length=_
  rw[List.length_append,rO xs y0 y1 k];rfl
theorem Pk (x0 x1:Int)(l:List Int)(hx:aL [x0,x1]=true)(hr:aL l=true)(j:Nat):-32768≤aC ([x1,x0]++l) j∧aC ([x1,x0]++l) j≤32767:=by
 have h0:=(aV _).1 hx 0 (by simp)
 have h1:=(aV _).1 hx 1 (by simp)
 match j with
 | 0=>exact h1
 | 1=>exact h0
 | j+2=>
  show -32768≤aC l j∧aC l j≤32767
  by_cases hj:j<l.length
  ·exact(aV _).1 hr j hj
  rw[dO l j gA];omega
theorem za (xs:List Int)(y0 y1:Int)(hy:aL [y0,y1]=true):∀k j,-32768≤aC (j5 xs [y1,y0] k) j∧aC (j5 xs [y1,y0] k) j≤32767
 | 0,j=>by
  have h0:=(aV _).1 hy 0 (by simp)
  have h1:=(aV _).1 hy 1 (by simp)
  match j with
  | 0=>exact h1
  | 1=>exact h0
  | j+2=>show -32768≤aC [] j∧aC [] j≤32767;rw[dO [] j (by simp)];omega
 | k+1,j=>by
  have ih:=za xs y0 y1 hy k
  have hlen:=rO xs y0 y1 k
  show -32768≤aC (j5 xs [y1,y0] k++[_]) j∧aC (j5 xs [y1,y0] k++[_]) j≤32767
  generalize hv:hiS (aC xs (k+2)) (aC xs (k+1)) (aC xs k) (aC (j5 xs [y1,y0] k) (k+1)) (aC (j5 xs [y1,y0] k) k)=v
  have qc:-32768≤v∧v≤32767:=by rw[←hv];exact kK _
  generalize j5 xs [y1,y0] k=L at *
  rcases Nat.lt_trichotomy j L.length with h|h|h
  ·have:aC (L++[v]) j=aC L j:=by simp[aC,List.getD,List.getElem?_append,h]
   rw[this];exact ih j
  ·have:aC (L++[v]) j=v:=by subst h;simp[aC,List.getD]
   rw[this];exact qc
  rw[dO _ j (by simp;omega)];omega
theorem fH (n:Int)(h0:-9223372036854775808≤n)(h1:n≤9223372036854775807):IntKind.i64.wrap n=n:=by
 show(if(true&&decide (n % 18446744073709551616≥9223372036854775808))=true then n % 18446744073709551616-18446744073709551616 else n % 18446744073709551616)=n
 split
 ·rename_i hh
  simp at hh
  omega
 rename_i hh
 simp at hh
 omega
def jv (l:List Int):Prop:=∀i,-9223372036854775808≤aC l i∧aC l i≤9223372036854775807
def bO (w:World)(b:Nat)(T:TypeId)(rs:List Int):Prop:=w.heap[b]?=some (.cells (aD rs) T (0,0))
theorem bO.cell {w:World}{b:Nat}{T:TypeId}{rs:List Int}(h:bO w b T rs)(i:Nat)(hi:i<rs.length):w.cell? ⟨b,i,none⟩=some (.int .i64 (aC rs i)):=(aI h i).trans (lU rs i hi)
theorem bO.free {w:World}{b:Nat}{T:TypeId}{rs:List Int}(h:bO w b T rs)(i:Nat):w.frozen? ⟨b,i,none⟩=false:=aT h i
theorem bO.lt {w:World}{b:Nat}{T:TypeId}{rs:List Int}(h:bO w b T rs):b<w.heap.size:=aN h
theorem bO.aH {w w':World}{b:Nat}{T:TypeId}{rs:List Int}(h:bO w b T rs)(g:w.grownBy w' none):bO w' b T rs:=(g.block _ (aN h) (by simp)).trans h
theorem bO.aJ {w w':World}{b:Nat}{T:TypeId}{rs:List Int}{r:Nat}(h:bO w b T rs)(g:w.grownBy w' (some r))(hr:b≠r):bO w' b T rs:=(g.block _ (aN h) (by simpa using hr)).trans h
theorem bO.new (w:World)(T:TypeId)(rs:List Int):bO (w.alloc (.cells (aD rs) T)) w.heap.size T rs:=cK w _
theorem bO.new1 (w:World)(o:Obj)(T:TypeId)(rs:List Int):bO ((w.alloc o).alloc (.cells (aD rs) T)) (w.heap.size+1) T rs:=by simpa using bO.new (w.alloc o) T rs
theorem bO.set {w:World}{b:Nat}{T:TypeId}{rs:List Int}(h:bO w b T rs)(k:Nat)(z:Int):bO (w.setCell ⟨b,k,none⟩ (.int .i64 z)) b T (rs.set k z):=by
 unfold bO
 rw[heap_setCell h,vO]
theorem bO.range {w:World}{b:Nat}{T:TypeId}{rs:List Int}(h:bO w b T rs):w.rangeAt b 0 (rs.map (Value.int .i64)):=fun j v hv=>by
 rw[Nat.zero_add,aI h]
 simpa [aD] using hv
theorem bO.there {w:World}{b:Nat}{T:TypeId}{rs:List Int}(h:bO w b T rs):w.there b 0 rs.length:=fun j hj=>by
 rw[Nat.zero_add]
 exact⟨by rw[h.cell j hj];rfl,h.free j⟩
theorem abH {w:World}{b:Nat}{T:TypeId}{rs:List Int}(h:bO w b T rs)(d:TypeDesc)(hu:prog.underlying T=some d)(hd:d.isRow=true)(hi:(prog.info? T).map (·.size)=some rs.length) :
 Sem.run prog (Instr.loadAt T (.pointer (some ⟨b,0,none⟩))) w=.ok (.agg (aD rs)) w:=
 run_loadAt_mid w b 0 T (rs.map (Value.int .i64)) d h.range hu hd (by simpa using hi)
theorem Pm {w:World}{b:Nat}{T:TypeId}{rs:List Int}(h:bO w b T rs)(d:TypeDesc)(hu:prog.underlying T=some d)(hd:d.isRow=true)(hi:(prog.info? T).map (·.size)=some rs.length) :
 Sem.run prog (loadVar T ⟨b,0,none⟩) w=.ok (.agg (aD rs)) w:=
 run_loadVar_mid w b 0 T (rs.map (Value.int .i64)) d h.range hu hd (by simpa using hi)
def bT (w:World)(b:Nat)(rs:List Int):World:=w.setCells b 0 (rs.map (Value.int .i64))
theorem J6 (rs:List Int):(aD rs).all (·.oneCell')=true:=by
 apply all_oneCell_toArray
 intro v hv
 obtain⟨x,_,rfl⟩:=List.mem_map.1 hv
 rfl
theorem xX (b:Nat)(T:TypeId):∀(vs:List Value) (o:Nat) (w:World) (cs:Array Value),w.heap[b]?=some (.cells cs T (0,0))→o+vs.length≤cs.size→
 ∃cs',(w.setCells b o vs).heap[b]?=some (.cells cs' T (0,0))∧cs'.size=cs.size∧(∀i,i<o→cs'[i]?=cs[i]?)∧(∀i,i<vs.length→cs'[o+i]?=vs[i]?)∧w.grownBy (w.setCells b o vs) (some b)
 | [],o,w,cs,h,_=>⟨cs,h,rfl,fun _ _=>rfl,fun i hi=>by simp at hi,aQ w _⟩
 | v::vs,o,w,cs,h,hl=>by
  simp only[List.length_cons]at hl
  have h1:=heap_setCell (k:=o) h v
  obtain⟨cs',c1,c2,c3,c4,c5⟩:=xX b T vs (o+1) (w.setCell ⟨b,o,none⟩ v) (cs.setIfInBounds o v) h1 (by simp;omega)
  refine⟨cs',c1,by simpa using c2,fun i hi=>?_,fun i hi=>?_,dB (aF w ⟨b,o,none⟩ v) c5 (some b) (fun i e _=>e) (fun i e _=>e)⟩
  ·rw[c3 i gA]
   simp[Array.getElem?_setIfInBounds,show ¬o=i by omega]
  match i,hi with
  | 0,_=>
   rw[Nat.add_zero,c3 o gA]
   simp[Array.getElem?_setIfInBounds,show o<cs.size by omega]
  | i+1,hi=>
   have:=c4 i (by simp at hi;omega)
   rw[show o+(i+1)=o+1+i by omega,this]
   simp
theorem bB {w:World}{b:Nat}{T:TypeId}{rs rs':List Int}(h:bO w b T rs)(hl:rs'.length=rs.length):bO (bT w b rs') b T rs'∧w.grownBy (bT w b rs') (some b):=by
 obtain⟨cs',c1,c2,_,c4,c5⟩:=xX b T (rs'.map (Value.int .i64)) 0 w (aD rs) h (by simp[aD,hl])
 refine⟨?_,c5⟩
 unfold bO bT
 rw[c1]
 have:cs'=aD rs':=by
  apply Array.ext_getElem?
  intro i
  by_cases hi:i<rs'.length
  ·have:=c4 i (by simpa using hi)
   rw[Nat.zero_add]at this
   rw[this];simp[aD]
  rw[Array.getElem?_eq_none (by rw[c2];simp[aD];omega),Array.getElem?_eq_none (by simp[aD];omega)]
 rw[this]
theorem CU {ops:Array Oper}{rest:List Oper}{op:Oper}{a:Act}{w:World}{Q:Exit→Act→World→Prop}(hgd:op.guard=none)(T:TypeId)(x:Operand)(ho:op.op=.load T x)
 (b:Nat) (hx:a.eval x=.pointer (some ⟨b,0,none⟩)) (rs:List Int) (h:bO w b T rs) (d:TypeDesc) (hu:prog.underlying T=some d) (hd:d.isRow=true) (hi:(prog.info? T).map (·.size)=some rs.length)
 (k:wpList prog ops Q rest (a.put op.dst (.agg (aD rs))) w):wpList prog ops Q (op::rest) a w:=
 wpList_load_mid hgd T x ho b 0 hx (rs.map (Value.int .i64)) d h.range hu hd (by simpa using hi) k
theorem og {ops:Array Oper}{rest:List Oper}{op:Oper}{a:Act}{w:World}{Q:Exit→Act→World→Prop}(hgd:op.guard=none)(T:TypeId)(x y:Operand)(ho:op.op=.store T x y)
 (b:Nat) (rs rs':List Int) (hx:a.eval x=.pointer (some ⟨b,0,none⟩)) (hy:a.eval y=.agg (aD rs')) (h:bO w b T rs) (hl:rs'.length=rs.length) (hi:(prog.info? T).map (·.size)=some rs.length)
 (k:wpList prog ops Q rest (a.put op.dst undef) (bT w b rs')):wpList prog ops Q (op::rest) a w:=
 wpList_store_mid hgd T x y ho b 0 (aD rs') hx hy (by rw[show(aD rs').size=rs.length by simp[aD,hl]];exact h.there) (by simpa [aD,hl] using hi) (J6 rs') (by simpa [bT,aD] using k)
def ay (n:Nat):List Int:=List.replicate n 0
theorem au (n:Nat):(ay n).length=n:=by simp[ay]
theorem iZ (n i:Nat):aC (ay n) i=0:=by simp[ay,aC,List.getD,List.getElem?_replicate];split<;>rfl
theorem gM {T:TypeId}{n:Nat}(hz:(prog.info? T).bind (·.zero)=some (.agg (aD (ay n))))(w:World):Sem.run prog (zeroValue T) w=.ok (.agg (aD (ay n))) w:=by
 cases hq:prog.info? T with
 | none=>simp[hq]at hz
 | some i=>
  have hi:i.zero=some (.agg (aD (ay n))):=by simpa [hq] using hz
  simp[zeroValue,typeInfo,hq,hi]
theorem fQ {T:TypeId}{n:Nat}(rs:List Int)(hu:prog.underlying T=some (.array n 3))(k:Nat)(hk:k<rs.length)(hn:rs.length=n)(w:World):Sem.run prog (Instr.index T (.agg (aD rs)) (.int .i64 k)) w=.ok (.int .i64 (aC rs k)) w:=by
 have hg:=lU rs k hk
 have hb:(0:Int)≤k∧(k:Int)<n:=gA
 obtain⟨i0,hi,hz0,hz1,hz2⟩:=info_parts nE
 simp[Instr.index,run_underlying hu,asIntOf,hb,go_sem,sizeOf,typeInfo,hi,hz1,part,isAgg,run_underlying underlying3,hg]
 intro h;omega
theorem abI (rs:List Int)(k:Nat)(hk:k<rs.length)(w:World):Sem.run prog (part 3 (aD rs) k) w=.ok (.int .i64 (aC rs k)) w:=by
 have hg:=lU rs k hk
 simp[part,isAgg,run_underlying underlying3,hg]
theorem Aw {T:TypeId}{n:Nat}(rs:List Int)(hu:prog.underlying T=some (.array n 3))(hn:rs.length=n)(d:Nat)(w:World):Sem.run prog (Op.equalIn (d+1+1) T (.agg (aD rs)) (.agg (aD rs))) w=.ok true w:=by
 obtain⟨i0,hi,hz0,hz1,hz2⟩:=info_parts nE
 have hE:∀a u,Sem.run prog (Op.equalIn (d+1) 3 (.int .i64 a) (.int .i64 a)) u=.ok true u:=fun a u=>by
  rw[run_equalIn_int u d 3 .i64 .i64 a a underlying3];simp
 have hL:∀L:List Nat,(∀i∈L,i<n)→∀u,Sem.run prog (forIn (m:=Sem) L ((none:Option Bool),PUnit.unit) fun i _=>do
  if(!(←Op.equalIn (d+1) 3 (←part 3 (aD rs) (i*1)) (←part 3 (aD rs) (i*1))))=true then pure (ForInStep.done (some false,PUnit.unit))else pure (ForInStep.yield (none,PUnit.unit))) u=.ok (none,PUnit.unit) u:=by
  intro L
  induction L with
  | nil=>intro _ u;simp
  | cons i L ih=>
   intro h u
   have hp:=abI rs i (by have:=h i (List.mem_cons_self ..);omega)
   simp only[List.forIn_cons,Sem.run_bind,Nat.mul_one,hp,Result.andThen_ok,hE,Bool.not_true,Bool.false_eq_true,if_false,Sem.run_pure]
   exact(by simpa using ih (fun j hj=>h j (List.mem_cons_of_mem _ hj)) u)
 rw[Op.equalIn]
 simp only[Sem.run_bind,run_underlying hu,Result.andThen_ok,sizeOf,typeInfo,run_program,hi,Sem.run_pure,hz1]
 rw[Std.Legacy.Range.forIn_eq_forIn_range']
 have:=hL (List.range' [:n].start [:n].size [:n].step) (fun i hi=>by simp[Std.Legacy.Range.size]at hi;omega) w
 rw[this]
 rfl
theorem fZ (n:Nat)(h1:n≤35184372088832)(u:World) :
 (Instr.makeSlice 32 (.int .i64 n) (.int .i64 n)).run prog u=.ok (.slice (some ⟨u.heap.size,0,none⟩) n n) (u.alloc (.cells (aD (ay n)) 3)):=by
 have:=Ef n gA gA u
 simpa [ay] using this
theorem dL (w:World)(T:TypeId)(n:Nat)(L:List Int)(hL:L.length=n):bO (w.alloc (.cells (aD (ay n)) T)) w.heap.size T (ay n)∧bO (bT (w.alloc (.cells (aD (ay n)) T)) w.heap.size L) w.heap.size T L∧w.grownBy (bT (w.alloc (.cells (aD (ay n)) T)) w.heap.size L) none:=by
 have hB:=bO.new w T (ay n)
 have PU:=bB (rs':=L) hB (by rw[hL,au])
 exact⟨hB,PU.1,aG (ak _ _ none) PU.2 (Nat.le_refl _)⟩
theorem eZ {ops:Array Oper}{rest:List Oper}{op:Oper}{a:Act}{w:World}{Q:Exit→Act→World→Prop}(hgd:Region.wanted op (yielded ops a.tmps)=true)(T:TypeId)(x:Operand)(ho:op.op=.load T x)
 (b:Nat) (hx:a.eval x=.pointer (some ⟨b,0,none⟩)) (rs:List Int) (h:bO w b T rs) (d:TypeDesc) (hu:prog.underlying T=some d) (hd:d.isRow=true) (hi:(prog.info? T).map (·.size)=some rs.length)
 (k:wpList prog ops Q rest (a.put op.dst (.agg (aD rs))) w):wpList prog ops Q (op::rest) a w:=by
 refine wpList_step fun K hK=>?_
 rw[if_pos hgd]
 exact wp_load_mid T x ho b 0 hx (rs.map (Value.int .i64)) d h.range hu hd (by simpa using hi) (hK _ _ k)
def bN (k:List Int):Bool:=k.all fun q=>decide (-32768<q)&&decide (q<32768)
theorem Dp (l:List Int)(p:Int→Bool):l.all p=true↔∀i,i<l.length→p (aC l i)=true:=by
 rw[List.all_eq_true]
 constructor
 ·intro h i hi
  have:=h l[i] (List.getElem_mem hi)
  simpa [aC,List.getD,hi] using this
 intro h x hx
 obtain⟨i,hi,rfl⟩:=List.getElem_of_mem hx
 have:=h i hi
 simpa [aC,List.getD,hi] using this
theorem gQ (k:List Int):bN k=true↔∀i,i<k.length→-32768<aC k i∧aC k i<32768:=by
 unfold bN
 rw[Dp]
 simp
theorem UC {k:List Int}(i:Nat)(hi:i<k.length)(h:¬(-32768<aC k i∧aC k i<32768)):bN k=false:=by
 rcases hb:bN k with _|_
 ·rfl
 exact absurd ((gQ k).1 hb i hi) h
def CV (a b:List Int)(num:Int)(i:Nat):Int:=(aC a i*(4-num)+aC b i*num).tdiv 4
def Pn (a b:List Int)(num:Int):Bool:=decide (0≤num)&&decide (num≤4)&&bN a&&bN b
def nG (a b:List Int)(num:Int):List Int:=if Pn a b num=true then(List.range 8).map (CV a b num)else ay 8
def ze (a b:List Int)(num:Int):Int:=if Pn a b num=true then 0 else 2
theorem tu (a b:List Int)(num:Int):(nG a b num).length=8:=by unfold nG;split<;>simp[ay]
def jh (n:Nat)(f:Nat→Int)(k:Nat)(rs:List Int):Prop:=rs.length=n∧∀j,j<k→aC rs j=f j
theorem eP {n:Nat}{f:Nat→Int}{k:Nat}{rs:List Int}(h:jh n f k rs)(hk:k<n):jh n f (k+1) (rs.set k (f k)):=by
 obtain⟨h1,h2⟩:=h
 refine⟨by simpa using h1,fun j hj=>?_⟩
 by_cases e:j=k
 ·subst e
  simp[aC,List.getD,h1,hk]
 have:=h2 j gA
 simpa [aC,List.getD,List.getElem?_set,Ne.symm e] using this
theorem fB {n:Nat}{f:Nat→Int}{rs:List Int}(h:jh n f n rs):rs=(List.range n).map f:=by
 apply List.ext_getElem
 ·simp[h.1]
 intro i h1 h2
 have:=h.2 i (by have:=h.1;omega)
 simpa [aC,List.getD,h1] using this
theorem gZ (n:Nat)(f:Nat→Int):jh n f 0 (ay n):=⟨au n,fun j hj=>gA⟩
theorem dz:(prog.info? 58).map (·.size)=some 9:=by kernel_rfl
theorem aW:(prog.info? 26).map (·.size)=some 8:=by kernel_rfl
theorem J7:aD (ay 9)=#[.int .i64 0,.int .i64 0,.int .i64 0,.int .i64 0,.int .i64 0,.int .i64 0,.int .i64 0,.int .i64 0,.int .i64 0]:=rfl
theorem rF:aD (ay 8)=#[.int .i64 0,.int .i64 0,.int .i64 0,.int .i64 0,.int .i64 0,.int .i64 0,.int .i64 0,.int .i64 0]:=rfl
theorem ahj (u:World):Sem.run prog (Instr.build 58 #[]) u=.ok (.agg (aD (ay 9))) u:=run_build u 58 #[] (aD (ay 9)) (by kernel_rfl)
theorem nH (u:World):Sem.run prog (Instr.build 26 #[]) u=.ok (.agg (aD (ay 8))) u:=run_build u 26 #[] (aD (ay 8)) (by kernel_rfl)
def rG (w:World)(L:List Int)(en:Int)(e:Ending)(w':World):Prop:=e=.returned (.tuple #[.agg (aD L),.int .i64 en])∧w.grownBy w' none
theorem mW (w:World)(T1 T2 T3:TypeId)(a b c:List Int):bO (((w.alloc (.cells (aD a) T1)).alloc (.cells (aD b) T2)).alloc (.cells (aD c) T3)) w.heap.size T1 a∧bO (((w.alloc (.cells (aD a) T1)).alloc (.cells (aD b) T2)).alloc (.cells (aD c) T3)) (w.heap.size+1) T2 b∧bO (((w.alloc (.cells (aD a) T1)).alloc (.cells (aD b) T2)).alloc (.cells (aD c) T3)) (w.heap.size+1+1) T3 c∧w.grownBy (((w.alloc (.cells (aD a) T1)).alloc (.cells (aD b) T2)).alloc (.cells (aD c) T3)) none:=by
 have g:=ak ((w.alloc (.cells (aD a) T1)).alloc (.cells (aD b) T2)) (.cells (aD c) T3) none
 refine⟨((bO.new w T1 a).aH (ak _ _ none)).aH g,(bO.new1 w _ T2 b).aH g,?_,aB (aB (ak _ _ none) (ak _ _ none)) g⟩
 simpa using bO.new ((w.alloc (.cells (aD a) T1)).alloc (.cells (aD b) T2)) T3 c
theorem nI (w:World)(T1 T2:TypeId)(a b:List Int):bO ((w.alloc (.cells (aD a) T1)).alloc (.cells (aD b) T2)) w.heap.size T1 a∧bO ((w.alloc (.cells (aD a) T1)).alloc (.cells (aD b) T2)) (w.heap.size+1) T2 b∧w.grownBy ((w.alloc (.cells (aD a) T1)).alloc (.cells (aD b) T2)) none:=
 ⟨(bO.new w T1 a).aH (ak _ _ none),bO.new1 w _ T2 b,aB (ak _ _ none) (ak _ _ none)⟩
def iD (w wr:World)(T1 T2:TypeId)(a b:List Int):Prop:=bO wr w.heap.size T1 a∧bO wr (w.heap.size+1) T2 b∧w.grownBy wr none
def g_ (w wr:World)(T1 T2 T3:TypeId)(a b c:List Int):Prop:=bO wr w.heap.size T1 a∧bO wr (w.heap.size+1) T2 b∧bO wr (w.heap.size+1+1) T3 c∧w.grownBy wr none
theorem iD.aH {w wr wr':World}{T1 T2:TypeId}{a b:List Int}(h:iD w wr T1 T2 a b)(g:wr.grownBy wr' none):iD w wr' T1 T2 a b:=⟨h.1.aH g,h.2.1.aH g,aB h.2.2 g⟩
theorem g_.aH {w wr wr':World}{T1 T2 T3:TypeId}{a b c:List Int}(h:g_ w wr T1 T2 T3 a b c)(g:wr.grownBy wr' none):g_ w wr' T1 T2 T3 a b c:=⟨h.1.aH g,h.2.1.aH g,h.2.2.1.aH g,aB h.2.2.2 g⟩
theorem iD.set {w wr:World}{T1 T2:TypeId}{a b:List Int}(h:iD w wr T1 T2 a b)(k:Nat)(z:Int):iD w (wr.setCell ⟨w.heap.size,k,none⟩ (.int .i64 z)) T1 T2 (a.set k z) b:=
 ⟨h.1.set k z,h.2.1.aJ (aF _ ⟨w.heap.size,k,none⟩ _) (by simp),aG h.2.2 (aF _ ⟨w.heap.size,k,none⟩ _) (by simp)⟩
theorem g_.set {w wr:World}{T1 T2 T3:TypeId}{a b c:List Int}(h:g_ w wr T1 T2 T3 a b c)(k:Nat)(z:Int):g_ w (wr.setCell ⟨w.heap.size,k,none⟩ (.int .i64 z)) T1 T2 T3 (a.set k z) b c:=
 ⟨h.1.set k z,h.2.1.aJ (aF _ ⟨w.heap.size,k,none⟩ _) (by simp),h.2.2.1.aJ (aF _ ⟨w.heap.size,k,none⟩ _) (by simp;omega),aG h.2.2.2 (aF _ ⟨w.heap.size,k,none⟩ _) (by simp)⟩
theorem g_.Li {w wr:World}{T1 T2 T3:TypeId}{a b c:List Int}(h:g_ w wr T1 T2 T3 a b c)(k:Nat)(z:Int):g_ w (wr.setCell ⟨w.heap.size+1+1,k,none⟩ (.int .i64 z)) T1 T2 T3 a b (c.set k z):=
 ⟨h.1.aJ (aF _ ⟨w.heap.size+1+1,k,none⟩ _) (by simp;omega),h.2.1.aJ (aF _ ⟨w.heap.size+1+1,k,none⟩ _) (by simp),h.2.2.1.set k z,aG h.2.2.2 (aF _ ⟨w.heap.size+1+1,k,none⟩ _) (by simp;omega)⟩
def fM (n:Nat)(p:Nat→Int):List Int:=(List.range n).map p
theorem bQ (n:Nat)(p:Nat→Int):(fM n p).length=n:=by simp[fM]
theorem dN (n:Nat)(p:Nat→Int)(i:Nat)(h:i<n):aC (fM n p) i=p i:=by simp[fM,aC,List.getD,h]
theorem dJ {n:Nat}{p:Nat→Int}{l:List Int}(h1:l.length=n)(h2:∀i,i<n→aC l i=p i):l=fM n p:=fB (n:=n) ⟨h1,h2⟩
theorem X9 (n:Nat)(p:Nat→Int)(k:Nat)(z:Int)(hk:k<n):(fM n p).set k z=fM n (fun i=>if i=k then z else p i):=by
 apply dJ
 ·simp[bQ]
 intro i hi
 by_cases e:i=k
 ·subst e;simp[aC,List.getD,fM,hi]
 simp[aC,List.getD,fM,hi,e,List.getElem?_set,Ne.symm e]
theorem Ay (n:Nat):ay n=fM n (fun _=>0):=dJ (au n) (fun i _=>iZ n i)
def gr (p:Nat→Int)(m:Nat)(q:Int)(i:Nat):Int:=if 1≤i∧i≤m then p i+q*p (m-i) / 32768 else p i
def Wi (p:Nat→Int)(B:Int):Prop:=∀i,-B≤p i∧p i≤B
theorem zf (q x B:Int)(q1:-32768≤q)(q2:q≤32768)(x1:-B≤x)(x2:x≤B):-(32768*B)≤q*x∧q*x≤32768*B:=by
 have e1:0≤(32768-q)*(B-x):=Int.mul_nonneg gA gA
 have e2:0≤(32768+q)*(B+x):=Int.mul_nonneg gA gA
 have e3:0≤(32768-q)*(B+x):=Int.mul_nonneg gA gA
 have e4:0≤(32768+q)*(B-x):=Int.mul_nonneg gA gA
 simp only[Int.add_mul,Int.sub_mul,Int.mul_add,Int.mul_sub]at e1 e2 e3 e4
 omega
theorem agM {p:Nat→Int}{B:Int}(h:Wi p B)(hB:0≤B)(m:Nat)(q:Int)(q1:-32768≤q)(q2:q≤32768):Wi (gr p m q) (2*B):=by
 intro i
 have a:=h i
 have b:=h (m-i)
 have c:=zf q _ B q1 q2 b.1 b.2
 unfold gr
 split<;>omega
theorem abJ {p:Nat→Int}{m:Nat}(h:∀i,m≤i→p i=0)(q:Int):∀i,m+1≤i→gr p m q i=0:=by
 intro i hi
 unfold gr
 rw[if_neg gA]
 exact h i gA
def zh (i:Nat):Int:=if i=0 then 16777216 else 0
theorem zi:Wi zh 16777216:=by intro i;unfold zh;split<;>omega
theorem ahk (q:Int)(q1:-32768≤q)(q2:q≤32768):Wi (gr zh 1 q) 16777216:=by
 intro i
 have a:=zi i
 have b:=zi (1-i)
 have c:=zf q _ _ q1 q2 b.1 b.2
 unfold gr
 split
 ·rename_i h
  have:i=1:=gA
  subst this
  simp only[zh]at *
  simp at *
  omega
 exact a
def wU (k:Nat→Int):Nat→Nat→Int
 | 0=>zh
 | m+1=>gr (wU k m) (m+1) (k m)
theorem X_ (k:Nat→Int):∀m i,m+1≤i→wU k m i=0
 | 0,i,h=>by simp[wU,zh];omega
 | m+1,i,h=>abJ (m:=m+1) (fun j hj=>X_ k m j hj) _ i gA
theorem Po (k:Nat→Int):∀m,wU k m 0=16777216
 | 0=>rfl
 | m+1=>by show gr (wU k m) (m+1) (k m) 0=_;simp[gr,Po k m]
theorem abK (k:Nat→Int)(n:Nat)(hk:∀i,i<n→-32768≤k i∧k i≤32768):∀m,m+1≤n→Wi (wU k (m+1)) (16777216*2^m)
 | 0,h=>by
  have:=hk 0 gA
  exact ahk _ this.1 this.2
 | m+1,h=>by
  have:=hk (m+1) gA
  have g:=agM (abK k n hk m gA) (Int.mul_nonneg (by decide) (Int.le_of_lt (Int.pow_pos (by decide)))) (m+1+1) (k (m+1)) this.1 this.2
  rw[show(16777216:Int)*2^(m+1)=2*(16777216*2^m) by rw[Int.pow_succ];omega]
  exact g
theorem ak0 (m:Nat)(h:m≤8):(2:Int)^m≤256:=by
 match m,h with
 | 0,_|1,_|2,_|3,_|4,_|5,_|6,_|7,_|8,_=>decide
theorem Wi.le {p:Nat→Int}{A B:Int}(h:Wi p A)(hB:A≤B):Wi p B:=fun i=>by have:=h i;omega
theorem vP (k:Nat→Int)(hk:∀i,i<8→-32768≤k i∧k i≤32768)(m:Nat)(hm:m≤8):Wi (wU k m) 2147483648:=by
 match m,hm with
 | 0,_=>exact zi.le (by decide)
 | m+1,hm=>
  refine(abK k 8 hk m hm).le ?_
  have e:(2:Int)^m≤128:=by
   match m,hm with
   | 0,_|1,_|2,_|3,_|4,_|5,_|6,_|7,_=>decide
  omega
def Az (k:Nat→Int)(i:Nat):Int:=(wU k 8 i+2048) / 4096
def qL (k:List Int):List Int:=if bN k=true then fM 9 (Az (aC k))else ay 9
def yD (k:List Int):Int:=if bN k=true then 0 else 2
theorem vQ (k:List Int):(qL k).length=9:=by unfold qL;split;exact bQ _ _;exact au _
theorem AJ {k:List Int}(hk:k.length=8)(h:bN k=true):∀i,i<8→-32768≤aC k i∧aC k i≤32768:=fun i hi=>by
 have:=(gQ k).1 h i gA
 omega
theorem aeI (k:List Int)(hk:k.length=8)(h:bN k=true)(i:Nat):-524288≤Az (aC k) i∧Az (aC k) i≤524288:=by
 have:=vP (aC k) (AJ hk h) 8 gA i
 unfold Az
 omega
theorem ZH (k:Nat→Int):Az k 0=4096:=by unfold Az;rw[Po];decide
def mis (p r:Nat→Int)(m:Nat):Nat→Int
 | 0=>0
 | i+1=>mis p r m i+(p i / 512*r (m-i)) / 32768
theorem Eh (x y:Int)(x1:-4294967296≤x)(x2:x≤4294967296)(y1:-2147483647≤y)(y2:y≤2147483647):(-18014398509481984≤x / 512*y∧x / 512*y≤18014398509481984)∧-549755813888≤(x / 512*y) / 32768∧(x / 512*y) / 32768≤549755813888:=by
 have b1:-8388608≤x / 512:=gA
 have b2:x / 512≤8388608:=gA
 generalize x / 512=z at *
 have e1:0≤(8388608-z)*(2147483648-y):=Int.mul_nonneg gA gA
 have e2:0≤(8388608+z)*(2147483648+y):=Int.mul_nonneg gA gA
 have e3:0≤(8388608-z)*(2147483648+y):=Int.mul_nonneg gA gA
 have e4:0≤(8388608+z)*(2147483648-y):=Int.mul_nonneg gA gA
 simp only[Int.add_mul,Int.sub_mul,Int.mul_add,Int.mul_sub]at e1 e2 e3 e4
 omega
def RB (r:Nat→Int):Prop:=∀i,-2147483647≤r i∧r i≤2147483647
theorem Lj {p r:Nat→Int}(hp:Wi p 4294967296)(hr:RB r)(m:Nat):∀i:Nat,-549755813888*(i:Int)≤mis p r m i∧mis p r m i≤549755813888*(i:Int)
 | 0=>by simp[mis]
 | i+1=>by
  have a:=Lj hp hr m i
  have b:=(Eh (p i) (r (m-i)) (hp i).1 (hp i).2 (hr _).1 (hr _).2).2
  show -549755813888*((i+1:Nat):Int)≤mis p r m i+_∧mis p r m i+_≤549755813888*((i+1:Nat):Int)
  omega
structure Lev where
 k:Nat→Int
 p:Nat→Int
 e:Int
 go:Bool
def sG (r:Nat→Int)(m:Nat)(s:Lev):Int:=(-(mis s.p r (m+1) (m+1))*32768).tdiv s.e
def eN (e q:Int):Int:=e-(e*q / 32768)*q / 32768
def qd (r:Nat→Int)(m:Nat)(s:Lev):Lev:=
 if s.go=true then(if -32000<sG r m s∧sG r m s<32000 then⟨fun i=>if i=m then sG r m s else s.k i,gr s.p (m+1) (sG r m s),eN s.e (sG r m s),true⟩else⟨s.k,s.p,s.e,false⟩)else s
def gG (r:Nat→Int):Nat→Lev
 | 0=>⟨fun _=>0,zh,r 0,true⟩
 | m+1=>qd r m (gG r m)
theorem AO (r:Nat→Int)(m:Nat)(h:(gG r m).go=false):∀d,gG r (m+d)=gG r m
 | 0=>rfl
 | d+1=>by
  show qd r (m+d) (gG r (m+d))=_
  rw[AO r m h d]
  simp[qd,h]
theorem abL (e q:Int)(he:0<e)(q1:-32000<q)(q2:q<32000):0<eN e q∧eN e q≤e∧(-(32768*e)≤e*q∧e*q≤32768*e)∧(-(32768*e)≤(e*q / 32768)*q∧(e*q / 32768)*q≤32768*e):=by
 have h:=zf q e e gA gA gA gA
 rw[Int.mul_comm q e]at h
 have ht:-e≤e*q / 32768∧e*q / 32768≤e:=gA
 have h2:0≤(e*q / 32768)*q∧(e*q / 32768)*q≤32000*e:=by
  rcases Int.le_total 0 q with c|c
  ·have g:0≤e*q:=Int.mul_nonneg gA c
   have t0:0≤e*q / 32768:=gA
   generalize e*q / 32768=t at *
   have p1:=Int.mul_nonneg t0 c
   have p2:t*q≤e*32000:=Int.mul_le_mul ht.2 gA c gA
   omega
  have g:0≤e * -q:=Int.mul_nonneg gA gA
  rw[Int.mul_neg]at g
  have t0:e*q / 32768≤0:=gA
  generalize e*q / 32768=t at *
  have p1:0≤-t * -q:=Int.mul_nonneg gA gA
  have p2:-t * -q≤e*32000:=Int.mul_le_mul gA gA gA gA
  rw[Int.neg_mul_neg]at p1 p2
  omega
 unfold eN
 omega
structure Pp (r:Nat→Int) (m:Nat) (s:Lev):Prop where
 e0:0<s.e
 e1:s.e≤r 0
 pb:Wi s.p (16777216*2^m)
 ko:∀i,m≤i→s.k i=0
 po:∀i,m+1≤i→s.p i=0
 kb:∀i,-32000<s.k i∧s.k i<32000
theorem AQ (r:Nat→Int)(h:0<r 0):Pp r 0 (gG r 0):=
 ⟨h,Int.le_refl _,zi,fun _ _=>rfl,fun i hi=>by simp[gG,zh];omega,fun _=>by simp[gG]⟩
theorem Ei {r:Nat→Int}{m:Nat}(h:Pp r m (gG r m))(hg:(gG r m).go=true)(q1:-32000<sG r m (gG r m))(q2:sG r m (gG r m)<32000) :
 gG r (m+1)=⟨fun i=>if i=m then sG r m (gG r m)else(gG r m).k i,gr (gG r m).p (m+1) (sG r m (gG r m)),eN (gG r m).e (sG r m (gG r m)),true⟩∧Pp r (m+1) (gG r (m+1)):=by
 have hs:gG r (m+1)=⟨fun i=>if i=m then sG r m (gG r m)else(gG r m).k i,gr (gG r m).p (m+1) (sG r m (gG r m)),eN (gG r m).e (sG r m (gG r m)),true⟩:=by
  show qd r m (gG r m)=_
  unfold qd
  rw[if_pos hg,if_pos ⟨q1,q2⟩]
 refine⟨hs,?_⟩
 rw[hs]
 obtain⟨a,b,c,d,f,g⟩:=h
 have en:=abL _ _ a q1 q2
 refine⟨en.1,by have:=en.2.1;show eN _ _≤_;omega,?_,fun i hi=>?_,fun i hi=>abJ f _ i hi,fun i=>?_⟩
 ·rw[show(16777216:Int)*2^(m+1)=2*(16777216*2^m) by rw[Int.pow_succ];omega]
  exact agM c (Int.mul_nonneg (by decide) (Int.le_of_lt (Int.pow_pos (by decide)))) _ _ gA gA
 ·show(if i=m then _ else _)=(0:Int)
  rw[if_neg gA]
  exact d i gA
 show -32000<(if i=m then _ else _)∧(if i=m then _ else _)<(32000:Int)
 split
 ·exact⟨q1,q2⟩
 exact g i
theorem Pq {r:Nat→Int}{m:Nat}(hg:(gG r m).go=true)(hq:¬(-32000<sG r m (gG r m)∧sG r m (gG r m)<32000))(hm:m<8):gG r 8=⟨(gG r m).k,(gG r m).p,(gG r m).e,false⟩:=by
 have hs:gG r (m+1)=⟨(gG r m).k,(gG r m).p,(gG r m).e,false⟩:=by
  show qd r m (gG r m)=_
  unfold qd
  rw[if_pos hg,if_neg hq]
 have:=AO r (m+1) (by rw[hs]) (7-m)
 rw[show m+1+(7-m)=8 by omega]at this
 rw[this,hs]
theorem Pp.pb' {r:Nat→Int}{m:Nat}{s:Lev}(h:Pp r m s)(hm:m≤8):Wi s.p 4294967296:=h.pb.le (by have:=ak0 m hm;omega)
def I6 (r:List Int):Bool:=r.all fun c=>decide (-2147483647≤c)&&decide (c≤2147483647)
theorem Ej (a:List Int):I6 a=true↔∀i,i<a.length→-2147483647≤aC a i∧aC a i≤2147483647:=by
 unfold I6
 rw[Dp]
 simp
theorem aeJ {k:List Int}(i:Nat)(hi:i<k.length)(h:¬(-2147483647≤aC k i∧aC k i≤2147483647)):I6 k=false:=by
 rcases hb:I6 k with _|_
 ·rfl
 exact absurd ((Ej k).1 hb i hi) h
theorem agN {r:List Int}(h:I6 r=true):RB (aC r):=fun i=>by
 by_cases hi:i<r.length
 ·exact(Ej r).1 h i hi
 rw[dO r i gA];omega
def Ya (r:List Int):Bool:=I6 r&&decide (0<aC r 0)
def lN (r:List Int):List Int:=if Ya r=true then fM 8 (gG (aC r) 8).k else ay 8
def vw (r:List Int):Int:=if Ya r=true then(gG (aC r) 8).e else 0
def vC (r:List Int):Bool:=if Ya r=true then(gG (aC r) 8).go else false
theorem zk (r:List Int):(lN r).length=8:=by unfold lN;split;exact bQ _ _;exact au _
theorem Yb (r:Nat→Int)(h:0<r 0):∀m,(∀i,-32000<(gG r m).k i∧(gG r m).k i<32000)∧((gG r m).go=true→Pp r m (gG r m))
 | 0=>⟨fun i=>by simp[gG],fun _=>AQ r h⟩
 | m+1=>by
  obtain⟨a,b⟩:=Yb r h m
  rcases hg:(gG r m).go with _|_
  ·have:=AO r m hg 1
   rw[this]
   exact⟨a,fun h=>by rw[hg]at h;cases h⟩
  by_cases hq:-32000<sG r m (gG r m)∧sG r m (gG r m)<32000
  ·have i1:=(Ei (b hg) hg hq.1 hq.2).2
   exact⟨i1.kb,fun _=>i1⟩
  have hs:gG r (m+1)=⟨(gG r m).k,(gG r m).p,(gG r m).e,false⟩:=by
   show qd r m (gG r m)=_
   unfold qd
   rw[if_pos hg,if_neg hq]
  rw[hs]
  exact⟨a,fun h=>by cases h⟩
theorem aeK (r:List Int)(i:Nat):-32000<aC (lN r) i∧aC (lN r) i<32000:=by
 unfold lN
 split
 ·rename_i h
  have h0:0<aC r 0:=by simp[Ya]at h;exact h.2
  by_cases hi:i<8
  ·rw[dN _ _ _ hi];exact(Yb _ h0 8).1 i
  rw[dO _ i (by rw[bQ];omega)];omega
 rw[iZ];omega
def dP (w:World)(b:Nat)(T:TypeId)(cs:List Value):Prop:=w.heap[b]?=some (.cells cs.toArray T (0,0))
theorem dP.cell {w:World}{b:Nat}{T:TypeId}{cs:List Value}(h:dP w b T cs)(i:Nat):w.cell? ⟨b,i,none⟩=cs[i]?:=by rw[aI h];simp
theorem dP.free {w:World}{b:Nat}{T:TypeId}{cs:List Value}(h:dP w b T cs)(i:Nat):w.frozen? ⟨b,i,none⟩=false:=aT h i
theorem dP.lt {w:World}{b:Nat}{T:TypeId}{cs:List Value}(h:dP w b T cs):b<w.heap.size:=aN h
theorem dP.aH {w w':World}{b:Nat}{T:TypeId}{cs:List Value}(h:dP w b T cs)(g:w.grownBy w' none):dP w' b T cs:=(g.block _ (aN h) (by simp)).trans h
theorem dP.aJ {w w':World}{b:Nat}{T:TypeId}{cs:List Value}{r:Nat}(h:dP w b T cs)(g:w.grownBy w' (some r))(hr:b≠r):dP w' b T cs:=(g.block _ (aN h) (by simpa using hr)).trans h
theorem dP.new (w:World)(T:TypeId)(cs:List Value):dP (w.alloc (.cells cs.toArray T)) w.heap.size T cs:=cK w _
theorem dP.set {w:World}{b:Nat}{T:TypeId}{cs:List Value}(h:dP w b T cs)(k:Nat)(v:Value):dP (w.setCell ⟨b,k,none⟩ v) b T (cs.set k v):=by
 unfold dP
 rw[heap_setCell h]
 simp
theorem dP.range {w:World}{b:Nat}{T:TypeId}{cs:List Value}(h:dP w b T cs)(o n:Nat):w.rangeAt b o ((cs.drop o).take n):=fun j v hv=>by
 rw[h.cell]
 rw[List.getElem?_take]at hv
 split at hv
 ·rw[List.getElem?_drop]at hv;exact hv
 cases hv
theorem dP.there {w:World}{b:Nat}{T:TypeId}{cs:List Value}(h:dP w b T cs)(o n:Nat)(hn:o+n≤cs.length):w.there b o n:=fun j hj=>
 ⟨by rw[h.cell,List.getElem?_eq_getElem gA];rfl,h.free _⟩
def mG (cs:List Value)(o:Nat)(vs:List Value):List Value:=cs.take o++vs++cs.drop (o+vs.length)
theorem abM (cs:List Value)(o:Nat)(vs:List Value)(h:o+vs.length≤cs.length):(mG cs o vs).length=cs.length:=by simp[mG];omega
theorem qM (cs vs:List Value)(h:vs.length=cs.length):mG cs 0 vs=vs:=by simp[mG,h]
theorem J8 (b:Nat)(T:TypeId):∀(vs:List Value) (o:Nat) (w:World) (cs:List Value),dP w b T cs→o+vs.length≤cs.length→dP (w.setCells b o vs) b T (mG cs o vs)∧w.grownBy (w.setCells b o vs) (some b)
 | [],o,w,cs,h,_=>⟨by show dP w b T (mG cs o []);unfold mG;simp;exact h,aQ w _⟩
 | z::M,o,w,cs,h,hl=>by
  simp only[List.length_cons]at hl
  have h1:=h.set o z
  obtain⟨a1,a2⟩:=J8 b T M (o+1) (w.setCell ⟨b,o,none⟩ z) (cs.set o z) h1 (by rw[List.length_set];omega)
  refine⟨?_,dB (aF w ⟨b,o,none⟩ _) a2 (some b) (fun i e _=>e) (fun i e _=>e)⟩
  have e:mG (cs.set o z) (o+1) M=mG cs o (z::M):=by
   unfold mG
   rw[List.take_succ_eq_append_getElem (by rw[List.length_set];omega)]
   simp[show o<cs.length by omega]
   rw[List.drop_set_of_lt gA,show o+1+M.length=o+(M.length+1) by omega]
   rw[List.take_set_of_le (Nat.le_refl _)]
  rw[←e]
  exact a1
def dQ (w:World)(b o:Nat)(vs:List Value):World:=w.setCells b o vs
theorem tC {w:World}{b:Nat}{T:TypeId}{cs:List Value}(h:dP w b T cs)(o:Nat)(vs:List Value)(hl:o+vs.length≤cs.length):dP (dQ w b o vs) b T (mG cs o vs)∧w.grownBy (dQ w b o vs) (some b):=J8 b T vs o w cs h hl
theorem I7 {ops:Array Oper}{rest:List Oper}{op:Oper}{a:Act}{w:World}{Q:Exit→Act→World→Prop}(hgd:op.guard=none)(T:TypeId)(x:Operand)(ho:op.op=.load T x)
 (b o n:Nat) (hx:a.eval x=.pointer (some ⟨b,o,none⟩)) (TB:TypeId) (cs:List Value) (h:dP w b TB cs) (d:TypeDesc) (hu:prog.underlying T=some d) (hd:d.isRow=true) (hi:(prog.info? T).map (·.size)=some n) (hn:o+n≤cs.length) (vs:List Value) (hvs:(cs.drop o).take n=vs)
 (k:wpList prog ops Q rest (a.put op.dst (.agg vs.toArray)) w):wpList prog ops Q (op::rest) a w:=by
 subst hvs
 exact wpList_load_mid hgd T x ho b o hx _ d (h.range o n) hu hd (by rw[hi];simp;omega) k
theorem dD {w:World}{b o n:Nat}{T TB:TypeId}{cs:List Value}{a:Act}{op:Oper}{x:Operand}(ho:op.op=.load T x)(hx:a.eval x=.pointer (some ⟨b,o,none⟩))(h:dP w b TB cs)(d:TypeDesc)(hu:prog.underlying T=some d)(hd:d.isRow=true)(hi:(prog.info? T).map (·.size)=some n)(hn:o+n≤cs.length)(vs:List Value)(hvs:(cs.drop o).take n=vs) :
 (execOp a.eval op).run prog w=.ok (.value (.agg vs.toArray)) w:=by
 subst hvs
 have:=run_loadAt_mid (P:=prog) w b o T _ d (h.range o n) hu hd (by rw[hi];simp;omega)
 unfold execOp
 simp[ho,hx,this]
theorem ZI {w:World}{b:Nat}{T:TypeId}{cs:List Value}(h:dP w b T cs)(d:TypeDesc)(hu:prog.underlying T=some d)(hd:d.isRow=true)(hi:(prog.info? T).map (·.size)=some cs.length) :
 Sem.run prog (loadVar T ⟨b,0,none⟩) w=.ok (.agg cs.toArray) w:=by
 have:=run_loadVar_mid (P:=prog) w b 0 T ((cs.drop 0).take cs.length) d (h.range 0 cs.length) hu hd (by rw[hi];simp)
 simpa using this
theorem abN {vs:List Value}(h:∀v∈vs,v.oneCell'=true):vs.toArray.all (·.oneCell')=true:=all_oneCell_toArray h
theorem vR {ops:Array Oper}{rest:List Oper}{op:Oper}{a:Act}{w:World}{Q:Exit→Act→World→Prop}(hgd:op.guard=none)(T:TypeId)(x y:Operand)(ho:op.op=.store T x y)
 (b o:Nat) (TB:TypeId) (cs vs:List Value) (hx:a.eval x=.pointer (some ⟨b,o,none⟩)) (hy:a.eval y=.agg vs.toArray) (h:dP w b TB cs) (hl:o+vs.length≤cs.length) (hi:(prog.info? T).map (·.size)=some vs.length) (h1:∀v∈vs,v.oneCell'=true)
 (k:wpList prog ops Q rest (a.put op.dst undef) (dQ w b o vs)):wpList prog ops Q (op::rest) a w:=
 wpList_store_mid hgd T x y ho b o vs.toArray hx hy (by simpa using h.there o vs.length hl) (by simpa using hi) (abN h1) (by simpa [dQ] using k)
theorem dG {y:Nat→Option Bool}{op:Oper}{a:Act}{w:World}{K:Act→World→Prop}{Q:Exit→Act→World→Prop}{E:Prop}(hg:op.guard=none)(T:TypeId)(x z:Operand)(ho:op.op=.store T x z)
 (b o:Nat) (TB:TypeId) (cs vs:List Value) (hx:a.eval x=.pointer (some ⟨b,o,none⟩)) (hy:a.eval z=.agg vs.toArray) (h:dP w b TB cs) (hl:o+vs.length≤cs.length) (hi:(prog.info? T).map (·.size)=some vs.length) (h1:∀v∈vs,v.oneCell'=true)
 (k:K (a.put op.dst undef) (dQ w b o vs)):if Region.wanted op y=true then Oper.wp prog op a w K Q else E:=by
 have hw:Region.wanted op y=true:=by simp[Region.wanted,hg]
 rw[if_pos hw]
 exact wp_store_mid T x z ho b o vs.toArray hx hy (by simpa using h.there o vs.length hl) (by simpa using hi) (abN h1) (by simpa [dQ] using k)
def aO (l:List Int):List Value:=l.map (Value.int .i64)
theorem qy (l:List Int):(aO l).toArray=aD l:=rfl
theorem d9 (l:List Int):∀v∈aO l,v.oneCell'=true:=by
 intro v hv
 obtain⟨x,_,rfl⟩:=List.mem_map.1 hv
 rfl
theorem aM (l:List Int):(aO l).length=l.length:=by simp[aO]
def bP (l:List Int)(o n:Nat):List Int:=fM n (fun i=>aC l (o+i))
theorem aR (l:List Int)(o n:Nat):(bP l o n).length=n:=bQ _ _
theorem fV (l:List Int)(o n i:Nat)(h:i<n):aC (bP l o n) i=aC l (o+i):=dN _ _ _ h
theorem UD (l:List Int)(o n:Nat)(h:o+n≤l.length):(l.drop o).take n=bP l o n:=by
 refine dJ (by simp;omega) (fun i hi=>?_)
 simp[aC,List.getD,List.getElem?_take,List.getElem?_drop,hi]
def jr (l:List Int)(o:Nat)(M:List Int):List Int:=fM l.length (fun i=>if o≤i∧i<o+M.length then aC M (i-o)else aC l i)
theorem eG (l:List Int)(o:Nat)(M:List Int):(jr l o M).length=l.length:=bQ _ _
theorem gD (l:List Int)(o:Nat)(M:List Int)(i:Nat)(h:i<l.length):aC (jr l o M) i=if o≤i∧i<o+M.length then aC M (i-o)else aC l i:=dN _ _ _ h
theorem ahl (l:List Int)(o:Nat)(M:List Int)(h:o+M.length≤l.length):l.take o++M++l.drop (o+M.length)=jr l o M:=by
 refine dJ (by simp;omega) (fun i hi=>?_)
 unfold aC List.getD
 by_cases h1:i<o
 ·rw[if_neg gA,List.getElem?_append_left (by simp;omega),List.getElem?_append_left (by simp;omega),List.getElem?_take,if_pos h1]
 by_cases h2:i<o+M.length
 ·rw[if_pos gA,List.getElem?_append_left (by simp;omega),List.getElem?_append_right (by simp;omega)]
  congr 2
  simp;omega
 rw[if_neg gA,List.getElem?_append_right (by simp;omega),List.getElem?_drop]
 congr 2
 simp;omega
def kE (l:List Int)(z:List Value):List Value:=aO l++z
theorem tF (l:List Int)(z:List Value):(kE l z).length=l.length+z.length:=by simp[kE,aO]
theorem jU (l:List Int)(z:List Value)(i:Nat)(h:i<l.length):(kE l z)[i]?=some (.int .i64 (aC l i)):=by
 unfold kE
 rw[List.getElem?_append_left (by rw[aM];exact h)]
 simp[aO,aC,List.getD,h]
theorem Pt (l:List Int)(z:List Value)(i:Nat)(x:Int)(h:i<l.length):(kE l z).set i (.int .i64 x)=kE (l.set i x) z:=by
 unfold kE aO
 rw[List.set_append_left _ _ (by simpa using h),List.map_set]
theorem qz (l:List Int)(z:List Value)(o n:Nat)(h:o+n≤l.length):((kE l z).drop o).take n=aO (bP l o n):=by
 rw[←UD l o n h]
 unfold kE aO
 rw[List.drop_append_of_le_length (by simp;omega),List.take_append_of_le_length (by simp;omega),←List.map_drop,←List.map_take]
theorem oN (l:List Int)(z:List Value)(o:Nat)(M:List Int)(h:o+M.length≤l.length):mG (kE l z) o (aO M)=kE (jr l o M) z:=by
 rw[←ahl l o M h]
 unfold mG kE
 rw[aM,List.take_append_of_le_length (by rw[aM];omega),List.drop_append_of_le_length (by rw[aM];exact h)]
 simp[aO,List.map_take,List.map_drop]
theorem Pv (l:List Int)(z:List Value)(h:∀v∈z,v.oneCell'=true):∀v∈kE l z,v.oneCell'=true:=by
 intro v hv
 rcases List.mem_append.1 hv with q|q
 ·exact d9 l v q
 exact h v q
theorem dP.ints {w:World}{b:Nat}{T:TypeId}{l:List Int}{z:List Value}(h:dP w b T (kE l z))(o n c:Nat)(hn:o+n≤l.length)(hc:n≤c):aS w (.slice (some ⟨b,o,none⟩) n c) (bP l o n):=by
 refine⟨some ⟨b,o,none⟩,c,by rw[aR],by rw[aR];exact hc,fun _=>⟨_,rfl,fun i hi=>?_⟩⟩
 rw[aR]at hi
 rw[Addr.add_mid,h.cell,jU _ _ _ gA,fV _ _ _ _ hi]
theorem dW {y:Nat→Option Bool}{o:Oper}{a:Act}{w:World}{K:Act→World→Prop}{Q:Exit→Act→World→Prop}{E:Prop}(hg:o.guard=none)(T:TypeId)(x z:Operand)(ho:o.op=.store T x z)
 (b:Nat) (rs rs':List Int) (hx:a.eval x=.pointer (some ⟨b,0,none⟩)) (hy:a.eval z=.agg (aD rs')) (h:bO w b T rs) (hl:rs'.length=rs.length) (hi:(prog.info? T).map (·.size)=some rs.length)
 (k:K (a.put o.dst undef) (bT w b rs')):if Region.wanted o y=true then Oper.wp prog o a w K Q else E:=by
 have hw:Region.wanted o y=true:=by simp[Region.wanted,hg]
 rw[if_pos hw]
 exact wp_store_mid T x z ho b 0 (aD rs') hx hy (by rw[show(aD rs').size=rs.length by simp[aD,hl]];exact h.there) (by simpa [aD,hl] using hi) (J6 rs') (by simpa [bT,aD] using k)
theorem CX {w:World}{b:Nat}{T:TypeId}{rs:List Int}{a:Act}{o:Oper}{x:Operand}(ho:o.op=.load T x)(hx:a.eval x=.pointer (some ⟨b,0,none⟩))(h:bO w b T rs)(d:TypeDesc)(hu:prog.underlying T=some d)(hd:d.isRow=true)(hi:(prog.info? T).map (·.size)=some rs.length) :
 (execOp a.eval o).run prog w=.ok (.value (.agg (aD rs))) w:=by
 have:=abH h d hu hd hi
 unfold execOp
 simp[ho,hx,this]
def dM (w w':World):Prop:=w.grownBy w' none
theorem aZ (w:World):dM w w.drew:=bW (aQ w none)
theorem bD {w u u':World}(h:dM w u)(g:u.grownBy u' none):dM w u':=aB h g
theorem dX {w u:World}(h:dM w u)(o:Obj):dM w (u.alloc o):=aB h (ak _ _ none)
theorem iV {w u u':World}{b:Nat}(h:dM w u)(g:u.grownBy u' (some b))(hb:w.heap.size≤b):dM w u':=aG h g hb
theorem El {T:TypeId}(h:(prog.underlying T).any (fun d=>d.isRow)=true):∃d,prog.underlying T=some d∧d.isRow=true:=by
 generalize prog.underlying T=o at *
 rcases o with _|d
 ·cases h
 exact⟨d,rfl,h⟩
section
variable {ops:Array Oper} {rest:List Oper} {op:Oper} {a:Act} {w:World} {Q:Exit→Act→World→Prop} {K:Act→World→Prop} {E:Prop} {f:Nat→Option Bool} {b n:Nat} {T TB:TypeId} {rs:List Int} {cs vs:List Value} {x y:Operand}
theorem lA (h:bO w b T rs)(hi:(prog.info? T).map (·.size)=some rs.length)(k:wpList prog ops Q rest (a.put op.dst (.agg (aD rs))) w)(hgd:op.guard=none:=by rfl)(ho:op.op=.load T x:=by rfl)(hx:a.eval x=.pointer (some ⟨b,0,none⟩):=by rfl)(hu:(prog.underlying T).any (fun d=>d.isRow)=true:=by kernel_rfl):wpList prog ops Q (op::rest) a w:=by
 obtain⟨d,h1,h2⟩:=El hu
 exact CU hgd T x ho b hx rs h d h1 h2 hi k
theorem sA (rs':List Int)(h:bO w b T rs)(hl:rs'.length=rs.length)(hi:(prog.info? T).map (·.size)=some rs.length)(k:wpList prog ops Q rest (a.put op.dst undef) (bT w b rs'))(hgd:op.guard=none:=by rfl)(ho:op.op=.store T x y:=by rfl)(hx:a.eval x=.pointer (some ⟨b,0,none⟩):=by rfl)(hy:a.eval y=.agg (aD rs'):=by rfl):wpList prog ops Q (op::rest) a w:=
 og hgd T x y ho b rs rs' hx hy h hl hi k
theorem lV (o:Nat)(h:dP w b TB cs)(hi:(prog.info? T).map (·.size)=some n)(hn:o+n≤cs.length)(hvs:(cs.drop o).take n=vs)(k:wpList prog ops Q rest (a.put op.dst (.agg vs.toArray)) w)(hgd:op.guard=none:=by rfl)(ho:op.op=.load T x:=by rfl)(hx:a.eval x=.pointer (some ⟨b,o,none⟩):=by rfl)(hu:(prog.underlying T).any (fun d=>d.isRow)=true:=by kernel_rfl):wpList prog ops Q (op::rest) a w:=by
 obtain⟨d,h1,h2⟩:=El hu
 exact I7 hgd T x ho b o n hx TB cs h d h1 h2 hi hn vs hvs k
theorem sV (o:Nat)(vs:List Value)(h:dP w b TB cs)(hl:o+vs.length≤cs.length)(hi:(prog.info? T).map (·.size)=some vs.length)(h1:∀v∈vs,v.oneCell'=true)(k:wpList prog ops Q rest (a.put op.dst undef) (dQ w b o vs))(hgd:op.guard=none:=by rfl)(ho:op.op=.store T x y:=by rfl)(hx:a.eval x=.pointer (some ⟨b,o,none⟩):=by rfl)(hy:a.eval y=.agg vs.toArray:=by rfl):wpList prog ops Q (op::rest) a w:=
 vR hgd T x y ho b o TB cs vs hx hy h hl hi h1 k
theorem lS (h:bO w b T rs)(hi:(prog.info? T).map (·.size)=some rs.length)(hu:(prog.underlying T).any (fun d=>d.isRow)=true:=by kernel_rfl):Sem.run prog (loadVar T ⟨b,0,none⟩) w=.ok (.agg (aD rs)) w:=by
 obtain⟨d,h1,h2⟩:=El hu
 exact Pm h d h1 h2 hi
theorem wV (h:dP w b T cs)(hi:(prog.info? T).map (·.size)=some cs.length)(hu:(prog.underlying T).any (fun d=>d.isRow)=true:=by kernel_rfl):Sem.run prog (loadVar T ⟨b,0,none⟩) w=.ok (.agg cs.toArray) w:=by
 obtain⟨d,h1,h2⟩:=El hu
 exact ZI h d h1 h2 hi
theorem yA (h:bO w b T rs)(hi:(prog.info? T).map (·.size)=some rs.length)(ho:op.op=.load T x:=by rfl)(hx:a.eval x=.pointer (some ⟨b,0,none⟩):=by rfl)(hu:(prog.underlying T).any (fun d=>d.isRow)=true:=by kernel_rfl):(execOp a.eval op).run prog w=.ok (.value (.agg (aD rs))) w:=by
 obtain⟨d,h1,h2⟩:=El hu
 exact CX ho hx h d h1 h2 hi
end
theorem Yc (k:Nat):((2^k:Nat):Int)=(2:Int)^k:=by simp
theorem ahm (k n:Nat)(h:k≤n):1≤(2:Int)^k∧(2:Int)^k≤2^n:=by
 have h1:(2:Nat)^k≤2^n:=Nat.pow_le_pow_right gA h
 have h2:1≤(2:Nat)^k:=Nat.one_le_two_pow
 have:=Yc k
 have:=Yc n
 omega
def gro:List Int:=[444758425,203159592,97181937,47538611,23511884,11692281,5830311,2911209,1454619,727063,363470,181719,90856,45427,22713]
def lJ (k:Nat):Int:=gro.getD k 0
def xY (y r:Int):Int:=y+y*r / 1073741824
def pJ (f:Int)(k:Nat):Int:=f / 2^(14-k) % 2
def pw (f:Int):Nat→Int
 | 0=>1073741824
 | k+1=>if pJ f k=1 then xY (pw f k) (lJ k)else pw f k
def Ll:List Int→Int→Int
 | [],y=>y
 | r::l,y=>Ll l (xY y r)
theorem Pw (y r:Int)(hy:0≤y)(hr:0≤r):y≤xY y r:=by
 unfold xY
 have:=Int.ediv_nonneg (Int.mul_nonneg hy hr) (b:=1073741824) (by decide)
 omega
theorem UE (y z r:Int)(h:y≤z)(hr:0≤r):xY y r≤xY z r:=by
 unfold xY
 have:=Int.ediv_le_ediv (c:=1073741824) (by decide) (Int.mul_le_mul_of_nonneg_right h hr)
 omega
theorem Yd:∀(l:List Int) (y:Int),(∀r∈l,0≤r)→0≤y→y≤Ll l y
 | [],_,_,_=>Int.le_refl _
 | r::l,y,h,hy=>by
  have h0:=Pw y r hy (h r (List.mem_cons_self ..))
  exact Int.le_trans h0 (Yd l _ (fun x hx=>h x (List.mem_cons_of_mem _ hx)) gA)
theorem J9:∀(l:List Int) (y z:Int),(∀r∈l,0≤r)→y≤z→Ll l y≤Ll l z
 | [],_,_,_,h=>h
 | r::l,y,z,h,hy=>J9 l _ _ (fun x hx=>h x (List.mem_cons_of_mem _ hx)) (UE y z r hy (h r (List.mem_cons_self ..)))
theorem ahn:∀r∈gro,0≤r:=by decide
theorem Em (k:Nat):∀r∈gro.drop k,0≤r:=fun r h=>ahn r (List.mem_of_mem_drop h)
theorem Px (k:Nat)(h:k<15):gro.drop k=lJ k::gro.drop (k+1):=by
 rw[List.drop_eq_getElem_cons (show k<gro.length from h)]
 unfold lJ
 have e:gro[k]?=some (gro[k]'(show k<gro.length from h)):=List.getElem?_eq_getElem _
 rw[List.getD_eq_getElem?_getD,e]
 rfl
theorem abO (k:Nat)(h:k<15):0≤lJ k:=Em k _ (by rw[Px k h];exact List.mem_cons_self ..)
theorem agO (f:Int):∀k,k≤15→1073741824≤pw f k∧Ll (gro.drop k) (pw f k)≤Ll gro 1073741824
 | 0,_=>⟨by show(1073741824:Int)≤1073741824;omega,Int.le_refl _⟩
 | k+1,hk=>by
  obtain⟨h1,h2⟩:=agO f k gA
  have hr:=abO k gA
  have up:=Pw (pw f k) (lJ k) gA hr
  rw[Px k gA]at h2
  have h3:Ll (gro.drop (k+1)) (xY (pw f k) (lJ k))≤Ll gro 1073741824:=h2
  unfold pw
  split
  ·exact⟨gA,h3⟩
  exact⟨h1,Int.le_trans (J9 _ _ _ (Em _) up) h3⟩
theorem Lm (f:Int)(k:Nat)(hk:k≤15):1073741824≤pw f k∧pw f k≤2147438200:=by
 obtain⟨h1,h2⟩:=agO f k hk
 have h3:=Yd (gro.drop k) (pw f k) (Em _) gA
 have h4:Ll gro 1073741824=2147438200:=by decide
 omega
def C9 (n:Nat)(f:Int):Int:=pw f 15 / 2^(30-n)
theorem Ye (n:Nat)(f:Int)(hn:n≤30):(2:Int)^n≤C9 n f∧C9 n f<2^(n+1)∧C9 n f≤2147438200:=by
 obtain⟨h1,h2⟩:=Lm f 15 (Nat.le_refl _)
 have hp:(0:Int)<2^(30-n):=Int.pow_pos (by decide)
 have e:(2:Int)^n*2^(30-n)=1073741824:=by rw[←Int.pow_add,show n+(30-n)=30 by omega];decide
 have e':(2:Int)^(n+1)*2^(30-n)=2147483648:=by rw[Int.pow_succ,Int.mul_right_comm,e];decide
 unfold C9
 refine⟨(Int.le_ediv_iff_mul_le hp).2 gA,Int.ediv_lt_of_lt_mul hp gA,?_⟩
 exact Int.le_trans (Int.ediv_le_self _ gA) h2
def gsz:List Int:=[8,10,13,17,22,29,38,49,64,82,107,139,181,234,304,394,512,663,861,1116,1448,1878,2435,3158,4096,5311,6888,8933,11585,15024,19483,25267]
def kL (n:Nat):Int:=gsz.getD n 0
theorem ZJ:∀n:Fin 32,C9 (3+3*n.val / 8) (((3*n.val % 8*4096:Nat)):Int)=kL n.val:=by decide +kernel
theorem Yf (n:Nat)(h:n<32):C9 (3+3*n / 8) (((3*n % 8*4096:Nat)):Int)=kL n:=ZJ ⟨n,h⟩
theorem Dq (n:Nat):0≤kL n∧kL n≤25267:=by
 by_cases h:n<32
 ·have:∀n:Fin 32,0≤kL n.val∧kL n.val≤25267:=by decide +kernel
  exact this ⟨n,h⟩
 unfold kL
 rw[List.getD_eq_getElem?_getD,List.getElem?_eq_none (show gsz.length≤n from by show 32≤n;omega)]
 exact⟨Int.le_refl _,by show(0:Int)≤25267;omega⟩
def glV (n:Int):Int:=if 0≤n∧n≤31 then kL n.toNat else 0
def glE (n:Int):Int:=if 0≤n∧n≤31 then 0 else 2
theorem rP (n:Nat)(h:n≤31):glV n=kL n∧glE n=0:=by
 have hh:0≤(n:Int)∧(n:Int)≤31:=gA
 exact⟨by rw[show glV n=kL (n:Int).toNat from if_pos hh,Int.toNat_natCast],if_pos hh⟩
theorem aiD:glV 0=8∧glE 0=0:=⟨rfl,rfl⟩
def goN (c e:Int):Nat→Nat
 | 0=>0
 | n+1=>if(kL (n+1)+kL n)*e<2*c then n+1 else goN c e n
def rH (x:Int):Int:=if 1152921504606846976<x then 1152921504606846976 else x
def rJ (x:Int):Int:=if 17592186044416<x then 17592186044416 else x
def Yg (c e:Int):Int:=if c≤0∨e≤0 then 0 else(goN (rH c) (rJ e) 31:Int)
theorem Yh (x:Int)(h:0<x):0<rH x∧rH x≤1152921504606846976:=by unfold rH;split<;>omega
theorem Yi (x:Int)(h:0<x):0<rJ x∧rJ x≤17592186044416:=by unfold rJ;split<;>omega
theorem abP (c e:Int):∀n,goN c e n≤n
 | 0=>Nat.le_refl _
 | n+1=>by
  have:=abP c e n
  unfold goN
  split<;>omega
theorem aeL (c e:Int)(m:Nat)(h:(kL (m+1)+kL m)*e<2*c):goN c e (m+1)=m+1:=if_pos h
theorem aho (c e:Int)(m:Nat)(h:¬(kL (m+1)+kL m)*e<2*c):goN c e (m+1)=goN c e m:=if_neg h
def vS (s:Int):Int:=(s*31821+13849) % 65536
def Iw (x:Int):Int:=if x<0 then 0 else if 32767<x then 32767 else x
def Us (s x:Int):Int:=(vS s-32768)*Iw x / 32768
theorem AR (s:Int):0≤vS s∧vS s<65536:=by unfold vS;omega
theorem UF (x:Int):0≤Iw x∧Iw x≤32767:=by unfold Iw;split<;>(try split)<;>omega
theorem abQ (s x:Int):-1073709056≤(vS s-32768)*Iw x∧(vS s-32768)*Iw x≤1073676289:=by
 obtain⟨a1,a2⟩:=AR s
 obtain⟨b1,b2⟩:=UF x
 generalize Iw x=z at *
 generalize vS s=t at *
 have p1:0≤(t-0)*z:=Int.mul_nonneg gA b1
 have p2:0≤(65535-t)*z:=Int.mul_nonneg gA b1
 rw[Int.sub_mul]at p1 p2 ⊢
 omega
theorem ahp (s x:Int):-Iw x≤Us s x∧Us s x≤Iw x:=by
 obtain⟨a1,a2⟩:=AR s
 obtain⟨b1,b2⟩:=UF x
 unfold Us
 generalize Iw x=z at *
 generalize vS s=t at *
 have p1:0≤(t-0)*z:=Int.mul_nonneg gA b1
 have p2:0≤(65535-t)*z:=Int.mul_nonneg gA b1
 rw[Int.sub_mul]at p1 p2 ⊢
 omega
theorem UH (x y:Int)(h:x % 65536=y % 65536):bits .and .i64 x 65535=y % 65536:=by
 show IntKind.i64.wrap ((BitVec.ofInt 64 x &&& BitVec.ofInt 64 65535).toNat:Int)=_
 rw[BitVec.toNat_and,BitVec.toNat_ofInt,show(BitVec.ofInt 64 65535).toNat=2^16-1 by decide,Nat.and_two_pow_sub_one_eq_mod]
 have e:(((x % ((2^64:Nat):Int)).toNat % 2^16:Nat):Int)=y % 65536:=gA
 rw[e]
 have b0:0≤y % 65536:=gA
 have b1:y % 65536<65536:=gA
 generalize y % 65536=n at *
 have e:n % 2^64=n:=Int.emod_eq_of_lt gA gA
 simp only[IntKind.wrap,IntKind.bits,IntKind.signed,e]
 rw[if_neg (by simp;omega)]
theorem En (l m:List Int)(i:Nat)(h:i<l.length):aC (l++m) i=aC l i:=by simp[aC,List.getD,List.getElem?_append,h]
theorem zl (l m:List Int)(i:Nat)(h:l.length≤i):aC (l++m) i=aC m (i-l.length):=by simp[aC,List.getD,List.getElem?_append,show ¬i<l.length by omega]
theorem aeM (l:List Int)(i:Nat)(h:i<l.length):aC l.reverse i=aC l (l.length-1-i):=by
 simp[aC,List.getD,List.getElem?_reverse h]
theorem qN (l:List Int)(n i:Nat)(h:i<n):aC (l.take n) i=aC l i:=by simp[aC,List.getD,List.getElem?_take,h]
theorem zm (l:List Int)(n i:Nat):aC (l.drop n) i=aC l (n+i):=by simp[aC,List.getD,List.getElem?_drop]
theorem j_ (l:List Int)(k:Nat)(z:Int)(j:Nat)(h:k≠j):aC (l.set k z) j=aC l j:=by simp[aC,List.getD,List.getElem?_set,h]
theorem mH (l:List Int)(k:Nat)(z:Int)(h:k<l.length):aC (l.set k z) k=z:=by simp[aC,List.getD,List.getElem?_set,h]
def kM (p l:List Int):List Int:=l.reverse++p
theorem Dr (p l:List Int)(i:Nat)(h:i<l.length):aC (kM p l) i=aC l (l.length-1-i):=by
 unfold kM
 rw[En _ _ _ (by simpa using h),aeM _ _ h]
theorem Lp (p l:List Int)(i:Nat)(h:l.length≤i):aC (kM p l) i=aC p (i-l.length):=by
 unfold kM
 rw[zl _ _ _ (by simpa using h),List.length_reverse]
def nZ (p l:List Int):List Int:=fM 8 (fun i=>aC (kM p l) i)
theorem nJ (p l:List Int):(nZ p l).length=8:=bQ _ _
theorem tH (p l:List Int)(i:Nat)(h:i<8):aC (nZ p l) i=aC (kM p l) i:=dN _ _ _ h
theorem abR (p:List Int)(hp:p.length=8):nZ p []=p:=(dJ hp (fun i hi=>by unfold kM;simp)).symm
def tJ (a h:List Int):Nat→Int
 | 0=>2048
 | i+1=>tJ a h i+aC a (i+1)*aC h i
def gs (a h:List Int):Int:=tJ a h 8 / 4096
theorem Eo (a h h':List Int):∀n,(∀i,i<n→aC h i=aC h' i)→tJ a h n=tJ a h' n
 | 0,_=>rfl
 | n+1,e=>by
  show tJ a h n+aC a (n+1)*aC h n=tJ a h' n+aC a (n+1)*aC h' n
  rw[Eo a h h' n (fun i hi=>e i gA),e n gA]
theorem abS (a h h':List Int)(e:∀i,i<8→aC h i=aC h' i):gs a h=gs a h':=by unfold gs;rw[Eo a h h' 8 e]
def nK (a:List Int):Bool:=a.all fun x=>decide (-1048576≤x)&&decide (x≤1048576)
theorem kg (l:List Int):nK l=true↔∀i,i<l.length→-1048576≤aC l i∧aC l i≤1048576:=by
 unfold nK
 rw[List.all_eq_true]
 constructor
 ·intro h i hi
  have:=h l[i] (List.getElem_mem hi)
  simp only[Bool.and_eq_true,decide_eq_true_eq]at this
  simpa [aC,List.getD,hi] using this
 intro h x hx
 obtain⟨i,hi,rfl⟩:=List.getElem_of_mem hx
 have:=h i hi
 simp only[aC,List.getD,List.getElem?_eq_getElem hi,Option.getD_some]at this
 simp[this]
theorem jE (l:List Int)(lo hi:Int)(h0:lo≤0)(h1:0≤hi)(h:∀i,i<l.length→lo≤aC l i∧aC l i≤hi)(i:Nat):lo≤aC l i∧aC l i≤hi:=by
 by_cases hi':i<l.length
 ·exact h i hi'
 rw[dO l i gA];omega
theorem Ep (x y:Int)(h1:-1048576≤x)(h2:x≤1048576)(h3:-32768≤y)(h4:y≤32767):-34359738368≤x*y∧x*y≤34359738368:=by
 have e1:0≤(1048576-x)*(y+32768):=Int.mul_nonneg gA gA
 have e2:0≤(x+1048576)*(32767-y):=Int.mul_nonneg gA gA
 have e3:0≤(x+1048576)*(y+32768):=Int.mul_nonneg gA gA
 have e4:0≤(1048576-x)*(32767-y):=Int.mul_nonneg gA gA
 simp only[Int.sub_mul,Int.add_mul,Int.mul_add,Int.mul_sub]at e1 e2 e3 e4
 omega
theorem Dt (a h:List Int)(ha:∀i,-1048576≤aC a i∧aC a i≤1048576)(hh:∀i,-32768≤aC h i∧aC h i≤32767):∀n:Nat,2048-34359738368*(n:Int)≤tJ a h n∧tJ a h n≤2048+34359738368*(n:Int)
 | 0=>by show(2048:Int)-34359738368*((0:Nat):Int)≤2048∧(2048:Int)≤2048+34359738368*((0:Nat):Int);omega
 | n+1=>by
  have i1:=Dt a h ha hh n
  have i2:=Ep _ _ (ha (n+1)).1 (ha (n+1)).2 (hh n).1 (hh n).2
  show _≤tJ a h n+aC a (n+1)*aC h n∧tJ a h n+aC a (n+1)*aC h n≤_
  omega
theorem agP (a h:List Int)(ha:∀i,-1048576≤aC a i∧aC a i≤1048576)(hh:∀i,-32768≤aC h i∧aC h i≤32767):-67108864≤gs a h∧gs a h≤67108865:=by
 have:=Dt a h ha hh 8
 unfold gs
 omega
def okF (a p l:List Int):Bool:=nK a&&decide (aC a 0=4096)&&aL p&&aL l
def mI (a p l:List Int):Nat→List Int
 | 0=>[]
 | n+1=>mI a p l n++[eU (aC l n-gs a (kM p (mI a p l n)))]
theorem mo (a p l:List Int):∀n,(mI a p l n).length=n
 | 0=>rfl
 | n+1=>by show(mI a p l n++[_]).length=_;rw[List.length_append,mo a p l n];rfl
theorem UJ (l:List Int)(z:Int)(h:aL l=true)(hz:-32768≤z∧z≤32767):aL (l++[z])=true:=by
 rw[aV]at h ⊢
 intro i hi
 by_cases hl:i<l.length
 ·rw[En _ _ _ hl];exact h i hl
 have:i=l.length:=by simp at hi;omega
 subst this
 rw[zl _ _ _ (Nat.le_refl _),Nat.sub_self]
 exact hz
theorem lF (a p l:List Int):∀n,aL (mI a p l n)=true
 | 0=>rfl
 | n+1=>UJ _ _ (lF a p l n) (kK _)
theorem UM (l:List Int)(n:Nat)(h:aL l=true):aL (l.take n)=true:=by
 unfold aL at *
 rw[List.all_eq_true]at *
 exact fun x hx=>h x (List.mem_of_mem_take hx)
theorem uK (p l:List Int)(hp:aL p=true)(hl:aL l=true)(i:Nat):-32768≤aC (kM p l) i∧aC (kM p l) i≤32767:=by
 have h:aL (kM p l)=true:=by
  unfold aL kM at *
  rw[List.all_eq_true]at *
  intro x hx
  rcases List.mem_append.1 hx with h|h
  ·exact hl x (List.mem_reverse.1 h)
  exact hp x h
 exact jE _ _ _ gA gA ((aV _).1 h) i
theorem Er (p l:List Int)(hp:aL p=true)(hl:aL l=true):aL (nZ p l)=true:=by
 rw[aV,nJ]
 intro i hi
 rw[tH _ _ _ hi]
 exact uK p l hp hl i
theorem ZN (p l:List Int)(s:Int)(i:Nat)(h:i<8):aC (nZ p (l++[s])) i=if i=0 then s else aC (nZ p l) (i-1):=by
 rw[tH _ _ _ h]
 by_cases h0:i=0
 ·subst h0
  rw[if_pos rfl,Dr _ _ _ (by simp)]
  rw[zl _ _ _ (by simp)]
  simp[aC]
 rw[if_neg h0,tH _ _ _ gA]
 by_cases hl:i-1<l.length
 ·rw[Dr _ _ _ (by simp;omega),Dr _ _ _ hl]
  rw[En _ _ _ (by simp;omega)]
  congr 1
  simp
  omega
 rw[Lp _ _ _ (by simp;omega),Lp _ _ _ gA]
 congr 1
 simp
 omega
theorem aeN (a p l:List Int):gs a (nZ p l)=gs a (kM p l):=abS _ _ _ (fun i hi=>tH p l i hi)
def xQ (a p l:List Int):List Int:=if okF a p l=true then mI a p l l.length else[]
def Du (a p l:List Int):List Int:=if okF a p l=true then nZ p (mI a p l l.length)else ay 8
def I8 (a p l:List Int):Int:=if okF a p l=true then 0 else 2
theorem Lr (a p l:List Int)(h:okF a p l=true):(xQ a p l).length=l.length:=by unfold xQ;rw[if_pos h,mo]
theorem rQ (a p l:List Int):(Du a p l).length=8:=by unfold Du;split;exact nJ _ _;exact au 8
theorem UO (a p l:List Int):(xQ a p l).length≤l.length:=by unfold xQ;split;rw[mo];exact Nat.le_refl _;exact Nat.zero_le _
theorem Yj (a p l:List Int)(n:Nat):∀d,(mI a p l (n+d)).take n=mI a p l n
 | 0=>by rw[Nat.add_zero,List.take_of_length_le (by rw[mo];exact Nat.le_refl _)]
 | d+1=>by
  show(mI a p l (n+d)++[_]).take n=_
  rw[List.take_append_of_le_length (by rw[mo];omega)]
  exact Yj a p l n d
theorem aeO (a p l:List Int)(n d:Nat):aC (mI a p l (n+1+d)) n=eU (aC l n-gs a (kM p (mI a p l n))):=by
 have h:=Yj a p l (n+1) d
 rw[←qN _ (n+1) n gA,h]
 show aC (mI a p l n++[_]) n=_
 rw[zl _ _ _ (by rw[mo];exact Nat.le_refl _),mo,Nat.sub_self]
 rfl
def fq (f:Nat→Int):Nat→Int
 | 0=>0
 | n+1=>fq f n+f n
theorem ji (f g:Nat→Int):∀n,(∀i,i<n→f i=g i)→fq f n=fq g n
 | 0,_=>rfl
 | n+1,e=>by show fq f n+f n=fq g n+g n;rw[ji f g n (fun i hi=>e i gA),e n gA]
theorem yE (f:Nat→Int):∀n,fq f (n+1)=f 0+fq (fun i=>f (i+1)) n
 | 0=>by show 0+f 0=f 0+0;omega
 | n+1=>by
  show fq f (n+1)+f (n+1)=f 0+(fq (fun i=>f (i+1)) n+f (n+1))
  rw[yE f n];omega
theorem Py (f:Nat→Int):∀n,fq f (n+1)=fq (fun i=>f (n-i)) (n+1)
 | 0=>by show 0+f 0=0+f (0-0);rfl
 | n+1=>by
  rw[yE (fun i=>f (n+1-i)) (n+1)]
  show fq f (n+1)+f (n+1)=f (n+1-0)+fq (fun i=>f (n+1-(i+1))) (n+1)
  rw[Py f n,Nat.sub_zero,ji (fun i=>f (n+1-(i+1))) (fun i=>f (n-i)) (n+1) (fun i _=>by rw[show n+1-(i+1)=n-i by omega])]
  omega
def foS (r l:List Int)(n:Nat):Int:=fq (fun i=>aC r i*aC l (n-i)) (n+1)
theorem abT (r l:List Int)(n:Nat):foS r l n=foS l r n:=by
 unfold foS
 rw[Py]
 apply ji
 intro i hi
 rw[Int.mul_comm,show n-(n-i)=i by omega]
def Yk (r l:List Int)(n:Nat):Int:=eU ((foS r l n+2048) / 4096)
def jc (n:Nat):List Int:=fM n (fun i=>if i=0 then 4096 else 0)
theorem pK (x y:Int)(h1:-32768≤x)(h2:x≤32767)(h3:-32768≤y)(h4:y≤32767):-1073741824≤x*y∧x*y≤1073741824:=by
 have:=qK x y h1 h2 h3 h4
 omega
theorem zn (f:Nat→Int)(h:∀i,-1073741824≤f i∧f i≤1073741824):∀n:Nat,-1073741824*(n:Int)≤fq f n∧fq f n≤1073741824*(n:Int)
 | 0=>by show -1073741824*((0:Nat):Int)≤0∧(0:Int)≤1073741824*((0:Nat):Int);omega
 | n+1=>by
  have:=zn f h n
  have:=h n
  show _≤fq f n+f n∧fq f n+f n≤_
  omega
def okO (r l:List Int):Bool:=aL r&&aL l
def u_ (r l:List Int):Bool:=decide (r.length=l.length)&&decide (l.length≤80)
def Es (r l:List Int):List Int:=if u_ r l=true∧okO r l=true then fM l.length (Yk r l)else[]
def J_ (r l:List Int):Int:=if u_ r l=true then(if okO r l=true then 0 else 2)else 1
def Ls (l r:List Int)(i m:Nat):Int:=fq (fun j=>aC l j*aC r (m-j)) (if m<i then m+1 else i)
theorem ZP (l r:List Int)(m:Nat):Ls l r 0 m=0:=by unfold Ls;rw[if_neg gA];rfl
theorem ZQ (l r:List Int)(i m:Nat):Ls l r (i+1) m=Ls l r i m+(if i≤m then aC l i*aC r (m-i)else 0):=by
 unfold Ls
 by_cases h:i≤m
 ·rw[if_pos h,if_neg (show ¬m<i by omega)]
  by_cases h':m<i+1
  ·rw[if_pos h',show m+1=i+1 by omega];rfl
  rw[if_neg h'];rfl
 rw[if_neg h,if_pos gA,if_pos gA];omega
theorem abU (l r:List Int)(n m:Nat)(h:m<n):Ls l r n m=foS r l m:=by
 unfold Ls
 rw[if_pos h,abT]
 rfl
def vT (l r:List Int)(n i k:Nat)(rs:List Int):Prop:=rs.length=n∧∀m,m<n→aC rs m=Ls l r i m+(if i≤m∧m<i+k then aC l i*aC r (m-i)else 0)
theorem Pz (l r:List Int)(n:Nat):vT l r n 0 0 (ay n):=⟨au n,fun m hm=>by rw[iZ,ZP,if_neg gA];rfl⟩
theorem ZR {l r:List Int}{n i k:Nat}{rs:List Int}(h:vT l r n i k rs)(hk:i+k<n):vT l r n i (k+1) (rs.set (i+k) (aC rs (i+k)+aC l i*aC r k)):=by
 refine⟨by rw[List.length_set];exact h.1,fun m hm=>?_⟩
 by_cases e:i+k=m
 ·subst e
  rw[mH _ _ _ (by rw[h.1];omega),h.2 _ hm,if_neg gA,if_pos gA,show i+k-i=k by omega]
  omega
 rw[j_ _ _ _ _ e,h.2 m hm]
 by_cases c:i≤m∧m<i+k
 ·rw[if_pos c,if_pos gA]
 rw[if_neg c,if_neg gA]
theorem UQ {l r:List Int}{n i k:Nat}{rs:List Int}(h:vT l r n i k rs)(hk:¬i+k<n):vT l r n i (k+1) rs:=by
 refine⟨h.1,fun m hm=>?_⟩
 rw[h.2 m hm]
 by_cases c:i≤m∧m<i+k
 ·rw[if_pos c,if_pos gA]
 rw[if_neg c,if_neg gA]
theorem ZT {l r:List Int}{n i:Nat}{rs:List Int}(h:vT l r n i n rs):vT l r n (i+1) 0 rs:=by
 refine⟨h.1,fun m hm=>?_⟩
 rw[h.2 m hm,ZQ,if_neg (show ¬(i+1≤m∧m<i+1+0) by omega)]
 by_cases c:i≤m
 ·rw[if_pos c,if_pos gA];omega
 rw[if_neg c,if_neg gA];omega
theorem ZU {l r:List Int}{n:Nat}{rs:List Int}(h:vT l r n n 0 rs)(m:Nat)(hm:m<n):aC rs m=foS r l m:=by
 rw[h.2 m hm,if_neg gA,abU l r n m hm];omega
theorem PD {l r:List Int}{n i k:Nat}{rs:List Int}(h:vT l r n i k rs)(hn:n≤80)(hr:∀i,-32768≤aC r i∧aC r i≤32767)(hl:∀i,-32768≤aC l i∧aC l i≤32767)(m:Nat)(hm:m<n)(hi:i≤n):-90000000000≤aC rs m∧aC rs m≤90000000000:=by
 rw[h.2 m hm]
 have h1:=zn (fun j=>aC l j*aC r (m-j)) (fun j=>pK _ _ (hl j).1 (hl j).2 (hr _).1 (hr _).2) (if m<i then m+1 else i)
 have h2:=pK _ _ (hl i).1 (hl i).2 (hr (m-i)).1 (hr (m-i)).2
 have h3:(if m<i then m+1 else i)≤80:=by split<;>omega
 unfold Ls
 generalize (if m<i then m+1 else i)=q at *
 generalize fq _ q=S at *
 split<;>omega
def rgL (a:List Int)(n:Int):List Int:=if 0≤n∧n≤80 then xQ a (ay 8) (jc n.toNat)else[]
def rgE (a:List Int)(n:Int):Int:=if 0≤n∧n≤80 then I8 a (ay 8) (jc n.toNat)else 1
def lQ (x:Int):Int:=if x<0 then 0 else x
def yF (c e d f:Int):Bool:=
 if e≤0 then false else if f≤0 then true else decide (lQ d*lQ d*e<lQ c*lQ c*f)
theorem aeP (c e d f:Int)(h:yF c e d f=true):0<e:=by
 unfold yF at h
 by_cases he:e≤0
 ·rw[if_pos he]at h;cases h
 omega
def yG (h:List Int)(eH i:Nat):Int:=aC h (80-eH+i % eH)
def jV (h:List Int)(eH:Nat):List Int:=fM 40 (yG h eH)
def mJ (h:List Int)(eH:Int):List Int:=if 20≤eH∧eH≤79 then jV h eH.toNat else[]
def AU (eH:Int):Int:=if 20≤eH∧eH≤79 then 0 else 2
theorem kW (h:List Int)(eH:Nat):(jV h eH).length=40:=bQ _ _
theorem qO (h:List Int)(eH:Nat)(h1:20≤eH)(h2:eH≤79):mJ h eH=jV h eH∧AU eH=0:=
 ⟨by unfold mJ;rw[if_pos gA];rfl,by unfold AU;rw[if_pos gA]⟩
theorem uL (h:List Int)(eH:Nat)(hr:aL h=true):aL (jV h eH)=true:=by
 rw[aV,kW]
 intro i hi
 unfold jV
 rw[dN _ _ _ hi]
 exact jE _ _ _ gA gA ((aV h).1 hr) _
def fE (a b:List Int)(n:Nat):Int:=fq (fun i=>aC a i*aC b i) n
theorem mq (a b:List Int)(ha:aL a=true)(hb:aL b=true)(n:Nat):-1073741824*(n:Int)≤fE a b n∧fE a b n≤1073741824*(n:Int):=
 zn _ (fun i=>by
  have h1:=jE _ _ _ gA gA ((aV a).1 ha) i
  have h2:=jE _ _ _ gA gA ((aV b).1 hb) i
  exact pK _ _ h1.1 h1.2 h2.1 h2.2) n
theorem Et (x:Int):0≤x*x:=by
 rcases Int.le_total 0 x with h|h
 ·exact Int.mul_nonneg h h
 exact Int.mul_nonneg_of_nonpos_of_nonpos h h
theorem AX (a:List Int):∀n,0≤fE a a n
 | 0=>Int.le_refl _
 | n+1=>by
  have:=AX a n
  have:=Et (aC a n)
  show 0≤fE a a n+aC a n*aC a n
  omega
def jy (C E:Nat→Int):Nat→Nat×Int×Int
 | 0=>(20,0,0)
 | m+1=>if 0<C (20+m)∧yF (C (20+m)) (E (20+m)) (jy C E m).2.1 (jy C E m).2.2=true then(20+m,C (20+m),E (20+m))else jy C E m
theorem Dv (C E:Nat→Int)(m:Nat)(h:0<C (20+m)∧yF (C (20+m)) (E (20+m)) (jy C E m).2.1 (jy C E m).2.2=true):jy C E (m+1)=(20+m,C (20+m),E (20+m)):=if_pos h
theorem Lu (C E:Nat→Int)(m:Nat)(h:¬(0<C (20+m)∧yF (C (20+m)) (E (20+m)) (jy C E m).2.1 (jy C E m).2.2=true)):jy C E (m+1)=jy C E m:=if_neg h
theorem Lv (C E:Nat→Int):∀m,20≤(jy C E m).1∧(jy C E m).1<20+m+1∧((jy C E m).1=20∨(jy C E m).1<20+m)
 | 0=>⟨Nat.le_refl _,by show 20<20+0+1;omega,.inl rfl⟩
 | m+1=>by
  have:=Lv C E m
  by_cases h:0<C (20+m)∧yF (C (20+m)) (E (20+m)) (jy C E m).2.1 (jy C E m).2.2=true
  ·rw[Dv C E m h];show 20≤20+m∧20+m<20+(m+1)+1∧(20+m=20∨20+m<20+(m+1));omega
  rw[Lu C E m h];omega
theorem Yl (C E:Nat→Int):∀m,((jy C E m).2.1=0∧(jy C E m).2.2=0)∨((jy C E m).2.1=C (jy C E m).1∧(jy C E m).2.2=E (jy C E m).1∧0<(jy C E m).2.1∧0<(jy C E m).2.2)
 | 0=>.inl ⟨rfl,rfl⟩
 | m+1=>by
  by_cases h:0<C (20+m)∧yF (C (20+m)) (E (20+m)) (jy C E m).2.1 (jy C E m).2.2=true
  ·rw[Dv C E m h];exact .inr ⟨rfl,rfl,h.1,aeP _ _ _ _ h.2⟩
  rw[Lu C E m h];exact Yl C E m
theorem UR (C E:Nat→Int)(B:Int)(hB:0≤B)(hC:∀k,C k≤B)(hE:∀k,E k≤B)(m:Nat):0≤(jy C E m).2.1∧(jy C E m).2.1≤B∧0≤(jy C E m).2.2∧(jy C E m).2.2≤B:=by
 rcases Yl C E m with h|h
 ·omega
 have h1:=hC (jy C E m).1
 have h2:=hE (jy C E m).1
 omega
def gains:List Int:=[0,3277,6554,9830,12452,14746,16384,18022]
def iR (n:Nat):Int:=gains.getD n 0
theorem tK (n:Nat):0≤iR n∧iR n≤18022:=by
 by_cases h:n<8
 ·have:∀n:Fin 8,0≤iR n.val∧iR n.val≤18022:=by decide
  exact this ⟨n,h⟩
 unfold iR
 rw[show gains.getD n 0=aC gains n from rfl,dO gains n (by show 8≤n;omega)]
 omega
def Aq (n:Int):Int:=if 0≤n∧n≤7 then iR n.toNat else 0
def gaE (n:Int):Int:=if 0≤n∧n≤7 then 0 else 2
def Ut (c e:Int):Nat→Nat
 | 0=>0
 | n+1=>if n+1<8∧(iR (n+1)+iR n)*e<2*16384*c then n+1 else Ut c e n
def iT (x:Int):Int:=if 1099511627776<x then 1099511627776 else x
def Ym (c e:Int):Int:=if c≤0∨e≤0 then 0 else(Ut (iT c) (iT e) 7:Int)
theorem zo (x:Int)(h:0<x):0<iT x∧iT x≤1099511627776:=by unfold iT;split<;>omega
theorem abV (c e:Int):∀n,Ut c e n≤n
 | 0=>Nat.le_refl _
 | n+1=>by
  have:=abV c e n
  unfold Ut
  split<;>omega
def mlo (i:Nat):Int:=if i<8 then -31000 else if i<96 then -32768 else if i=98 then 20 else 0
def mhi (i:Nat):Int:=if i<8 then 31000 else if i<97 then 32767 else if i=97 then 18022 else if i=98 then 79 else if i=99 then 6 else 65535
def cO (l:List Int):Bool:=(List.range 101).all fun i=>decide (mlo i≤aC l i)&&decide (aC l i≤mhi i)
theorem kI (l:List Int):cO l=true↔∀i,i<101→mlo i≤aC l i∧aC l i≤mhi i:=by
 unfold cO
 rw[List.all_eq_true]
 constructor
 ·intro h i hi
  have:=h i (List.mem_range.2 hi)
  simpa using this
 intro h i hi
 have:=h i (List.mem_range.1 hi)
 simpa using this
theorem LC (i:Nat)(h:i<8):mlo i=-31000∧mhi i=31000:=⟨if_pos h,if_pos h⟩
theorem kN (i:Nat)(h:8≤i)(h2:i<96):mlo i=-32768∧mhi i=32767:=by
 unfold mlo mhi
 rw[if_neg gA,if_pos h2,if_neg gA,if_pos gA]
 exact⟨rfl,rfl⟩
def reflB (l:List Int):Bool:=(List.range 8).all fun i=>decide (-31000≤aC l i)&&decide (aC l i≤31000)
theorem wW (l:List Int):reflB l=true↔∀i,i<8→-31000≤aC l i∧aC l i≤31000:=by
 unfold reflB
 rw[List.all_eq_true]
 constructor
 ·intro h i hi
  have:=h i (List.mem_range.2 hi)
  simpa using this
 intro h i hi
 have:=h i (List.mem_range.1 hi)
 simpa using this
theorem AY (l:List Int)(o n:Nat):aL (bP l o n)=true↔∀i,i<n→-32768≤aC l (o+i)∧aC l (o+i)≤32767:=by
 rw[aV,aR]
 constructor
 ·intro h i hi;have:=h i hi;rwa [fV _ _ _ _ hi]at this
 intro h i hi;rw[fV _ _ _ _ hi];exact h i hi
theorem mX (l:List Int):cO l=true↔reflB l=true∧aL (bP l 8 8)=true∧aL (bP l 16 80)=true∧(0≤aC l 96∧aC l 96≤32767)∧(0≤aC l 97∧aC l 97≤18022)∧(20≤aC l 98∧aC l 98≤79)∧(0≤aC l 99∧aC l 99≤6)∧(0≤aC l 100∧aC l 100≤65535):=by
 rw[kI,wW,AY,AY]
 constructor
 ·intro h
  refine⟨fun i hi=>?_,fun i hi=>?_,fun i hi=>?_,h 96 gA,h 97 gA,h 98 gA,h 99 gA,h 100 gA⟩
  ·have:=h i gA;rw[(LC i hi).1,(LC i hi).2]at this;exact this
  ·have:=h (8+i) gA;rw[(kN (8+i) gA gA).1,(kN (8+i) gA gA).2]at this;exact this
  have:=h (16+i) gA;rw[(kN (16+i) gA gA).1,(kN (16+i) gA gA).2]at this;exact this
 rintro⟨h1,h2,h3,h4,h5,h6,h7,h8⟩ i hi
 by_cases e1:i<8
 ·rw[(LC i e1).1,(LC i e1).2];exact h1 i e1
 by_cases e2:i<16
 ·rw[(kN i gA gA).1,(kN i gA gA).2]
  have:=h2 (i-8) gA
  rwa [show 8+(i-8)=i by omega]at this
 by_cases e3:i<96
 ·rw[(kN i gA gA).1,(kN i gA gA).2]
  have:=h3 (i-16) gA
  rwa [show 16+(i-16)=i by omega]at this
 obtain rfl|rfl|rfl|rfl|rfl:i=96∨i=97∨i=98∨i=99∨i=100:=gA
 ·exact h4
 ·exact h5
 ·exact h6
 ·exact h7
 exact h8
def iL:List Int:=((ay 101).set 98 20).set 100 21845
theorem jH:iL.length=101:=by unfold iL;rw[List.length_set,List.length_set,au]
theorem AZ:cO iL=true:=by decide +kernel
abbrev PI (eH g:Int)(b:List Int):Prop:=b.length=40∧(20≤eH∧eH≤79)∧0≤g∧g≤32767
def mxN (v:List Int)(g:Int)(b:List Int)(i:Nat):Int:=eU ((eU (aC v i)*g+8192) / 16384+eU (aC b i))
def mxA (v:List Int)(g:Int)(b:List Int):List Int:=fM 40 (mxN v g b)
def zq (h:List Int)(eH g:Int)(b:List Int):List Int:=if PI eH g b then mxA (mJ h eH) g b else[]
def yH (eH g:Int)(b:List Int):Int:=if b.length=40 then(if PI eH g b then 0 else 2)else 1
theorem LH (v:List Int)(g:Int)(b:List Int):(mxA v g b).length=40:=bQ _ _
theorem Yn (v:List Int)(g:Int)(b:List Int)(i:Nat)(h:i<40):aC (mxA v g b) i=mxN v g b i:=dN _ _ _ h
theorem ahq (v:List Int)(g:Int)(b:List Int)(i:Nat):-32768≤mxN v g b i∧mxN v g b i≤32767:=by unfold mxN;exact kK _
theorem ZW (v:List Int)(g:Int)(b:List Int):aL (mxA v g b)=true:=by
 rw[aV,LH]
 intro i hi
 rw[Yn _ _ _ _ hi]
 exact ahq _ _ _ _
theorem zu {h:List Int}{eH g:Int}{b:List Int}(k:PI eH g b):zq h eH g b=mxA (mJ h eH) g b∧yH eH g b=0:=⟨if_pos k,by unfold yH;rw[if_pos k.1,if_pos k]⟩
theorem zw {h:List Int}{eH g:Int}{b:List Int}(k:b.length≠40):zq h eH g b=[]∧yH eH g b=1:=⟨if_neg (fun q=>k q.1),if_neg k⟩
theorem qA {h:List Int}{eH g:Int}{b:List Int}(k:b.length=40)(q:¬PI eH g b):zq h eH g b=[]∧yH eH g b=2:=⟨if_neg q,by unfold yH;rw[if_pos k,if_neg q]⟩
def ZX (h b:List Int)(i:Nat):Int:=if i<40 then aC h (i+40)else eU (aC b (i-40))
def Eu (h b:List Int):List Int:=fM 80 (ZX h b)
def Dw (h b:List Int):List Int:=if b.length=40 then Eu h b else ay 80
def OJ (b:List Int):Int:=if b.length=40 then 0 else 1
theorem qg (h b:List Int):(Eu h b).length=80:=bQ _ _
theorem aeQ (h b:List Int)(i:Nat)(k:i<80):aC (Eu h b) i=ZX h b i:=dN _ _ _ k
theorem LJ (h b:List Int):(Dw h b).length=80:=by unfold Dw;split;exact qg _ _;exact au _
theorem qj {h b:List Int}(k:b.length=40):Dw h b=Eu h b∧OJ b=0:=⟨if_pos k,if_pos k⟩
theorem LW {h b:List Int}(k:b.length≠40):Dw h b=ay 80∧OJ b=1:=⟨if_neg k,if_neg k⟩
def uF (s:Int):Nat→Int
 | 0=>s
 | k+1=>vS (uF s k)
def nzN (s x:Int)(k:Nat):Int:=Us (uF s k) x
def yI (s x:Int)(n:Nat):List Int:=fM n (nzN s x)
theorem ahr (s:Int)(h0:0≤s)(h1:s≤65535):∀k,0≤uF s k∧uF s k≤65535
 | 0=>⟨h0,h1⟩
 | k+1=>by have:=AR (uF s k);show 0≤vS (uF s k)∧vS (uF s k)≤65535;omega
theorem A9 (s:Int):∀k,uF (vS s) k=uF s (k+1)
 | 0=>rfl
 | k+1=>by show vS (uF (vS s) k)=vS (uF s (k+1));rw[A9 s k]
theorem oG (s x:Int)(n:Nat):(yI s x n).length=n:=bQ _ _
theorem Yo (s x:Int)(n i:Nat)(h:i<n):aC (yI s x n) i=nzN s x i:=dN _ _ _ h
theorem PO (s x:Int)(n:Nat):yI s x (n+1)=Us s x::yI (vS s) x n:=by
 refine(dJ (by simp[oG]) (fun i hi=>?_)).symm
 match i,hi with
 | 0,_=>rfl
 | i+1,hi=>
  show aC (yI (vS s) x n) i=_
  rw[Yo _ _ _ _ gA]
  unfold nzN
  rw[A9]
theorem ahs (s x:Int)(k:Nat):-Iw x≤nzN s x k∧nzN s x k≤Iw x:=ahp _ _
theorem Ka (s x:Int)(n:Nat):aL (yI s x n)=true:=by
 rw[aV,oG]
 intro i hi
 rw[Yo _ _ _ _ hi]
 have:=ahs s x i
 have:=UF x
 omega
def memT (l:List Int)(er sd:Int)(x:List Int):List Int:=jr ((l.set 99 er).set 100 sd) 16 x
abbrev erO (l:List Int)(half:Int):Prop:=cO l=true∧0≤half∧half≤1
def siX (l:List Int):List Int:=yI (aC l 100) 8 40
def yX (l:List Int):List Int:=if cO l=true then memT l (aC l 99) (uF (aC l 100) 40) (Eu (bP l 16 80) (siX l))else ay 101
def Uu (l:List Int)(s:Bool):Bool:=if cO l=true then s else false
def yY (l:List Int):List Int:=if cO l=true then siX l else[]
def Uv (l:List Int):Int:=if cO l=true then 0 else 2
theorem Yp (l:List Int):(siX l).length=40:=oG _ _ _
theorem mK {l:List Int}{s:Bool}(k:cO l=true):yX l=memT l (aC l 99) (uF (aC l 100) 40) (Eu (bP l 16 80) (siX l))∧Uu l s=s∧yY l=siX l∧Uv l=0:=⟨if_pos k,if_pos k,if_pos k,if_pos k⟩
theorem Ce {l:List Int}{s:Bool}(k:cO l=false):yX l=ay 101∧Uu l s=false∧yY l=[]∧Uv l=2:=by
 have k':¬cO l=true:=by rw[k];decide
 exact⟨if_neg k',if_neg k',if_neg k',if_neg k'⟩
theorem abW (l:List Int)(er sd:Int)(x:List Int):(memT l er sd x).length=l.length:=by unfold memT;rw[eG,List.length_set,List.length_set]
theorem qm (l:List Int)(k:Nat)(z:Int)(h:k<l.length)(i:Nat):aC (l.set k z) i=if i=k then z else aC l i:=by
 unfold aC
 by_cases e:i=k
 ·subst e;simp[List.getD,h]
 simp[List.getD,e,List.getElem?_set,Ne.symm e]
theorem abX (l:List Int)(hl:l.length=101)(er sd:Int)(x:List Int)(hx:x.length=80)(i:Nat)(hi:i<101):aC (memT l er sd x) i=if 16≤i∧i<96 then aC x (i-16)else if i=100 then sd else if i=99 then er else aC l i:=by
 unfold memT
 rw[gD _ _ _ _ (by rw[List.length_set,List.length_set,hl];exact hi),hx]
 by_cases h1:16≤i∧i<96
 ·rw[if_pos gA,if_pos h1]
 rw[if_neg gA,if_neg h1,qm _ _ _ (by rw[List.length_set];omega),qm _ _ _ gA]
theorem Kc (h b:List Int)(hr:∀i,i<80→-32768≤aC h i∧aC h i≤32767)(i:Nat)(hi:i<80):-32768≤aC (Eu h b) i∧aC (Eu h b) i≤32767:=by
 rw[aeQ _ _ _ hi]
 unfold ZX
 split
 ·exact hr _ gA
 exact kK _
theorem ZY (l:List Int)(hl:l.length=101)(hg:cO l=true)(er sd:Int)(b:List Int)(e0:0≤er)(e6:er≤6)(s0:0≤sd)(s9:sd≤65535):cO (memT l er sd (Eu (bP l 16 80) b))=true:=by
 rw[kI]
 have h:=(kI l).1 hg
 intro i hi
 rw[abX l hl _ _ _ (qg _ _) i hi]
 by_cases h1:16≤i∧i<96
 ·rw[if_pos h1,(kN i gA h1.2).1,(kN i gA h1.2).2]
  refine Kc _ _ (fun j hj=>?_) _ gA
  rw[fV _ _ _ _ hj]
  have:=h (16+j) gA
  rw[(kN (16+j) gA gA).1,(kN (16+j) gA gA).2]at this
  exact this
 rw[if_neg h1]
 by_cases h2:i=100
 ·rw[if_pos h2,h2];exact⟨s0,s9⟩
 rw[if_neg h2]
 by_cases h3:i=99
 ·rw[if_pos h3,h3];exact⟨e0,e6⟩
 rw[if_neg h3];exact h i hi
theorem abY (l:List Int)(hl:l.length=101)(k:cO l=true):cO (yX l)=true:=by
 rw[(mK (s:=true) k).1]
 have hs:0≤aC l 100∧aC l 100≤65535:=(kI l).1 k 100 gA
 have b:0≤aC l 99∧aC l 99≤6:=(kI l).1 k 99 gA
 have c:=ahr (aC l 100) hs.1 hs.2 40
 exact ZY l hl k _ _ _ b.1 b.2 c.1 c.2
theorem L9 {l:List Int}(hl:l.length=101)(h:cO l=true):jv l:=fun i=>by
 by_cases hi:i<101
 ·have:=(kI l).1 h i hi
  have:-32768≤mlo i∧mhi i≤65535:=by unfold mlo mhi;split<;>(try split)<;>(try split)<;>(try split)<;>(try split)<;>omega
  omega
 rw[dO _ i gA];omega
def qo (A m x:List Int):List Int:=jr m 8 (Du A (bP m 8 8) x)
def uM (A m x:List Int):List Int:=xQ A (bP m 8 8) x
theorem vU (A m x:List Int):(qo A m x).length=m.length:=eG _ _ _
theorem abZ (A m x:List Int)(i:Nat)(hi:i<m.length):aC (qo A m x) i=if 8≤i∧i<16 then aC (Du A (bP m 8 8) x) (i-8)else aC m i:=by
 unfold qo
 rw[gD _ _ _ _ hi,rQ]
structure j6 (A:List Int):Prop where
 len:A.length=9
 wide:nK A=true
 one:aC A 0=4096
theorem PW (k:List Int)(hk:k.length=8)(h:bN k=true):j6 (qL k):=by
 have e:qL k=fM 9 (Az (aC k)):=if_pos h
 refine⟨vQ k,?_,?_⟩
 ·rw[kg,vQ]
  intro i hi
  rw[e,dN _ _ _ hi]
  have:=aeI k hk h i
  omega
 rw[e,dN _ _ _ gA,ZH]
theorem L_ {A m x:List Int}(hA:j6 A)(hg:cO m=true)(hx:aL x=true):okF A (bP m 8 8) x=true:=by
 unfold okF
 have p:=((mX m).1 hg).2.1
 simp[hA.wide,hA.one,p,hx]
theorem ab2 {A m x:List Int}(hA:j6 A)(hg:cO m=true)(hx:aL x=true):uM A m x=mI A (bP m 8 8) x x.length:=if_pos (L_ hA hg hx)
theorem ab3 {A m x:List Int}(hA:j6 A)(hg:cO m=true)(hx:aL x=true):(uM A m x).length=x.length:=Lr _ _ _ (L_ hA hg hx)
theorem UU {A m x:List Int}(hA:j6 A)(hg:cO m=true)(hx:aL x=true):aL (uM A m x)=true:=by rw[ab2 hA hg hx];exact lF _ _ _ _
theorem Ke {A m x:List Int}(hm:m.length=101)(hA:j6 A)(hg:cO m=true)(hx:aL x=true):cO (qo A m x)=true:=by
 rw[kI]
 intro i hi
 rw[abZ _ _ _ _ gA]
 by_cases h:8≤i∧i<16
 ·rw[if_pos h,(kN i h.1 gA).1,(kN i h.1 gA).2]
  have e:Du A (bP m 8 8) x=nZ (bP m 8 8) (mI A (bP m 8 8) x x.length):=if_pos (L_ hA hg hx)
  rw[e]
  have r:=Er (bP m 8 8) (mI A (bP m 8 8) x x.length) ((mX m).1 hg).2.1 (lF _ _ _ _)
  exact(aV _).1 r (i-8) (by rw[nJ];omega)
 rw[if_neg h];exact(kI m).1 hg i hi
theorem jI {m:List Int}(hg:cO m=true):bN (bP m 0 8)=true:=by
 rw[gQ,aR]
 intro i hi
 rw[fV _ _ _ _ hi]
 have:=(wW m).1 ((mX m).1 hg).1 i hi
 rw[Nat.zero_add]
 omega
theorem Z5 (l:List Int):aL (yY l)=true:=by
 unfold yY
 split
 ·exact Ka _ _ _
 rfl
def gP (base:Nat)(w:World)(v:Value)(l:List Int):Prop:=w.ownsRow base 3 1 v l.length (l.map (Value.int .i64))
theorem gP.ints {base:Nat}{w:World}{v:Value}{l:List Int}(h:gP base w v l):aS w v l:=Lh h
theorem gP.aH {base:Nat}{w w':World}{v:Value}{l:List Int}(h:gP base w v l)(g:w.grownBy w' none):gP base w' v l:=
 h.kept g (by rcases v.ownBlock with _|b<;>simp)
theorem gP.aJ {base:Nat}{w w':World}{v:Value}{l:List Int}{b:Nat}{cs:Array Value}{t:TypeId}{f:Nat×Nat}(h:gP base w v l)(g:w.grownBy w' (some b))(hb:w.heap[b]?=some (.cells cs t f))(ht:t≠3):gP base w' v l:=by
 refine h.kept g ?_
 rcases h.2 with⟨rfl,_⟩|⟨g',cap,cur,rfl,_,hg,_⟩
 ·exact .inl rfl
 right
 intro e
 simp[Value.ownBlock]at e
 subst e
 rw[hg]at hb
 simp at hb
 exact ht hb.2.1.symm
theorem gP.base {b b':Nat}{w:World}{v:Value}{l:List Int}(h:gP b w v l)(hb:b'≤b):gP b' w v l:=by
 refine⟨h.1,?_⟩
 rcases h.2 with h|⟨g,cap,cur,e,h1,h2⟩
 ·exact .inl h
 exact .inr ⟨g,cap,cur,e,gA,h2⟩
theorem bZ (b:Nat)(w:World):gP b w (.slice none 0 0) []:=World.ownsRow_nil _ _ _ _
def rR (v:Value)(l:List Int):Prop:=v=.slice none 0 0∨∃a c,v=.slice (some a) l.length c
theorem mY {W:World}{a:Addr}{n c:Nat}{l:List Int}(h:aS W (.slice (some a) n c) l):n=l.length∧n≤c∧∀i,i<l.length→W.cell? (a.add i)=some (.int .i64 (aC l i)):=by
 obtain⟨ad,c',e,h1,h2⟩:=h
 simp only[Value.slice.injEq]at e
 obtain⟨rfl,rfl,rfl⟩:=e
 refine⟨rfl,h1,fun i hi=>?_⟩
 obtain⟨a',e',h3⟩:=h2 gA
 cases e'
 exact h3 i hi
theorem wX {W:World}{l:List Int}(h:aS W (.slice none 0 0) l):l=[]:=by
 obtain⟨ad,c,e,_,_⟩:=h
 simp only[Value.slice.injEq]at e
 exact List.length_eq_zero_iff.1 e.2.1.symm
theorem Ints_nil (W:World):aS W (.slice none 0 0) []:=⟨none,0,rfl,Nat.le_refl _,fun h=>by simp at h⟩
theorem Yq {W:World}{v:Value}{l:List Int}(h:aS W v l)(hsh:rR v l)(k:Nat)(hk:k≤l.length) :
 ∃vA,(∀u,Sem.run prog (Instr.slice 32 v none (some (.int .i64 k)) none) u=.ok vA u)∧aS W vA (l.take k)∧rR vA (l.take k):=by
 obtain⟨i0,hi,hz0,hz1,hz2⟩:=info_parts nE
 rcases hsh with rfl|⟨a,c,rfl⟩
 ·obtain rfl:=wX h
  obtain rfl:k=0:=by simpa using hk
  exact⟨.slice none 0 0,fun u=>by simp[go_sem,sliced],Ints_nil W,.inl rfl⟩
 obtain⟨_,hc,bH⟩:=mY h
 have e:(l.take k).length=k:=by simp;omega
 refine⟨.slice (some a) k c,fun u=>?_,⟨some a,c,by rw[e],by rw[e];omega,fun _=>⟨a,rfl,fun i hi'=>?_⟩⟩,.inr ⟨a,c,by rw[e]⟩⟩
 ·rw[run_slice_h (P:=prog) u 32 (some a) l.length c (by kernel_rfl) .i64 k gA gA]
  simp[go_sem,sliced]
 rw[e]at hi'
 rw[bH i gA]
 simp[aC,List.getD,List.getElem?_take,hi']
theorem aeR {W:World}{v:Value}{l:List Int}(h:aS W v l)(hsh:rR v l)(k:Nat)(hk:k≤l.length) :
 ∃vB,(∀u,Sem.run prog (Instr.slice 32 v (some (.int .i64 k)) none none) u=.ok vB u)∧aS W vB (l.drop k)∧rR vB (l.drop k):=by
 rcases hsh with rfl|⟨a,c,rfl⟩
 ·obtain rfl:=wX h
  obtain rfl:k=0:=by simpa using hk
  exact⟨.slice none 0 0,fun u=>by simp[go_sem,sliced],Ints_nil W,.inl rfl⟩
 obtain⟨_,hc,bH⟩:=mY h
 have e:(l.drop k).length=l.length-k:=by simp
 refine⟨.slice (some (if c=k then a else a.add k)) (l.length-k) (c-k),fun u=>?_,⟨_,c-k,by rw[e],by rw[e];omega,fun hp=>⟨_,rfl,fun i hi'=>?_⟩⟩,.inr ⟨_,c-k,by rw[e]⟩⟩
 ·rw[run_slice_l (P:=prog) u 32 (some a) l.length c (by kernel_rfl) .i64 k gA gA]
  simp[go_sem,sliced]
  split<;>rfl
 rw[e]at hi' hp
 rw[if_neg gA,Addr.add_add,bH (k+i) gA]
 simp[aC,List.getD]
theorem dF {ops:Array Oper}{rest:List Oper}{o:Oper}{a:Act}{w:World}{Q:Exit→Act→World→Prop}(hgd:Region.wanted o (yielded ops a.tmps)=true)(s x:Operand)
 (hop:o.op=Op.call { callee:=Callee.builtin Builtin.append,args:=#[s,x],argTypes:=#[32,32] }) (base:Nat) (va vb:Value) (A B:List Int) (hs:a.eval s=va) (hx:a.eval x=vb) (ha:gP base w va A) (hb:aS w vb B) (hsh:rR vb B)
 (hl:(A.length+B.length)*8≤140737488355328) (qP:base≤w.heap.size)
 (h:∀v' w',gP base w' v' (A++B)→w.grownBy w' va.ownBlock→wpList prog ops Q rest (a.put o.dst v') w'):wpList prog ops Q (o::rest) a w:=by
 obtain⟨i0,hi,hz0,hz1,hz2⟩:=info_parts nE
 have key:∀K:Act→World→Prop,(∀v' w',gP base w' v' (A++B)→w.grownBy w' va.ownBlock→K (a.put o.dst v') w')→Oper.wp prog o a w K Q:=by
  intro K hK
  rcases hsh with rfl|⟨ad,c,rfl⟩
  ·obtain rfl:=wX hb
   have hrun:=run_append_owned_none (P:=prog) (w:=w) base 32 o.type 3 i0 1 underlying32 hi va _ _ ha
   unfold Oper.wp
   simp[execOp,hop,resolve,invoke,builtin,hs,hx,hrun,Result.andThen]
   exact hK _ _ (by rw[List.append_nil];exact ha) (aQ _ _)
  obtain⟨_,hc,bH⟩:=mY hb
  refine wp_append_own w s x 32 hop base 3 i0 (.int .i64 0) 1 8 underlying32 hi hz0 hz1 hz2 rfl (by decide) va A.length _ hs ha ad B.length c (B.map (Value.int .i64)) hx (by simp) (fun j u hu=>?_) (fun u hu=>?_) (by unfold maxLen;omega) gA qP (fun v' w' h2 h3 _=>hK v' w' ?_ h3)
  ·have hj:j<B.length:=by
    by_cases hj:j<B.length
    ·exact hj
    rw[List.getElem?_eq_none (by simp;omega)]at hu;cases hu
   rw[bH j hj]
   simpa [aC,List.getD,hj] using hu
  ·obtain⟨x,_,rfl⟩:=List.mem_map.1 hu
   rfl
  unfold gP;simpa using h2
 refine wpList_step fun K hK=>?_
 rw[if_pos hgd]
 exact key K fun v' w' h1 h2=>hK _ _ (h v' w' h1 h2)
theorem gP.lt {base:Nat}{w:World}{v:Value}{l:List Int}(h:gP base w v l)(g:Nat)(hg:v.ownBlock=some g):base≤g∧g<w.heap.size:=by
 rcases h.2 with⟨rfl,_⟩|⟨g',cap,cur,rfl,h1,h2,_⟩
 ·cases hg
 simp[Value.ownBlock]at hg
 subst hg
 exact⟨h1,aN h2⟩
theorem gP.apart {N:Nat}{w:World}{va vb:Value}{B:List Int}(hlt:∀g,va.ownBlock=some g→g<N)(hb:gP N w vb B):va.ownBlock=none∨va.ownBlock≠vb.ownBlock:=by
 rcases ea:va.ownBlock with _|g
 ·exact .inl rfl
 right
 intro e
 have:=(hb.lt g e.symm).1
 have:=hlt g ea
 omega
theorem gP.Iy {base:Nat}{w:World}{v:Value}{l:List Int}(h:gP base w v l):rR v l:=by
 rcases h.2 with⟨rfl,_⟩|⟨g',cap,cur,rfl,_⟩
 ·exact .inl rfl
 exact .inr ⟨_,cap,rfl⟩
theorem tL (u:World)(z:Int):aS (u.alloc (.cells #[.int .i64 z] 3)) (.slice (some ⟨u.heap.size,0,none⟩) 1 1) [z]:=by
 refine⟨some ⟨u.heap.size,0,none⟩,1,rfl,Nat.le_refl _,fun _=>⟨_,rfl,fun i hi=>?_⟩⟩
 rw[Addr.add_mid,Nat.zero_add,aI (cK u _)]
 match i,hi with
 | 0,_=>rfl
theorem wY (u:World)(base:Nat)(hb:base≤u.heap.size)(z:Int):gP base (u.alloc (.cells #[.int .i64 z] 3)) (.slice (some ⟨u.heap.size,0,none⟩) 1 1) [z]:=
 ⟨rfl,.inr ⟨u.heap.size,1,#[.int .i64 z],rfl,hb,cK u _,Nat.le_refl _,by unfold maxLen;omega,rfl,rfl⟩⟩
theorem gU {w u u':World}{r:Option Nat}(h:w.grownBy u none)(g:u.grownBy u' r)(hr:∀b,r=some b→w.heap.size≤b):w.grownBy u' none:=
 dB h g none (fun i e _=>by cases e) (fun i e hi=>by have:=hr i e;omega)
theorem gP.form {base:Nat}{w:World}{v:Value}{l:List Int}(h:gP base w v l)(hl:0<l.length):∃g cap,v=.slice (some ⟨g,0,none⟩) l.length cap∧base≤g∧g<w.heap.size∧l.length≤cap:=by
 rcases h.2 with⟨_,h0⟩|⟨g,cap,cur,hv,hb,hg,hn,_⟩
 ·omega
 exact⟨g,cap,hv,hb,aN hg,hn⟩
theorem gP.cell {base:Nat}{w:World}{g cap n:Nat}{l:List Int}(h:gP base w (.slice (some ⟨g,0,none⟩) n cap) l)(hn:n=l.length)(j:Nat)(hj:j<l.length):w.cell? ⟨g,j,none⟩=some (.int .i64 (aC l j)):=by
 subst hn
 have:=World.ownsRow.cellAt h j gA
 rw[this]
 simp[aC,List.getD,hj]
theorem gP.free {base:Nat}{w:World}{g cap n:Nat}{l:List Int}(h:gP base w (.slice (some ⟨g,0,none⟩) n cap) l)(hn:n=l.length)(j:Nat):w.frozen? ⟨g,j,none⟩=false:=by
 subst hn
 exact World.ownsRow.frozenAt h j
theorem gP.set {base:Nat}{w:World}{g cap n:Nat}{l:List Int}(h:gP base w (.slice (some ⟨g,0,none⟩) n cap) l)(hn:n=l.length)(j:Nat)(z:Int):gP base (w.setCell ⟨g,j,none⟩ (.int .i64 z)) (.slice (some ⟨g,0,none⟩) n cap) (l.set j z)∧w.grownBy (w.setCell ⟨g,j,none⟩ (.int .i64 z)) (some g):=by
 subst hn
 have:=World.ownsRow.stored h j (.int .i64 z)
 refine⟨?_,this.2⟩
 unfold gP
 rw[List.length_set,List.map_set]
 exact this.1
theorem gP.dK {base:Nat}{w w':World}{v:Value}{l:List Int}{b:Nat}(h:gP base w v l)(g:w.grownBy w' (some b))(hb:b<base):gP base w' v l:=by
 refine h.kept g ?_
 rcases e:v.ownBlock with _|c
 ·exact .inl rfl
 right
 intro e'
 have:=(h.lt c e).1
 cases e'
 omega
theorem gP.UW {base:Nat}{w w':World}{g n cap:Nat}{l:List Int}{b:Nat}(h:gP base w (.slice (some ⟨g,0,none⟩) n cap) l)(gr:w.grownBy w' (some b))(hb:g≠b):gP base w' (.slice (some ⟨g,0,none⟩) n cap) l:=
 h.kept gr (.inr (by simpa [Value.ownBlock] using hb))
theorem Z6 (l:List Int)(j:Nat):aC (l++[0]) j=aC l j:=by
 rcases Nat.lt_trichotomy j l.length with h|h|h
 ·simp[aC,List.getD,List.getElem?_append,h]
 ·subst h;rw[dO l _ (Nat.le_refl _)];simp[aC,List.getD]
 rw[dO l _ gA,dO _ _ (by simp;omega)]
def refl (v:Int):Int:=aiC v 65535-32767
theorem P7 (S lo hi:Int)(h1:4*lo≤S)(h2:S≤4*hi):lo≤S.tdiv 4∧S.tdiv 4≤hi:=by
 rcases Int.le_total 0 S with h|h
 ·rw[Int.tdiv_eq_ediv_of_nonneg h];omega
 have e:S.tdiv 4=-((-S).tdiv 4):=by rw[Int.neg_tdiv];omega
 rw[e,Int.tdiv_eq_ediv_of_nonneg gA];omega
def ab4 (w wr:World)(T:TypeId)(a:List Int):Prop:=bO wr w.heap.size T a∧w.grownBy wr none
theorem ab4.set {w wr:World}{T:TypeId}{a:List Int}(h:ab4 w wr T a)(k:Nat)(z:Int):ab4 w (wr.setCell ⟨w.heap.size,k,none⟩ (.int .i64 z)) T (a.set k z):=
 ⟨h.1.set k z,aG h.2 (aF _ ⟨w.heap.size,k,none⟩ _) (by simp)⟩
def ab5 (n:Nat)(f:Int→Int)(a:List Int)(k:Nat)(rs:List Int):Prop:=jh n (fun i=>f (aC a i)) k rs∧∀j,k≤j→aC rs j=aC a j
theorem UY {n:Nat}{f:Int→Int}{a:List Int}{k:Nat}{rs:List Int}(h:ab5 n f a k rs)(hk:k<n):ab5 n f a (k+1) (rs.set k (f (aC a k))):=by
 refine⟨eP h.1 hk,fun j hj=>?_⟩
 rw[←h.2 j gA]
 simp[aC,List.getD,List.getElem?_set,show ¬k=j by omega]
def Z7 (w:World)(L P:List Int)(en:Int)(e:Ending)(w':World):Prop:=∃v',e=.returned (.tuple #[v',.agg (aD P),.int .i64 en])∧gP w.heap.size w' v' L∧w.grownBy w' none
theorem ab6 {w wr wr':World}{T1 T2 T3:TypeId}{a b c:List Int}{r:Option Nat}(h:g_ w wr T1 T2 T3 a b c)(g:wr.grownBy wr' r)(hr:∀x,r=some x→w.heap.size+1+1+1≤x):g_ w wr' T1 T2 T3 a b c:=by
 rcases r with _|x
 ·exact h.aH g
 have:=hr x rfl
 exact⟨h.1.aJ g gA,h.2.1.aJ g gA,h.2.2.1.aJ g gA,aG h.2.2.2 g gA⟩
def fO (w:World)(L:List Int)(en:Int)(e:Ending)(w':World):Prop:=∃v',e=.returned (.tuple #[v',.int .i64 en])∧gP w.heap.size w' v' L∧w.grownBy w' none
theorem zx {w:World}{b base:Nat}{rs:List Int}(h:bO w b 3 rs)(hb:base≤b)(hl:rs.length≤1000000):gP base w (.slice (some ⟨b,0,none⟩) rs.length rs.length) rs:=
 ⟨by simp,.inr ⟨b,rs.length,aD rs,rfl,hb,h,Nat.le_refl _,by unfold maxLen;omega,by simp[aD],by simp[aD,List.take_of_length_le]⟩⟩
theorem one_set (n:Nat)(h:0<n):(ay n).set 0 4096=jc n:=by
 apply dJ (by simp[ay])
 intro i hi
 by_cases h0:i=0
 ·subst h0;simp[aC,List.getD,ay,h]
 rw[if_neg h0,j_ _ _ _ _ gA,iZ]
theorem fP:(prog.info? 27).map (·.size)=some 80:=by kernel_rfl
theorem z80:(prog.info? 27).bind (·.zero)=some (.agg (aD (ay 80))):=by kernel_rfl
theorem jW {w:World}{ad:Option Addr}{n c:Nat}{l:List Int}(h:aS w (.slice ad n c) l)(k:Nat)(hk:k<l.length):∃a,ad=some a∧w.cell? (a.add k)=some (.int .i64 (aC l k)):=by
 obtain⟨Yr,c',e,_,h2⟩:=h
 simp only[Value.slice.injEq]at e
 obtain⟨rfl,e2,rfl⟩:=e
 obtain⟨a,rfl,h3⟩:=h2 gA
 exact⟨a,rfl,h3 k hk⟩
def jk (w:World)(v:Value)(e:Ending)(w':World):Prop:=e=.returned v∧w.grownBy w' none
def zy (w:World)(m:List Int)(en:Int)(e:Ending)(w':World):Prop:=e=.returned (.tuple #[.agg (aD m),.int .i64 en])∧w.grownBy w' none
def In1 (x:Int):Prop:=-9223372036854775808≤x∧x≤9223372036854775807
def aU (l:List Int)(s:Bool):List Value:=kE l [.bool s]
def dI (l:List Int)(s:Bool):Value:=.agg (aU l s).toArray
theorem aX {l:List Int}(h:l.length=101)(s:Bool):(aU l s).length=102:=by unfold aU;rw[tF,h];rfl
theorem dY (l:List Int)(s:Bool):∀v∈aU l s,v.oneCell'=true:=Pv _ _ (by intro v hv;simp at hv;subst hv;rfl)
theorem ak1:(prog.info? 29).bind (·.zero)=some (dI (ay 101) false):=by kernel_rfl
theorem aY:(prog.info? 29).map (·.size)=some 102:=by kernel_rfl
theorem dV:(prog.info? 26).map (·.size)=some 8:=by kernel_rfl
theorem gV (w:World):Sem.run prog (zeroValue 29) w=.ok (dI (ay 101) false) w:=by
 have hz:=ak1
 cases hq:prog.info? 29 with
 | none=>simp[hq]at hz
 | some i=>
  have hi:i.zero=some (dI (ay 101) false):=by simpa [hq] using hz
  simp[zeroValue,typeInfo,hq,hi]
def dA (w:World)(b:Nat)(l:List Int)(s:Bool):Prop:=dP w b 29 (aU l s)
theorem dA.cell {w:World}{b:Nat}{l:List Int}{s:Bool}(h:dA w b l s)(i:Nat)(hi:i<l.length):w.cell? ⟨b,i,none⟩=some (.int .i64 (aC l i)):=(dP.cell h i).trans (jU _ _ _ hi)
theorem dA.free {w:World}{b:Nat}{l:List Int}{s:Bool}(h:dA w b l s)(i:Nat):w.frozen? ⟨b,i,none⟩=false:=dP.free h i
theorem dA.aH {w w':World}{b:Nat}{l:List Int}{s:Bool}(h:dA w b l s)(g:w.grownBy w' none):dA w' b l s:=dP.aH h g
theorem dA.aJ {w w':World}{b:Nat}{l:List Int}{s:Bool}{r:Nat}(h:dA w b l s)(g:w.grownBy w' (some r))(hr:b≠r):dA w' b l s:=dP.aJ h g hr
theorem dA.lt {w:World}{b:Nat}{l:List Int}{s:Bool}(h:dA w b l s):b<w.heap.size:=dP.lt h
theorem dA.new (w:World)(l:List Int)(s:Bool):dA (w.alloc (.cells (aU l s).toArray 29)) w.heap.size l s:=dP.new w _ _
theorem dA.set {w:World}{b:Nat}{l:List Int}{s:Bool}(h:dA w b l s)(k:Nat)(z:Int)(hk:k<l.length):dA (w.setCell ⟨b,k,none⟩ (.int .i64 z)) b (l.set k z) s:=by
 have:=dP.set h k (.int .i64 z)
 unfold aU at this
 rw[Pt _ _ _ _ hk]at this
 exact this
theorem dA.put {w:World}{b:Nat}{l:List Int}{s:Bool}(h:dA w b l s)(o:Nat)(M:List Int)(hl:o+M.length≤l.length):dA (dQ w b o (aO M)) b (jr l o M) s∧w.grownBy (dQ w b o (aO M)) (some b):=by
 have:=tC h o (aO M) (by rw[aM];unfold aU;rw[tF];omega)
 unfold aU at this
 rw[oN _ _ _ _ hl]at this
 exact this
theorem dA.fu {w:World}{b:Nat}{l m:List Int}{s t:Bool}(h:dA w b l s)(hl:l.length=101)(hm:m.length=101):dA (dQ w b 0 (aU m t)) b m t∧w.grownBy (dQ w b 0 (aU m t)) (some b):=by
 have:=tC h 0 (aU m t) (by rw[aX hm,aX hl];omega)
 rw[qM _ _ (by rw[aX hm,aX hl])]at this
 exact this
theorem dA.part {l:List Int}(s:Bool)(o n:Nat)(h:o+n≤l.length):((aU l s).drop o).take n=aO (bP l o n):=qz _ _ _ _ h
theorem dA.all {l:List Int}(s:Bool)(h:l.length=101):((aU l s).drop 0).take 102=aU l s:=by rw[List.drop_zero,List.take_of_length_le (by rw[aX h];omega)]
theorem dA.ints {w:World}{b:Nat}{l:List Int}{s:Bool}(h:dA w b l s)(o n c:Nat)(hn:o+n≤l.length)(hc:n≤c):aS w (.slice (some ⟨b,o,none⟩) n c) (bP l o n):=dP.ints h o n c hn hc
def xR (w:World)(m:List Int)(s:Bool)(L:List Int)(en:Int)(e:Ending)(w':World):Prop:=∃v',e=.returned (.tuple #[dI m s,v',.int .i64 en])∧gP w.heap.size w' v' L∧w.grownBy w' none
def Ar (w:World)(l:List Int)(s:Bool)(wr:World):Prop:=dA wr w.heap.size l s∧dA wr (w.heap.size+1) (ay 101) false∧w.grownBy wr none
theorem Ar.new (w:World)(l:List Int)(s:Bool):Ar w l s ((w.alloc (.cells (aU l s).toArray 29)).alloc (.cells (aU (ay 101) false).toArray 29)):=by
 refine⟨(dA.new w l s).aH (ak _ _ none),?_,aB (ak _ _ none) (ak _ _ none)⟩
 have:=dA.new (w.alloc (.cells (aU l s).toArray 29)) (ay 101) false
 simpa using this
theorem Ar.aH {w:World}{l:List Int}{s:Bool}{wr wr':World}(h:Ar w l s wr)(g:wr.grownBy wr' none):Ar w l s wr':=⟨h.1.aH g,h.2.1.aH g,aB h.2.2 g⟩
theorem Ar.set {w:World}{l:List Int}{s:Bool}{wr:World}(h:Ar w l s wr)(k:Nat)(z:Int)(hk:k<l.length):Ar w (l.set k z) s (wr.setCell ⟨w.heap.size,k,none⟩ (.int .i64 z)):=
 ⟨h.1.set k z hk,h.2.1.aJ (aF wr ⟨w.heap.size,k,none⟩ _) (by simp),aG h.2.2 (aF wr ⟨w.heap.size,k,none⟩ _) (Nat.le_refl _)⟩
theorem Ar.put {w:World}{l:List Int}{s:Bool}{wr:World}(h:Ar w l s wr)(o:Nat)(M:List Int)(hl:o+M.length≤l.length):Ar w (jr l o M) s (dQ wr w.heap.size o (aO M)):=by
 have:=h.1.put o M hl
 exact⟨this.1,h.2.1.aJ this.2 gA,aG h.2.2 this.2 (Nat.le_refl _)⟩
theorem Ar.fin {w:World}{l:List Int}{s:Bool}{wr:World}(h:Ar w l s wr)(m:List Int)(t:Bool)(hm:m.length=101):dA (dQ wr (w.heap.size+1) 0 (aU m t)) (w.heap.size+1) m t∧w.grownBy (dQ wr (w.heap.size+1) 0 (aU m t)) none:=by
 have:=h.2.1.fu (m:=m) (t:=t) (au 101) hm
 exact⟨this.1,aG h.2.2 this.2 gA⟩
theorem set_self (l:List Int)(k:Nat)(h:k<l.length):l.set k (aC l k)=l:=by
 apply List.ext_getElem?
 intro i
 rw[List.getElem?_set]
 by_cases e:k=i
 ·subst e;simp[h,aC,List.getD]
 simp[e]
theorem oH (l:List Int)(k:Nat)(z:Int)(o n:Nat)(hk:k<l.length)(h:k<o∨o+n≤k):bP (l.set k z) o n=bP l o n:=by
 refine dJ (aR _ _ _) (fun i hi=>?_)
 rw[fV _ _ _ _ hi,qm _ _ _ hk,if_neg gA]
theorem Ev {l:List Int}(h:aL l=true):jv l:=fun i=>by
 by_cases hi:i<l.length
 ·have:=(aV l).1 h i hi;omega
 rw[dO _ i gA];omega
def Kg (w:World)(m:List Int)(s:Bool)(L:List Int)(e:Ending)(w':World):Prop:=∃v',e=.returned (.tuple #[dI m s,v'])∧gP w.heap.size w' v' L∧w.grownBy w' none
theorem mM (u:List Int)(o n:Nat)(h:o+n≤u.length):((aO u).drop o).take n=aO (bP u o n):=by
 have:=qz u [] o n h
 unfold kE at this
 rwa [List.append_nil]at this
theorem qB (u:List Int)(i:Nat)(h:i<u.length):(aO u)[i]?=some (.int .i64 (aC u i)):=by
 have:=jU u [] i h
 unfold kE at this
 rwa [List.append_nil]at this
theorem Z_ (u M:List Int)(o:Nat)(h:o+M.length≤u.length):mG (aO u) o (aO M)=aO (jr u o M):=by
 have:=oN u [] o M h
 unfold kE at this
 rwa [List.append_nil,List.append_nil]at this
theorem aht {w:World}{b:Nat}{T:TypeId}{u:List Int}(h:dP w b T (aO u))(o:Nat)(M:List Int)(hl:o+M.length≤u.length):dP (dQ w b o (aO M)) b T (aO (jr u o M))∧w.grownBy (dQ w b o (aO M)) (some b):=by
 have:=tC h o (aO M) (by rw[aM,aM];omega)
 rw[Z_ _ _ _ hl]at this
 exact this
theorem dP.aiE {w:World}{b:Nat}{T:TypeId}{u:List Int}(h:bO w b T u):dP w b T (aO u):=h
theorem dP.aiF {w:World}{b:Nat}{T:TypeId}{u:List Int}(h:dP w b T (aO u)):bO w b T u:=h
theorem dA.own {w w':World}{b:Nat}{l:List Int}{s:Bool}{r:Option Nat}(h:dA w b l s)(g:w.grownBy w' r)(hr:∀x,r=some x→b≠x):dA w' b l s:=by
 rcases r with _|x
 ·exact h.aH g
 exact h.aJ g (hr x rfl)
theorem dP.own {w w':World}{b:Nat}{T:TypeId}{cs:List Value}{r:Option Nat}(h:dP w b T cs)(g:w.grownBy w' r)(hr:∀x,r=some x→b≠x):dP w' b T cs:=by
 rcases r with _|x
 ·exact h.aH g
 exact h.aJ g (hr x rfl)
def Kh (w:World)(T:TypeId)(u:List Int)(l:List Int)(s:Bool)(wr:World):Prop:=dA wr w.heap.size l s∧dP wr (w.heap.size+1) T (aO u)∧dA wr (w.heap.size+1+1) (ay 101) false∧w.grownBy wr none
theorem Kh.new (w:World)(T:TypeId)(u l:List Int)(s:Bool):Kh w T u l s (((w.alloc (.cells (aU l s).toArray 29)).alloc (.cells (aD u) T)).alloc (.cells (aU (ay 101) false).toArray 29)):=by
 refine⟨((dA.new w l s).aH (ak _ _ none)).aH (ak _ _ none),?_,?_,aB (aB (ak _ _ none) (ak _ _ none)) (ak _ _ none)⟩
 ·have:=(dP.new (w.alloc (.cells (aU l s).toArray 29)) T (aO u)).aH (ak _ (.cells (aU (ay 101) false).toArray 29) none)
  rw[qy]at this
  simpa using this
 have:=dA.new ((w.alloc (.cells (aU l s).toArray 29)).alloc (.cells (aD u) T)) (ay 101) false
 simpa using this
theorem Kh.aH {w:World}{T:TypeId}{u l:List Int}{s:Bool}{wr wr':World}(h:Kh w T u l s wr)(g:wr.grownBy wr' none):Kh w T u l s wr':=⟨h.1.aH g,h.2.1.aH g,h.2.2.1.aH g,aB h.2.2.2 g⟩
theorem Kh.own {w:World}{T:TypeId}{u l:List Int}{s:Bool}{wr wr':World}{r:Option Nat}(h:Kh w T u l s wr)(g:wr.grownBy wr' r)(hr:∀x,r=some x→w.heap.size+1+1+1≤x):Kh w T u l s wr':=by
 rcases r with _|x
 ·exact h.aH g
 have:=hr x rfl
 exact⟨h.1.aJ g gA,h.2.1.aJ g gA,h.2.2.1.aJ g gA,aG h.2.2.2 g gA⟩
theorem Kh.mem {w:World}{T:TypeId}{u l m:List Int}{s t:Bool}{wr wr':World}(h:Kh w T u l s wr)(hb:dA wr' w.heap.size m t)(g:wr.grownBy wr' (some w.heap.size)):Kh w T u m t wr':=⟨hb,h.2.1.aJ g gA,h.2.2.1.aJ g gA,aG h.2.2.2 g (Nat.le_refl _)⟩
theorem Kh.all {w:World}{T:TypeId}{u l m:List Int}{s t:Bool}{wr:World}(h:Kh w T u l s wr)(hl:l.length=101)(hm:m.length=101):Kh w T u m t (dQ wr w.heap.size 0 (aU m t))∧wr.grownBy (dQ wr w.heap.size 0 (aU m t)) (some w.heap.size):=by
 have:=h.1.fu (m:=m) (t:=t) hl hm
 exact⟨h.mem this.1 this.2,this.2⟩
theorem Kh.put {w:World}{T:TypeId}{u l:List Int}{s:Bool}{wr:World}(h:Kh w T u l s wr)(o:Nat)(M:List Int)(hl:o+M.length≤l.length):Kh w T u (jr l o M) s (dQ wr w.heap.size o (aO M))∧wr.grownBy (dQ wr w.heap.size o (aO M)) (some w.heap.size):=by
 have:=h.1.put o M hl
 exact⟨h.mem this.1 this.2,this.2⟩
theorem Kh.fin {w:World}{T:TypeId}{u l:List Int}{s:Bool}{wr:World}(h:Kh w T u l s wr)(m:List Int)(t:Bool)(hm:m.length=101):dA (dQ wr (w.heap.size+1+1) 0 (aU m t)) (w.heap.size+1+1) m t∧w.grownBy (dQ wr (w.heap.size+1+1) 0 (aU m t)) none∧wr.grownBy (dQ wr (w.heap.size+1+1) 0 (aU m t)) (some (w.heap.size+1+1)):=by
 have:=h.2.2.1.fu (m:=m) (t:=t) (au 101) hm
 exact⟨this.1,aG h.2.2.2 this.2 gA,this.2⟩
def mO (w:World)(r:Value)(e:Ending)(w':World):Prop:=e=.returned r∧w'=w
def qQ (w:World)(r:Value)(e:Ending)(w':World):Prop:=e=.returned r∧w.grownBy w' none
def inB (lo hi:Int)(l:List Int):Bool:=l.all fun x=>decide (lo≤x)&&decide (x≤hi)
theorem Yt (lo hi:Int)(l:List Int):inB lo hi l=true↔∀i,i<l.length→lo≤aC l i∧aC l i≤hi:=by
 unfold inB
 rw[Dp]
 simp
theorem ahu {lo hi:Int}{l:List Int}(i:Nat)(hi':i<l.length)(h:¬(lo≤aC l i∧aC l i≤hi)):inB lo hi l=false:=by
 rcases hb:inB lo hi l with _|_
 ·rfl
 exact absurd ((Yt lo hi l).1 hb i hi') h
theorem UZ (k:List Int):inB (-32767) 32767 k=bN k:=by
 unfold inB bN
 congr 1
 funext q
 congr 1<;>apply decide_eq_decide.2<;>omega
theorem Yu (k:List Int):inB (-2147483647) 2147483647 k=I6 k:=rfl
theorem oh (x lo hi:Int)(w:World):Calls prog 100 #[.int .i64 x,.int .i64 lo,.int .i64 hi] w (mO w (.bool (decide (lo≤x)&&decide (x≤hi)))):=by
 have F:=Zd (fun b (hb:(decide (lo≤x)&&decide (x≤hi))=b)=>(show mO w (.bool (decide (lo≤x)&&decide (x≤hi))) (.returned (.bool b)) w from⟨by rw[hb],rfl⟩))
 generalize mO w (.bool (decide (lo≤x)&&decide (x≤hi)))=T at *
 by_cases b1:lo≤x
 ·by_cases b2:x≤hi
  ·have G:=Zd (F.out true (by simp[b1,b2]))
   go_enter func100,ntmps100
   go_wp2_with fail
   exact G.out
  have G:=Zd (F.out false (by simp[b1,b2]))
  go_enter func100,ntmps100
  go_wp2_with fail
  exact G.out
 have G:=Zd (F.out false (by simp[b1]))
 go_enter func100,ntmps100
 go_wp2_with fail
 exact G.out
theorem sH (v:Value)(l:List Int)(lo hi:Int)(w:World)(h:aS w v l)(hl:l.length≤1000000000000000000) :
 Calls prog 98 #[v,.int .i64 lo,.int .i64 hi] w (mO w (.bool (inB lo hi l))):=by
 obtain⟨ad,c,rfl,hc,bH⟩:=h
 have Y:=Zd (fun(hh:∀i,i<l.length→lo≤aC l i∧aC l i≤hi)=>(show mO w (.bool (inB lo hi l)) (.returned (.bool true)) w from⟨by rw[(Yt lo hi l).2 hh],rfl⟩))
 have N:=Zd (fun i (hi':i<l.length) (hh:¬(lo≤aC l i∧aC l i≤hi))=>(show mO w (.bool (inB lo hi l)) (.returned (.bool false)) w from⟨by rw[ahu i hi' hh],rfl⟩))
 generalize mO w (.bool (inB lo hi l))=T at *
 go_enter func98,ntmps98
 go_wp2_with fail
 go_loop [8,11] (fun _ i=>∃k:Nat,i=.int .i64 k∧k≤l.length∧Hid (∀i,i<k→lo≤aC l i∧aC l i≤hi)) (fun _ i=>l.length-(intOf i).toNat)
 case atStart=>exact⟨0,rfl,Nat.zero_le _,fun i hi=>gA⟩
 case round=>
  obtain⟨k,rfl,hk,hG⟩:=hrel
  by_cases jS:k<l.length
  ·obtain⟨a,rfl,hv⟩:=bH gA
   have hck:=hv k jS
   have NK:=Zd (N.out k jS)
   have GK:=Zd (fun(hh:lo≤aC l k∧aC l k≤hi)=>(show ∀i,i<k+1→lo≤aC l i∧aC l i≤hi from fun i hi=>by
    rcases Nat.lt_or_ge i k with g|g
    ·exact hG.out i g
    obtain rfl:i=k:=gA
    exact hh))
   clear bH hv hG
   generalize aC l k=z at *
   go_wp2_with fail
   refine(oh z lo hi w).mono ?_
   rintro e w1 ⟨rfl,rfl⟩
   rcases hb:(decide (lo≤z)&&decide (z≤hi))with _|_
   ·have F:=Zd (NK.out (fun h=>by simp[h]at hb))
    clear hb
    go_wp2_with fail
    exact F.out
   have F:=Zd (GK.out (by simpa using hb))
   clear hb
   go_wp2_with fail
   go_round
   case rel=>exact⟨k+1,by go_num,gA,F.out⟩
   case measure=>simp[intOf];omega
  obtain rfl:k=l.length:=gA
  have F:=Zd (Y.out hG.out)
  clear bH hG
  go_wp2_with fail
  exact F.out
theorem tN {w:World}{b:Nat}{T:TypeId}{rs:List Int}(h:bO w b T rs)(c:Nat)(hc:rs.length≤c):aS w (.slice (some ⟨b,0,none⟩) rs.length c) rs:=by
 refine⟨some ⟨b,0,none⟩,c,rfl,hc,fun _=>⟨_,rfl,fun i hi=>?_⟩⟩
 rw[Addr.add_mid,Nat.zero_add]
 exact h.cell i hi
theorem iM (k:List Int)(hk:k.length=8)(w:World):Calls prog 167 #[.agg (aD k)] w (qQ w (.bool (bN k))):=by
 have B0:=Zd (tN (bO.new w 26 k) 8 gA)
 rw[hk]at B0
 have G0:=Zd (ak w (.cells (aD k) 26) none)
 have A:=Zd (sH (.slice (some ⟨w.heap.size,0,none⟩) 8 8) k (-32767) 32767 _ B0.out gA)
 rw[UZ]at A
 have F:=Zs (qQ w (.bool (bN k)) (.returned (.bool (bN k))) (w.alloc (.cells (aD k) 26))) (⟨rfl,G0.out⟩)
 generalize qQ w (.bool (bN k))=T at *
 generalize bN k=b at *
 go_enter func167,ntmps167
 go_wp2_with fail
 refine A.out.mono ?_
 rintro e w1 ⟨rfl,rfl⟩
 go_wp2_with fail
 exact F.out
theorem aac (x:Int)(h1:-4611686018427387904≤x)(h2:x≤4611686018427387904)(w:World):Calls prog 168 #[.int .i64 x,.int .i64 12] w (mO w (.int .i64 ((x+2048) / 4096))):=by
 have F:=Zs (mO w (.int .i64 ((x+2048) / 4096)) (.returned (.int .i64 ((x+2048) / 4096))) w) (⟨rfl,rfl⟩)
 generalize mO w (.int .i64 ((x+2048) / 4096))=T at *
 go_enter func168,ntmps168
 go_wp2_with fail
 exact F.out
theorem ahv {k:IntKind}{a b:Int}{p q:Bool}(h:a=b)(h':p=q):Ending.returned (.tuple #[.int k a,.bool p])=.returned (.tuple #[.int k b,.bool q]):=by rw[h,h']
theorem qC (x:Int)(w:World) :
 Calls prog 157 #[.int .i64 x] w fun e w'=>e=.returned (.tuple #[.int .i64 (eU x),.bool (o16 x)])∧w'=w:=by
 have hs:=ahh x
 by_cases h1:x < -32768
 ·have e:eU x=-32768:=by unfold eU;simp[h1]
  have e':o16 x=true:=by unfold o16;rw[e];simp;omega
  clear hs;rw[e,e'];clear e e'
  go_enter func157,ntmps157
  go_wp2
  go_ret2
  exact⟨ahv rfl (by simp;omega),rfl⟩
 by_cases h2:32767<x
 ·have e:eU x=32767:=by unfold eU;simp[h1,h2]
  have e':o16 x=true:=by unfold o16;rw[e];simp;omega
  clear hs;rw[e,e'];clear e e'
  go_enter func157,ntmps157
  go_wp2
  go_ret2
  exact⟨ahv rfl (by simp;omega),rfl⟩
 have e:eU x=x:=by unfold eU;simp[h1,h2]
 have e':o16 x=false:=by unfold o16;rw[e];simp
 clear hs;rw[e,e'];clear e e'
 go_enter func157,ntmps157
 go_wp2
 go_ret2
 exact⟨ahv rfl (by simp),rfl⟩
theorem aeS (a b:Int)(w:World) :
 Calls prog 173 #[.int .i64 a,.int .i64 b] w fun e w'=>e=.returned (.tuple #[.int .i64 (eU (eU a-eU b)),.bool (o16 (eU a-eU b))])∧w'=w:=by
 obtain⟨a1,a2⟩:=kK a;obtain⟨b1,b2⟩:=kK b
 go_enter func173,ntmps173
 go_wp2_with (first|(go_at_call 157;refine(qC _ _).mono ?_;rintro e w' ⟨rfl,rfl⟩)|go_in)
 go_ret2
 exact⟨rfl,rfl⟩
theorem vV (x:Int)(w:World):Calls prog 171 #[.int .i64 x] w (mO w (.int .i64 (eU x))):=by
 have F:=Zs (mO w (.int .i64 (eU x)) (.returned (.int .i64 (eU x))) w) (⟨rfl,rfl⟩)
 have S:=Zd (qC x w)
 generalize mO w (.int .i64 (eU x))=T at *
 go_enter func171,ntmps171
 go_wp2_with fail
 refine S.out.mono ?_
 rintro e w1 ⟨rfl,rfl⟩
 clear S
 go_wp2_with fail
 exact F.out
theorem vW (x:Int)(h1:-4611686018427387904≤x)(h2:x≤4611686018427387904)(w:World):Calls prog 172 #[.int .i64 x] w (mO w (.int .i64 ((x+2048) / 4096))):=by
 have F:=Zs (mO w (.int .i64 ((x+2048) / 4096)) (.returned (.int .i64 ((x+2048) / 4096))) w) (⟨rfl,rfl⟩)
 generalize mO w (.int .i64 ((x+2048) / 4096))=T at *
 go_enter func172,ntmps172
 go_wp2_with fail
 exact F.out
theorem aeT (z:Int)(h:¬(-32768≤z∧z≤32767)):¬eU z=z:=by
 unfold eU
 split
 ·omega
 split<;>omega
theorem iH (v:Value)(l:List Int)(w:World)(h:aS w v l)(hl:l.length≤1000000000000000000) :
 Calls prog 170 #[v] w (mO w (.bool (aL l))):=by
 obtain⟨ad,c,rfl,hc,bH⟩:=h
 have Y:=Zd (fun(hh:∀i,i<l.length→-32768≤aC l i∧aC l i≤32767)=>(show mO w (.bool (aL l)) (.returned (.bool true)) w from⟨by rw[(aV l).2 hh],rfl⟩))
 have N:=Zd (fun i (hi':i<l.length) (hh:¬(-32768≤aC l i∧aC l i≤32767))=>(show mO w (.bool (aL l)) (.returned (.bool false)) w from⟨by
  rcases hb:aL l with _|_
  ·rfl
  exact absurd ((aV l).1 hb i hi') hh,rfl⟩))
 generalize mO w (.bool (aL l))=T at *
 go_enter func170,ntmps170
 go_wp2_with fail
 go_loop [7] (fun i=>∃k:Nat,i=.int .i64 k∧k≤l.length∧Hid (∀i,i<k→-32768≤aC l i∧aC l i≤32767)) (fun i=>l.length-(intOf i).toNat)
 case atStart=>exact⟨0,rfl,Nat.zero_le _,fun i hi=>gA⟩
 case round=>
  obtain⟨k,rfl,hk,hG⟩:=hrel
  by_cases jS:k<l.length
  ·obtain⟨a,rfl,hv⟩:=bH gA
   have hck:=hv k jS
   have NK:=Zd (N.out k jS)
   have GK:=Zd (fun(hh:-32768≤aC l k∧aC l k≤32767)=>(show ∀i,i<k+1→-32768≤aC l i∧aC l i≤32767 from fun i hi=>by
    rcases Nat.lt_or_ge i k with g|g
    ·exact hG.out i g
    obtain rfl:i=k:=gA
    exact hh))
   clear bH hv hG
   generalize aC l k=z at *
   have kl1:(k:Int)<l.length:=gA
   have ST:=Zd (vV z w)
   by_cases hz:-32768≤z∧z≤32767
   ·have F:=Zd (GK.out hz)
    rw[Ee z hz.1 hz.2]at ST
    clear hz
    go_wp2_with fail
    refine ST.out.mono ?_
    rintro e w1 ⟨rfl,rfl⟩
    clear ST
    go_wp2_with fail
    go_round
    case rel=>exact⟨k+1,by go_num,gA,F.out⟩
    case measure=>simp[intOf];omega
   have F:=Zd (NK.out hz)
   have hne:=aeT z hz
   have hne':(eU z==z)=false:=by simpa using hne
   generalize eU z=y at *
   clear hz
   go_wp2_with fail
   refine ST.out.mono ?_
   rintro e w1 ⟨rfl,rfl⟩
   clear ST
   go_wp2_with fail
   exact F.out
  obtain rfl:k=l.length:=gA
  have F:=Zd (Y.out hG.out)
  clear bH hG
  go_wp2_with fail
  exact F.out
def P_ (a:List Int):Bool:=nK a&&decide (aC a 0=4096)
theorem Yv (a p l:List Int):okF a p l=(P_ a&&aL p&&aL l):=rfl
theorem xZ (a:List Int)(ha:a.length=9)(w:World):Calls prog 205 #[.agg (aD a)] w (qQ w (.bool (P_ a))):=by
 have B0:=Zd (bO.new w 58 a)
 have G0:=Zd (ak w (.cells (aD a) 58) none)
 have IX:=Zd (fun j hj=>fQ a underlying58 j hj ha)
 go_enter func205,ntmps205
 go_wp2_with (refine lA B0.out (by rw[ha];exact dz) ?_)
 generalize w.alloc (.cells (aD a) 58)=W0 at *
 go_loop [6] (fun i=>∃m:Nat,i=.int .i64 m∧m≤9∧Hid (∀j,j<m→-1048576≤aC a j∧aC a j≤1048576)) (fun i=>9-(intOf i).toNat)
 case atStart=>exact⟨0,rfl,Nat.zero_le _,fun j hj=>gA⟩
 case round=>
  obtain⟨m,rfl,hm,hF⟩:=hrel
  by_cases hm9:m<9
  ·have ix:=IX.out m gA
   have i1:(m:Int)<9:=gA
   by_cases hx:-1048576≤aC a m∧aC a m≤1048576
   ·have NF:=Zd (show ∀j,j<m+1→-1048576≤aC a j∧aC a j≤1048576 from fun j hj=>by
     by_cases h:j=m
     ·subst h;exact hx
     exact hF.out j gA)
    obtain⟨x1,x2⟩:=hx
    clear hF
    generalize aC a m=x at *
    go_wp2_with fail
    go_round
    case rel=>exact⟨m+1,by go_num,gA,NF.out⟩
    case measure=>simp[intOf];omega
   have OK:=Zd (show P_ a=false from by
    have:nK a=false:=by
     rcases hb:nK a with _|_
     ·rfl
     exact absurd ((kg a).1 hb m gA) hx
    unfold P_;rw[this];rfl)
   clear hF
   generalize aC a m=x at *
   by_cases hx1:x < -1048576
   ·go_wp2_with fail
    go_ret
    exact⟨by rw[OK.out];rfl,G0.out⟩
   have hx2:1048576<x:=gA
   go_wp2_with fail
   go_ret
   exact⟨by rw[OK.out];rfl,G0.out⟩
  obtain rfl:m=9:=gA
  have W20:=Zs (nK a=true) ((kg a).2 (fun i hi=>hF.out i gA))
  have c0:=B0.out.cell 0 gA
  have OK:=Zs (P_ a=decide (aC a 0=4096)) (by unfold P_;rw[W20.out];rfl)
  clear hF
  generalize aC a 0=x at *
  by_cases hx:x=4096
  ·subst hx
   go_wp2_with fail
   go_ret
   exact⟨by rw[OK.out];rfl,G0.out⟩
  have HX:=Zd (decide_eq_false hx)
  have hx':(x==4096)=false:=by simpa using hx
  go_wp2_with fail
  go_ret
  exact⟨by rw[OK.out,HX.out];rfl,G0.out⟩
def vg (a h:List Int)(n:Nat):Int:=tJ a h n-2048
theorem U0 (a h:List Int)(n:Nat):vg a h (n+1)=vg a h n+aC a (n+1)*aC h n:=by
 unfold vg
 show tJ a h n+aC a (n+1)*aC h n-2048=_
 omega
theorem ab7 (a h:List Int):(vg a h 8+2048) / 4096=gs a h:=by unfold vg gs;congr 1;omega
theorem U2 (a p:List Int)(ha:a.length=9)(hp:p.length=8)(w:World)(wa:nK a=true)(rp:aL p=true) :
 Calls prog 206 #[.agg (aD a),.agg (aD p)] w (qQ w (.int .i64 (gs a p))):=by
 have L0:=Zd (nI w 58 26 a p)
 have IX:=Zd (fun j hj=>fQ p underlying26 j hj hp)
 have AB:=Zd (jE a (-1048576) 1048576 gA gA ((kg a).1 wa))
 have PB:=Zd (jE p _ _ gA gA ((aV p).1 rp))
 have SB:=Zd (Dt a p AB.out PB.out)
 have HS:=Zd (U0 a p)
 have HG:=Zd (ab7 a p)
 have S0:=Zd (fun n=>show vg a p n=tJ a p n-2048 from rfl)
 clear wa rp
 generalize gs a p=G at *
 go_enter func206,ntmps206
 go_wp2_with (refine lA L0.out.2.1 (by rw[hp];exact aW) ?_)
 have BA:=Zd L0.out.1
 have G0:=Zd L0.out.2.2
 generalize (w.alloc (.cells (aD a) 58)).alloc _=W0 at *
 go_loop [5,9] (fun s i=>∃m:Nat,i=.int .i64 m∧s=.int .i64 (vg a p m)∧m≤8) (fun _ i=>8-(intOf i).toNat)
 case atStart=>exact⟨0,rfl,rfl,Nat.zero_le _⟩
 case round=>
  obtain⟨m,rfl,rfl,hm⟩:=hrel
  by_cases vD:m<8
  ·have ix:=IX.out m gA
   have ca:=BA.out.cell (m+1) gA
   obtain⟨a1,a2⟩:=AB.out (m+1)
   obtain⟨p1,p2⟩:=PB.out m
   obtain⟨s1,s2⟩:=SB.out m
   have s0:=S0.out m
   have hs:=HS.out m
   have A_:=Zd hs
   obtain⟨q1,q2⟩:=Ep _ _ a1 a2 p1 p2
   have i1:(m:Int)<8:=gA
   have t1:-600000000000≤vg a p m:=gA
   have t2:vg a p m≤600000000000:=gA
   clear hs s0 s1 s2
   generalize vg a p m=S at *
   generalize aC a (m+1)=x at *
   generalize aC p m=y at *
   go_wp2_with fail
   go_round
   case rel=>exact⟨m+1,by go_num,by rw[A_.out],gA⟩
   case measure=>simp[intOf];omega
  obtain rfl:m=8:=gA
  obtain⟨s1,s2⟩:=SB.out 8
  have s0:=S0.out 8
  have RD:=Zd (fun w'=>vW (vg a p 8) gA gA w')
  rw[HG.out]at RD
  clear s0 s1 s2
  generalize vg a p 8=S at *
  go_wp2_with fail
  refine(RD.out _).mono ?_
  rintro e w1 ⟨rfl,rfl⟩
  clear RD
  go_wp2_with fail
  go_ret
  exact⟨rfl,G0.out⟩
theorem I9 (w:World)(g:Nat)(cs:Array Value):w.grownBy (w.setRow g cs) (some g):=
 ⟨rfl,rfl,rfl,by simp,fun k _ h=>setRow_other w g k cs (fun e=>h (by rw[e]))⟩
theorem ab8 (p:List Int)(hp:p.length=8):((aD p).toList.take 1++(p.take 7).map (Value.int .i64)++(aD p).toList.drop (1+((p.take 7).map (Value.int .i64)).length)).toArray=aD (aC p 0::p.take 7):=by
 match p,hp with
 | [a,b,c,d,e,f,g,h],_=>rfl
theorem I_ {y:Nat→Option Bool}{o:Oper}{a:Act}{w:World}{K:Act→World→Prop}{Q:Exit→Act→World→Prop}{E:Prop}(hg:o.guard=none)(d s:Operand)
 (hop:o.op=Op.call { callee:=Callee.builtin Builtin.copy,args:=#[d,s],argTypes:=#[32,32] }) (b:Nat) (T:TypeId) (p:List Int) (hb:bO w b T p) (hp:p.length=8)
 (hd:a.eval d=.slice (some ⟨b,1,none⟩) 7 7) (hs:a.eval s=.slice (some ⟨b,0,none⟩) 8 8)
 (hK:∀w',bO w' b T (aC p 0::p.take 7)→w.grownBy w' (some b)→K (a.put o.dst (goInt 7)) w'):if Region.wanted o y=true then Oper.wp prog o a w K Q else E:=by
 have hw:Region.wanted o y=true:=by simp[Region.wanted,hg]
 rw[if_pos hw]
 have hsz:(prog.info? 3).map (·.size)=some 1:=by kernel_rfl
 have hrun:=run_copy_row (P:=prog) w 32 32 o.type 3 b 1 7 7 ⟨b,0,none⟩ 8 8 (aD p) T ((p.take 7).map (Value.int .i64)) underlying32 hsz hb (by simp[hp])
  (fun j v hv=>by
   have hj:j<7:=by
    by_cases hj:j<7
    ·exact hj
    rw[List.getElem?_eq_none (by simp;omega)]at hv;cases hv
   rw[Addr.add_mid,Nat.zero_add,hb.cell j gA]
   rw[List.getElem?_map,List.getElem?_take,if_pos hj]at hv
   simpa [aC,List.getD,show j<p.length by omega] using hv)
  (by simp[aD,hp]) (fun v hv=>by
   obtain⟨x,_,rfl⟩:=List.mem_map.1 hv
   rfl)
 rw[ab8 p hp,show((p.take 7).map (Value.int .i64)).length=7 by simp[hp]]at hrun
 unfold Oper.wp
 simp[execOp,hop,resolve,invoke,builtin,hd,hs,hrun,Result.andThen]
 exact hK _ (setRow_heap _ _ _ _ _ _ hb) (I9 _ _ _)
def aad (p:List Int)(s:Int):List Int:=s::p.take 7
theorem Qa (p:List Int)(s:Int)(hp:p.length=8):(aad p s).length=8:=by simp[aad,hp]
theorem ab9 (p l:List Int)(s:Int):aad (nZ p l) s=nZ p (l++[s]):=by
 apply dJ (Qa _ _ (nJ _ _))
 intro i hi
 rw[←tH _ _ _ hi,ZN _ _ _ _ hi]
 by_cases h0:i=0
 ·subst h0;rfl
 rw[if_neg h0]
 obtain⟨j,rfl⟩:∃j,i=j+1:=⟨i-1,gA⟩
 show aC ((nZ p l).take 7) j=aC (nZ p l) (j+1-1)
 rw[qN _ _ _ gA,Nat.add_sub_cancel]
theorem aae (p:List Int)(hp:p.length=8)(s:Int)(w:World) :
 Calls prog 207 #[.agg (aD p),.int .i64 s] w (qQ w (.agg (aD (aad p s)))):=by
 have L0:=Zd (nI w 26 26 p (ay 8))
 rw[rF]at L0
 go_enter func207,ntmps207
 go_upto_region 1 with fail
 have M0:=Zs (iD w _ 26 26 p (ay 8)) (L0.out)
 generalize (w.alloc (.cells (aD p) 26)).alloc _=W0 at *
 refine wp_region_held_drew (S:=dM w) (by kernel_rfl) (bW M0.out.2.2) (fun aj=>?_)
 refine bV (v:=.slice (some ⟨w.heap.size,1,none⟩) 7 7) 0 aj ?_
 refine bV (v:=.slice (some ⟨w.heap.size,0,none⟩) 8 8) 1 aj ?_
 refine fI 2 fun K hK=>?_
 (try simp only[sZ])
 refine I_ rfl _ _ rfl w.heap.size 26 p (M0.out.1.aH (aZ W0)) hp rfl rfl ?_
 intro w1 b1 g1
 have B1:=Zd b1
 have G1:=Zd g1
 have N0:=Zd M0.out.1.lt
 have BB:=Zd ((M0.out.2.1.aH (aZ W0)).aJ G1.out gA)
 have GM:=Zd (aG aj G1.out (Nat.le_refl _))
 clear b1 g1 M0 aj
 refine hK.out _ _ GM.out (fun aj=>?_)
 (try simp only[sZ])
 refine lM ?_
 have hl1:(aC p 0::p.take 7).length=8:=by simp[hp]
 have c0:=B1.out.cell 0 (by rw[hl1];omega)
 have f0:=B1.out.free 0
 have BS:=Zd (B1.out.set 0 s)
 have GS:=Zd (aF w1 ⟨w.heap.size,0,none⟩ (.int .i64 s))
 have ni:=Qa p s hp
 rw[show(aC p 0::p.take 7).set 0 s=aad p s from rfl]at BS
 generalize aC (aC p 0::p.take 7) 0=x0 at *
 generalize aad p s=q at *
 go_upto_region 3 with fail
 have BB2:=Zd (BB.out.aJ GS.out (by simp))
 have GM2:=Zd (aG GM.out GS.out (by simp))
 clear GM c0 f0
 generalize w1.setCell _ _=w2 at *
 go_wp2_with (first|refine lA BS.out (by rw[ni];exact aW) ?_|refine sA q BB2.out (by rw[ni,au]) (by rw[au];exact aW) ?_)
 have PU:=bB (rs':=q) BB2.out (by rw[ni,au])
 have eO:=lS PU.1 (by rw[ni];exact aW)
 have GF:=Zd (aG GM2.out PU.2 gA)
 refine bodyPost_ret (v:=.agg (aD q)) ?_ rfl ⟨rfl,GF.out⟩
 simp[results,results207,asAddr,Act.put,eO]
def MkM (w wr:World)(a q:List Int)(B:Nat)(rs:List Int):Prop:=bO wr w.heap.size 58 a∧bO wr (w.heap.size+1) 26 q∧bO wr (w.heap.size+1+1) 26 (ay 8)∧bO wr B 3 rs∧w.heap.size+1+1<B∧w.grownBy wr none
theorem MkM.aH {w wr wr':World}{a q:List Int}{B:Nat}{rs:List Int}(h:MkM w wr a q B rs)(g:wr.grownBy wr' none):MkM w wr' a q B rs:=⟨h.1.aH g,h.2.1.aH g,h.2.2.1.aH g,h.2.2.2.1.aH g,h.2.2.2.2.1,aB h.2.2.2.2.2 g⟩
theorem MkM.ak2 {w wr:World}{a q:List Int}{B:Nat}{rs:List Int}(h:MkM w wr a q B rs)(k:Nat)(z:Int):MkM w (wr.setCell ⟨B,k,none⟩ (.int .i64 z)) a q B (rs.set k z):=by
 have hB:=h.2.2.2.2.1
 have g:=aF wr ⟨B,k,none⟩ (.int .i64 z)
 exact⟨h.1.aJ g (by simp;omega),h.2.1.aJ g (by simp;omega),h.2.2.1.aJ g (by simp;omega),h.2.2.2.1.set k z,hB,aG h.2.2.2.2.2 g (by simp;omega)⟩
theorem MkM.ak3 {w wr:World}{a q q':List Int}{B:Nat}{rs:List Int}(h:MkM w wr a q B rs)(hl:q'.length=q.length):MkM w (bT wr (w.heap.size+1) q') a q' B rs:=by
 have hB:=h.2.2.2.2.1
 have PU:=bB (rs':=q') h.2.1 hl
 exact⟨h.1.aJ PU.2 gA,PU.1,h.2.2.1.aJ PU.2 gA,h.2.2.2.1.aJ PU.2 gA,hB,aG h.2.2.2.2.2 PU.2 gA⟩
theorem Yw {w:World}{b base:Nat}{rs:List Int}(h:bO w b 3 rs)(hb:base≤b)(hl:rs.length≤35184372088832):gP base w (.slice (some ⟨b,0,none⟩) rs.length rs.length) rs:=
 ⟨by simp,.inr ⟨b,rs.length,aD rs,rfl,hb,h,Nat.le_refl _,by unfold maxLen;omega,by simp[aD],by simp[aD,List.take_of_length_le]⟩⟩
theorem ab_ (l:List Int):l=fM l.length (fun j=>aC l j):=dJ rfl (fun i _=>rfl)
theorem aeU (a p:List Int)(ha:a.length=9)(hp:p.length=8)(v:Value)(l:List Int)(w:World)(h:aS w v l)(hl:l.length*8≤140737488351232)(hk:okF a p l=false) :
 Calls prog 169 #[.agg (aD a),.agg (aD p),v] w (Z7 w [] (ay 8) 2):=by
 have L0:=Zd (mW w 58 26 26 a p (ay 8))
 rw[rF]at L0
 have hbd:=nH
 have PR:=Zd (xZ a ha)
 have SP:=Zd (fun wr (b:bO wr (w.heap.size+1) 26 p)=>iH (.slice (some ⟨w.heap.size+1,0,none⟩) 8 8) p wr (by have:=tN b 8 gA;rw[hp]at this;exact this) gA)
 have SL:=Zd (fun wr (g:w.grownBy wr none)=>iH v l wr (aP h g) gA)
 rw[Yv]at hk
 clear h
 rcases pa:P_ a with _|_
 ·rw[pa]at PR
  clear hk pa
  go_enter func169,ntmps169
  go_wp2_with (first|refine lA L0.out.1 (by rw[ha];exact dz) ?_)
  refine(PR.out _).mono ?_
  rintro e w1 ⟨rfl,g1⟩
  have M1:=Zd (g_.aH (show g_ w _ 58 26 26 a p (ay 8)from L0.out) g1)
  clear PR g1
  have BB:=Zd M1.out.2.2.1
  have GM:=Zd M1.out.2.2.2
  go_wp2_with (first|refine sA (ay 8) BB.out rfl (by rw[au];exact aW) ?_)
  have PU:=bB (rs':=ay 8) BB.out rfl
  have eO:=lS PU.1 (by rw[au];exact aW)
  have GF:=Zd (aG GM.out PU.2 gA)
  refine bodyPost_ret (v:=.tuple #[.slice none 0 0,.agg (aD (ay 8)),.int .i64 2]) ?_ rfl ⟨_,rfl,bZ _ _,GF.out⟩
  simp[results,results169,asAddr,Act.put,eO]
 rcases rp:aL p with _|_
 ·rw[pa]at PR
  rw[rp]at SP
  clear hk pa rp
  go_enter func169,ntmps169
  go_wp2_with (first|refine lA L0.out.1 (by rw[ha];exact dz) ?_)
  refine(PR.out _).mono ?_
  rintro e w1 ⟨rfl,g1⟩
  have M1:=Zd (g_.aH (show g_ w _ 58 26 26 a p (ay 8)from L0.out) g1)
  clear PR g1
  go_wp2_with fail
  refine(SP.out _ M1.out.2.1).mono ?_
  rintro e w2 ⟨rfl,rfl⟩
  clear SP
  have BB:=Zd M1.out.2.2.1
  have GM:=Zd M1.out.2.2.2
  clear M1
  go_wp2_with (first|refine sA (ay 8) BB.out rfl (by rw[au];exact aW) ?_)
  have PU:=bB (rs':=ay 8) BB.out rfl
  have eO:=lS PU.1 (by rw[au];exact aW)
  have GF:=Zd (aG GM.out PU.2 gA)
  refine bodyPost_ret (v:=.tuple #[.slice none 0 0,.agg (aD (ay 8)),.int .i64 2]) ?_ rfl ⟨_,rfl,bZ _ _,GF.out⟩
  simp[results,results169,asAddr,Act.put,eO]
 have rl:aL l=false:=by rw[pa,rp]at hk;simpa using hk
 rw[pa]at PR
 rw[rp]at SP
 rw[rl]at SL
 clear hk pa rp rl
 go_enter func169,ntmps169
 go_wp2_with (first|refine lA L0.out.1 (by rw[ha];exact dz) ?_)
 refine(PR.out _).mono ?_
 rintro e w1 ⟨rfl,g1⟩
 have M1:=Zd (g_.aH (show g_ w _ 58 26 26 a p (ay 8)from L0.out) g1)
 clear PR g1
 go_wp2_with fail
 refine(SP.out _ M1.out.2.1).mono ?_
 rintro e w2 ⟨rfl,rfl⟩
 clear SP
 go_wp2_with fail
 refine(SL.out _ M1.out.2.2.2).mono ?_
 rintro e w3 ⟨rfl,rfl⟩
 clear SL
 have BB:=Zd M1.out.2.2.1
 have GM:=Zd M1.out.2.2.2
 clear M1
 go_wp2_with (first|refine sA (ay 8) BB.out rfl (by rw[au];exact aW) ?_)
 have PU:=bB (rs':=ay 8) BB.out rfl
 have eO:=lS PU.1 (by rw[au];exact aW)
 have GF:=Zd (aG GM.out PU.2 gA)
 refine bodyPost_ret (v:=.tuple #[.slice none 0 0,.agg (aD (ay 8)),.int .i64 2]) ?_ rfl ⟨_,rfl,bZ _ _,GF.out⟩
 simp[results,results169,asAddr,Act.put,eO]
theorem acd (a p:List Int)(ha:a.length=9)(hp:p.length=8)(v:Value)(l:List Int)(w:World)(h:aS w v l)(hl:l.length*8≤140737488351232)(hk:okF a p l=true) :
 Calls prog 169 #[.agg (aD a),.agg (aD p),v] w (Z7 w (mI a p l l.length) (nZ p (mI a p l l.length)) 0):=by
 have L0:=Zd (mW w 58 26 26 a p (ay 8))
 rw[rF]at L0
 have PR:=Zd (xZ a ha)
 have SP:=Zd (fun wr (b:bO wr (w.heap.size+1) 26 p)=>iH (.slice (some ⟨w.heap.size+1,0,none⟩) 8 8) p wr (by have:=tN b 8 gA;rw[hp]at this;exact this) gA)
 have SL:=Zd (fun wr (g:w.grownBy wr none)=>iH v l wr (aP h g) gA)
 rw[Yv]at hk
 simp only[Bool.and_eq_true]at hk
 obtain⟨⟨pa,rp⟩,rl⟩:=hk
 rw[pa]at PR
 rw[rp]at SP
 rw[rl]at SL
 have wa:nK a=true:=by unfold P_ at pa;simp only[Bool.and_eq_true]at pa;exact pa.1
 have RL:=Zd ((aV l).1 rl)
 have AB:=Zd (jE a (-1048576) 1048576 gA gA ((kg a).1 wa))
 have WA:=Zd wa
 have RP:=Zd rp
 have RR:=Zd rl
 obtain⟨ad,c,rfl,hc,bH⟩:=h
 have HC:=Zd bH
 have jg:=fZ l.length gA
 clear bH pa wa rp rl
 go_enter func169,ntmps169
 go_wp2_with (first|refine lA L0.out.1 (by rw[ha];exact dz) ?_)
 refine(PR.out _).mono ?_
 rintro e w1 ⟨rfl,g1⟩
 have M1:=Zd (g_.aH (show g_ w _ 58 26 26 a p (ay 8)from L0.out) g1)
 clear PR g1
 go_wp2_with fail
 refine(SP.out _ M1.out.2.1).mono ?_
 rintro e w2 ⟨rfl,rfl⟩
 clear SP
 go_wp2_with fail
 refine(SL.out _ M1.out.2.2.2).mono ?_
 rintro e w3 ⟨rfl,rfl⟩
 clear SL
 go_wp2_with fail
 have M0:=Zd (show MkM w (w3.alloc (.cells (aD (ay l.length)) 3)) a p w3.heap.size (ay l.length)from
  ⟨M1.out.1.aH (ak _ _ none),M1.out.2.1.aH (ak _ _ none),M1.out.2.2.1.aH (ak _ _ none),bO.new w3 3 _,M1.out.2.2.1.lt,aB M1.out.2.2.2 (ak _ _ none)⟩)
 clear M1 jg
 generalize w3.alloc _=W0 at *
 generalize w3.heap.size=B at *
 go_loopw [31] (fun i wr=>∃(k:Nat) (rs:List Int),i=.int .i64 k∧k≤l.length∧Hid (jh l.length (fun j=>aC (mI a p l l.length) j) k rs)∧Hid (MkM w wr a (nZ p (mI a p l k)) B rs)) (fun i _=>l.length-(intOf i).toNat)
 case atStart=>exact⟨0,ay l.length,rfl,Nat.zero_le _,⟨au _,fun j hj=>gA⟩,by rw[show nZ p (mI a p l 0)=p from abR p hp];exact M0.out⟩
 case round=>
  obtain⟨k,rs,rfl,hk,hF,hM⟩:=hrel
  clear M0
  by_cases jS:k<l.length
  ·obtain⟨ax,rfl,hv⟩:=HC.out gA
   have cx:=bA hM.out.2.2.2.2.2 (hv k jS)
   obtain⟨x1,x2⟩:=RL.out k jS
   have hlen:rs.length=l.length:=hF.out.1
   have EV:aC (mI a p l l.length) k=eU (aC l k-gs a (kM p (mI a p l k))):=by
    have:=aeO a p l k (l.length-(k+1))
    rw[show k+1+(l.length-(k+1))=l.length by omega]at this
    exact this
   have NF:=Zd (eP hF.out jS)
   rw[EV]at NF
   have hq:=nJ p (mI a p l k)
   have hq':=nJ p (mI a p l (k+1))
   have GU:=Zd (fun w'=>U2 a (nZ p (mI a p l k)) ha hq w' WA.out (Er p (mI a p l k) RP.out (lF a p l k)))
   rw[aeN]at GU
   obtain⟨b1,b2⟩:=agP a (kM p (mI a p l k)) AB.out (uK p (mI a p l k) RP.out (lF a p l k))
   have AF:=Zd (fun w'=>aae (nZ p (mI a p l k)) hq (eU (aC l k-gs a (kM p (mI a p l k)))) w')
   rw[ab9,show(mI a p l k)++[eU (aC l k-gs a (kM p (mI a p l k)))]=(mI a p l (k+1))from rfl]at AF
   clear hF EV hv
   have BA:=Zd hM.out.1
   have BQ:=Zd hM.out.2.1
   generalize gs a (kM p (mI a p l k))=G at *
   generalize hqe:nZ p (mI a p l (k+1))=q' at *
   have HQ:=Zd hqe
   clear hqe
   generalize nZ p (mI a p l k)=q at *
   generalize aC l k=x at *
   have ST:=Zd (fun w'=>vV (x-G) w')
   generalize eU (x-G)=z at *
   have kl1:(k:Int)<l.length:=gA
   go_wp2_with (first|refine lA BA.out (by rw[ha];exact dz) ?_|refine lA BQ.out (by rw[hq];exact aW) ?_)
   refine(GU.out _).mono ?_
   rintro e w4 ⟨rfl,g4⟩
   have M4:=Zd (hM.out.aH g4)
   clear g4 hM GU cx
   go_wp2_with fail
   refine(ST.out _).mono ?_
   rintro e w5 ⟨rfl,rfl⟩
   clear ST
   have cd:=M4.out.2.2.2.1.cell k gA
   have fd:=M4.out.2.2.2.1.free k
   have M5:=Zd (M4.out.ak2 k z)
   generalize aC rs k=y at *
   go_upto_region 8 with fail
   clear cd fd
   generalize w5.setCell _ _=W1 at *
   have HS:=Zd (M5.out.aH (aZ W1))
   refine b_ 6 (fun w'=>MkM w w' a q B (rs.set k z)) 7 (by rfl) _ rfl (by kernel_rfl) (fun aK=>?_)
   refine jq (hy:=by intro w' bL;exact yA bL.2.1 (by rw[hq];exact aW)) (v:=.agg (aD q)) 0 HS.out aK fun aK=>?_
   refine jq 1 HS.out aK fun aK=>?_
   refine jq 2 HS.out aK fun aK=>?_
   refine jq 3 HS.out aK fun aK=>?_
   refine jq (hy:=by intro w' bL;have cz:=bL.2.2.2.1.cell k (by rw[List.length_set];omega);rw[mH rs k z gA]at cz;go_simp;try with_reducible rfl) (v:=.int .i64 z) 4 HS.out aK fun aK=>?_
   refine kT 5 aK fun K hK=>?_
   (try simp only[sZ])
   go_simp
   refine(AF.out _).mono ?_
   rintro e w6 ⟨rfl,g6⟩
   have HS:=Zd (MkM.aH HS.out g6)
   clear g6 AF
   go_wp2_with fail
   refine hK.out _ _ (fun _=>HS.out) (fun aK=>?_)
   (try simp only[sZ])
   refine kT 6 aK fun K hK=>?_
   (try simp only[sZ])
   refine dW rfl 26 _ _ rfl (w.heap.size+1) q q' rfl rfl HS.out.2.1 (by rw[hq',hq]) (by rw[hq];exact aW) ?_
   have M8:=Zd (HS.out.ak3 (q':=q') (by rw[hq',hq]))
   refine hK.out _ _ (fun h=>by cases h) (fun aK=>?_)
   clear HS
   (try simp only[sZ])
   generalize bT w6 (w.heap.size+1) q'=w7 at *
   refine bI _ _ _ _ (by rfl) ?_
   refine xP ?_
   go_wp2_with fail
   go_roundw
   case rel=>exact⟨k+1,_,by go_num,gA,NF.out,by rw[HQ.out];exact M8.out⟩
   case measure=>simp[intOf];omega
  obtain rfl:k=l.length:=gA
  have EL:=Zd (show rs=mI a p l l.length from by
   have h1:=fB hF.out
   have h2:=ab_ (mI a p l l.length)
   rw[mo]at h2
   exact h1.trans h2.symm)
  have hlen:rs.length=l.length:=hF.out.1
  have hq:=nJ p (mI a p l l.length)
  clear hF
  generalize hqe:nZ p (mI a p l l.length)=q at *
  have HQ:=Zd hqe
  clear hqe
  go_upto_region 10 with fail
  refine wp_region_held_drew (S:=fun w'=>bO w' (w.heap.size+1) 26 q) (by kernel_rfl) (hM.out.2.1.aH (aZ _)) (fun aj=>?_)
  refine bV 0 aj ?_
  refine bV (hy:=by intro w' bL;exact yA bL (by rw[hq];exact aW)) (v:=.agg (aD q)) 1 aj ?_
  refine bV 2 aj ?_
  refine fI 3 fun K hK=>?_
  (try simp only[sZ])
  have HS:=Zd (hM.out.aH (aZ _))
  refine dW rfl 26 _ _ rfl (w.heap.size+1+1) (ay 8) q rfl rfl HS.out.2.2.1 (by rw[hq,au]) (by rw[au];exact aW) ?_
  have PU:=bB (rs':=q) HS.out.2.2.1 (by rw[hq,au])
  have BZ:=Zd PU.1
  have GF:=Zd (aG HS.out.2.2.2.2.2 PU.2 gA)
  have hB:=HS.out.2.2.2.2.1
  have OF:=Zd (Yw (base:=w.heap.size) (HS.out.2.2.2.1.aJ PU.2 gA) gA gA)
  rw[hlen,EL.out]at OF
  have BQ:=Zd (HS.out.2.1.aJ PU.2 gA)
  clear HS PU hM
  generalize bT _ (w.heap.size+1+1) q=w7 at *
  refine hK.out _ _ BQ.out (fun aj=>?_)
  (try simp only[sZ])
  refine bV 4 aj ?_
  refine lM ?_
  clear aj
  have eO:=lS BZ.out (by rw[hq];exact aW)
  go_wp2_with fail
  refine bodyPost_ret (v:=.tuple #[_,.agg (aD q),.int .i64 0]) ?_ rfl ⟨_,rfl,OF.out,GF.out⟩
  simp[results,results169,asAddr,Act.put,eO]
theorem Qb (a p:List Int)(ha:a.length=9)(hp:p.length=8)(v:Value)(l:List Int)(w:World)(h:aS w v l)(hsh:rR v l)(hl:l.length*8≤140737488351232) :
 Calls prog 169 #[.agg (aD a),.agg (aD p),v] w (Z7 w (xQ a p l) (Du a p l) (I8 a p l)):=by
 rcases hk:okF a p l with _|_
 ·rw[show xQ a p l=[] by unfold xQ;rw[hk];rfl,show Du a p l=ay 8 by unfold Du;rw[hk];rfl,show I8 a p l=2 by unfold I8;rw[hk];rfl]
  exact aeU a p ha hp v l w h hl hk
 rw[show xQ a p l=mI a p l l.length from if_pos hk,show Du a p l=nZ p (mI a p l l.length)from if_pos hk,show I8 a p l=0 from if_pos hk]
 exact acd a p ha hp v l w h hl hk
def wids:List Int:=[6,6,5,5,4,4,3,3]
def wid (i:Nat):Nat:=if i<2 then 6 else if i<4 then 5 else if i<6 then 4 else 3
def many (b:Nat):Nat:=2^b
theorem Ey (i:Nat):wid i=6∨wid i=5∨wid i=4∨wid i=3:=by unfold wid;split<;>(try split)<;>(try split)<;>simp
theorem aeV (i:Nat)(h:i<8):wids.getD i 0=(wid i:Int):=by
 have:∀i:Fin 8,wids.getD i.val 0=(wid i.val:Int):=by decide
 exact this ⟨i,h⟩
def U3 (M n:Int):Int:=31000-31000*(2*(M-n)-1)*(2*(M-n)-1) / (M*M)
def lvl (b:Nat)(n:Int):Int:=if 2*n<(many b:Int)then -U3 (many b) ((many b:Int)-1-n)else U3 (many b) n
def okB (b:Nat):Prop:=b=6∨b=5∨b=4∨b=3
theorem nM (b:Nat)(h:okB b):8≤many b∧many b≤64:=by rcases h with rfl|rfl|rfl|rfl<;>decide
theorem qD (b:Nat)(h:okB b):∃q:Nat,many b=2*q:=⟨many b / 2,by rcases h with rfl|rfl|rfl|rfl<;>decide⟩
theorem U5 (M r:Int)(h0:1≤r)(h1:r≤M)(h2:8≤M)(h3:M≤64):0≤31000*r*r / (M*M)∧31000*r*r / (M*M)≤31000∧0≤31000*r*r∧31000*r*r≤126976000∧0<M*M∧M*M≤4096:=by
 have e1:r*r≤M*M:=Int.mul_le_mul h1 h1 gA gA
 have e2:0≤r*r:=Int.mul_nonneg gA gA
 have e3:M*M≤64*64:=Int.mul_le_mul h3 h3 gA gA
 have e4:8*8≤M*M:=Int.mul_le_mul h2 h2 gA gA
 rw[Int.mul_assoc]
 generalize r*r=x at *
 generalize M*M=y at *
 have d1:0≤31000*x / y:=Int.ediv_nonneg gA gA
 have d2:31000*x / y≤31000:=Int.ediv_le_of_le_mul gA gA
 omega
theorem Ez (b:Nat)(n:Int)(h:okB b)(h1:(many b:Int)≤2*n)(h2:n<many b):0≤U3 (many b) n∧U3 (many b) n≤31000:=by
 obtain⟨m1,m2⟩:=nM b h
 obtain⟨q,hq⟩:=qD b h
 have:=U5 (many b) (2*((many b:Int)-n)-1) gA gA gA gA
 unfold U3
 omega
theorem Ma (b:Nat)(n:Int)(h:okB b)(h1:0≤n)(h2:n<many b):-31000≤lvl b n∧lvl b n≤31000:=by
 obtain⟨q,hq⟩:=qD b h
 unfold lvl
 split
 ·have:=Ez b ((many b:Int)-1-n) h gA gA
  omega
 have:=Ez b n h gA gA
 omega
theorem Yx (b:Nat)(n:Int)(h:2*n<many b):lvl b n=-U3 (many b) ((many b:Int)-1-n):=if_pos h
theorem Qc (b:Nat)(n:Int)(h:¬2*n<many b):lvl b n=U3 (many b) n:=if_neg h
def far (x y:Int):Int:=if x<y then y-x else x-y
def gap (b:Nat)(k:Int)(n:Nat):Int:=far (lvl b n) k
def nu (b:Nat)(k:Int):Nat→Nat
 | 0=>0
 | n+1=>if gap b k n<gap b k (nu b k n)then n else nu b k n
theorem ace (b:Nat)(k:Int)(n:Nat)(h:gap b k n<gap b k (nu b k n)):nu b k (n+1)=n:=if_pos h
theorem aeW (b:Nat)(k:Int)(n:Nat)(h:¬gap b k n<gap b k (nu b k n)):nu b k (n+1)=nu b k n:=if_neg h
theorem Qd (b:Nat)(k:Int):nu b k 1=0:=by
 show(if gap b k 0<gap b k 0 then 0 else 0)=0
 split<;>rfl
theorem Yy (b:Nat)(k:Int):∀n,nu b k (n+1)≤n
 | 0=>by rw[Qd];omega
 | n+1=>by
  have:=Yy b k n
  show(if gap b k (n+1)<gap b k (nu b k (n+1))then n+1 else nu b k (n+1))≤n+1
  split<;>omega
theorem Mc (b:Nat)(k:Int)(n m:Nat)(h:n≤m)(hm:0<m):nu b k n<m:=by
 match n with
 | 0=>exact hm
 | n+1=>have:=Yy b k n;omega
def one (b:Nat)(k:Int):Nat:=nu b k (many b)
theorem ahw (b:Nat)(k:Int)(h:okB b):one b k<many b:=Mc b k _ _ (Nat.le_refl _) (by have:=nM b h;omega)
theorem uN (f:Nat→Int)(B:Int)(h:∀i,-B≤f i∧f i≤B):∀n:Nat,-(B*(n:Int))≤fq f n∧fq f n≤B*(n:Int)
 | 0=>by show -(B*((0:Nat):Int))≤0∧(0:Int)≤B*((0:Nat):Int);simp
 | n+1=>by
  have h1:=uN f B h n
  have h2:=h n
  have e:B*((n+1:Nat):Int)=B*(n:Int)+B:=by rw[show((n+1:Nat):Int)=(n:Int)+1 from rfl,Int.mul_add,Int.mul_one]
  show -(B*((n+1:Nat):Int))≤fq f n+f n∧fq f n+f n≤B*((n+1:Nat):Int)
  rw[e];omega
theorem wZ (f:Nat→Int):∀n,(∀i,i<n→f i=0)→fq f n=0
 | 0,_=>rfl
 | n+1,h=>by show fq f n+f n=0;rw[wZ f n (fun i hi=>h i gA),h n gA];rfl
theorem EA (a:Int)(f:Nat→Int):∀n,fq (fun i=>a*f i) n=a*fq f n
 | 0=>by show(0:Int)=a*0;simp
 | n+1=>by show fq (fun i=>a*f i) n+a*f n=a*(fq f n+f n);rw[EA a f n,Int.mul_add]
theorem Kj (a:Int)(f:Nat→Int):∀n,fq f n*a=fq (fun i=>f i*a) n
 | 0=>by show 0*a=(0:Int);simp
 | n+1=>by show(fq f n+f n)*a=fq (fun i=>f i*a) n+f n*a;rw[←Kj a f n,Int.add_mul]
theorem Kk (f g:Nat→Int):∀n,fq (fun i=>f i+g i) n=fq f n+fq g n
 | 0=>rfl
 | n+1=>by show fq (fun i=>f i+g i) n+(f n+g n)=fq f n+f n+(fq g n+g n);rw[Kk f g n];omega
theorem Bb (f:Nat→Nat→Int)(m:Nat):∀n,fq (fun i=>fq (fun j=>f i j) m) n=fq (fun j=>fq (fun i=>f i j) n) m
 | 0=>(wZ _ m (fun i _=>rfl)).symm
 | n+1=>by
  show fq (fun i=>fq (fun j=>f i j) m) n+fq (fun j=>f n j) m=fq (fun j=>fq (fun i=>f i j) n+f n j) m
  rw[Bb f m n,Kk]
theorem ED (f:Nat→Int)(n:Nat)(h:∀i,i<n→f i=0):∀k,fq f (n+k)=fq (fun i=>f (n+i)) k
 | 0=>wZ f n h
 | k+1=>by show fq f (n+k)+f (n+k)=fq (fun i=>f (n+i)) k+f (n+k);rw[ED f n h k]
theorem aag (g h:Nat→Int)(n m:Nat):fq g n*fq h m=fq (fun t=>fq (fun u=>g t*h u) m) n:=by
 rw[Kj]
 exact ji _ _ n (fun i _=>(EA (g i) h m).symm)
def fD (r:List Int)(n i:Nat):Int:=if n≤i then eU (aC r (i-n))else 0
def late (r:List Int)(n:Nat):List Int:=fM 40 (fD r n)
theorem qR (r:List Int)(n i:Nat):-32768≤fD r n i∧fD r n i≤32767:=by
 unfold fD
 split
 ·exact kK _
 omega
theorem U6 (r:List Int)(n:Nat):aL (late r n)=true:=by
 rw[aV]
 intro i hi
 unfold late at *
 rw[bQ]at hi
 rw[dN _ _ _ hi]
 exact qR r n i
def Md (r:List Int)(a b:Nat):Int:=fq (fun i=>fD r a i*fD r b i) 40
theorem acf (r:List Int)(a b:Nat)(ha:a≤39)(hb:b≤39)(h:a=39∨b=39):Md r a b=eU (aC r (39-a))*eU (aC r (39-b)):=by
 show fq (fun i=>fD r a i*fD r b i) 39+fD r a 39*fD r b 39=_
 rw[wZ _ 39 (fun i hi=>by
  rcases h with h|h
  ·rw[show fD r a i=0 from if_neg gA];simp
  rw[show fD r b i=0 from if_neg gA];simp)]
 rw[show fD r a 39=eU (aC r (39-a))from if_pos ha,show fD r b 39=eU (aC r (39-b))from if_pos hb]
 omega
theorem acg (r:List Int)(a b:Nat)(ha:a<39)(hb:b<39):Md r a b=eU (aC r (39-a))*eU (aC r (39-b))+Md r (a+1) (b+1):=by
 have e1:Md r (a+1) (b+1)=fq (fun i=>fD r a i*fD r b i) 39:=by
  show fq (fun i=>fD r (a+1) i*fD r (b+1) i) (39+1)=_
  rw[yE,show fD r (a+1) 0=0 from if_neg gA]
  rw[ji (fun i=>fD r (a+1) (i+1)*fD r (b+1) (i+1)) (fun i=>fD r a i*fD r b i) 39 (fun i _=>by
   have f:∀n,fD r (n+1) (i+1)=fD r n i:=fun n=>by
    unfold fD
    by_cases h:n≤i
    ·rw[if_pos h,if_pos gA,show i+1-(n+1)=i-n by omega]
    rw[if_neg h,if_neg gA]
   rw[f a,f b])]
  simp
 rw[e1]
 show fq (fun i=>fD r a i*fD r b i) 39+fD r a 39*fD r b 39=_
 rw[show fD r a 39=eU (aC r (39-a))from if_pos gA,show fD r b 39=eU (aC r (39-b))from if_pos gA]
 omega
theorem ach (r:List Int)(a b:Nat):-42949672960≤Md r a b∧Md r a b≤42949672960:=by
 have:=zn (fun i=>fD r a i*fD r b i) (fun i=>pK _ _ (qR r a i).1 (qR r a i).2 (qR r b i).1 (qR r b i).2) 40
 unfold Md
 omega
def tbN (r:List Int)(k:Nat):Int:=Md r (k / 40) (k % 40)
def tbl (r:List Int):List Int:=fM 1600 (tbN r)
theorem aeX (r:List Int):(tbl r).length=1600:=bQ _ _
theorem ahx (r:List Int)(a b:Nat)(ha:a<40)(hb:b<40):aC (tbl r) (a*40+b)=Md r a b:=by
 unfold tbl
 rw[dN _ _ _ gA]
 unfold tbN
 rw[show(a*40+b) / 40=a by omega,show(a*40+b) % 40=b by omega]
def TbF (r:List Int)(a b:Nat)(rs:List Int):Prop:=rs.length=1600∧∀x y,x<40→y<40→(a<x∨(a=x∧b≤y))→aC rs (x*40+y)=Md r x y
theorem aah (r:List Int):TbF r 40 0 (ay 1600):=⟨au _,fun x y hx hy h=>gA⟩
theorem aci {r:List Int}{a:Nat}{rs:List Int}(h:TbF r (a+1) 0 rs):TbF r a 40 rs:=⟨h.1,fun x y hx hy hh=>h.2 x y hx hy gA⟩
theorem Yz {r:List Int}{a b:Nat}{rs:List Int}(ha:a<40)(hb:b<40)(h:TbF r a (b+1) rs)(z:Int)(hz:z=Md r a b):TbF r a b (rs.set (a*40+b) z):=by
 refine⟨by simpa using h.1,fun x y hx hy hh=>?_⟩
 by_cases e:a=x∧b=y
 ·obtain⟨rfl,rfl⟩:=e
  rw[mH _ _ _ (by rw[h.1];omega),hz]
 rw[j_ _ _ _ _ gA]
 exact h.2 x y hx hy gA
theorem aai {r:List Int}{a b:Nat}{rs:List Int}(ha:a<40)(hb:b<40)(h:TbF r a (b+1) rs)(z:Int):TbF r a (b+1) (rs.set (a*40+b) z):=
 ⟨by simpa using h.1,fun x y hx hy hh=>by rw[j_ _ _ _ _ gA];exact h.2 x y hx hy hh⟩
theorem aeY {r:List Int}{rs:List Int}(h:TbF r 0 0 rs):rs=tbl r:=by
 refine dJ h.1 (fun i hi=>?_)
 have:=h.2 (i / 40) (i % 40) gA gA gA
 rw[show i / 40*40+i % 40=i by omega]at this
 exact this
def Kl (t r:List Int)(n:Nat):Int:=fq (fun i=>aC t i*fD r n i) 40
def tgL (t r:List Int):List Int:=fM 40 (Kl t r)
theorem aeZ (t r:List Int)(n:Nat):fE t (late r n) 40=Kl t r n:=
 ji _ _ 40 (fun i hi=>by unfold late;rw[dN _ _ _ hi])
theorem acj (t r:List Int)(hr:aL r=true)(n:Nat)(hn:n≤40):fE (t.drop n) r (40-n)=Kl t r n:=by
 have e:=ED (fun i=>aC t i*fD r n i) n (fun i hi=>by rw[show fD r n i=0 from if_neg gA];simp) (40-n)
 rw[show n+(40-n)=40 by omega]at e
 unfold Kl
 rw[e]
 refine ji _ _ _ (fun i _=>?_)
 have b:=jE _ _ _ gA gA ((aV r).1 hr) i
 rw[zm,show fD r n (n+i)=aC r i by unfold fD;rw[if_pos gA,show n+i-n=i by omega,Ee _ b.1 b.2]]
def Jb (t r:List Int):List Int:=if t.length=40∧r.length=40∧(aL t&&aL r)=true then tgL t r else[]
def Km (t r:List Int):Int:=if t.length=40∧r.length=40 then(if(aL t&&aL r)=true then 0 else 2)else 1
def sg (x:Int):Int:=if x<0 then -1 else 1
theorem oO (x:Int):(x<0∧sg x=-1)∨(0≤x∧sg x=1):=by
 unfold sg
 by_cases h:x<0
 ·exact .inl ⟨h,if_pos h⟩
 exact .inr ⟨gA,if_neg h⟩
def iW (x:List Int)(t:Nat):Nat:=t+4*(aC x t).toNat
def f_ (x:List Int):Bool:=x.all fun p=>decide (0≤p)&&decide (p≤9)
theorem iq (x:List Int):f_ x=true↔∀i,i<x.length→0≤aC x i∧aC x i≤9:=by
 unfold f_
 rw[List.all_eq_true]
 constructor
 ·intro h i hi
  have:=h x[i] (List.getElem_mem hi)
  simp only[Bool.and_eq_true,decide_eq_true_eq]at this
  simpa [aC,List.getD,hi] using this
 intro h y hy
 obtain⟨i,hi,rfl⟩:=List.getElem_of_mem hy
 have:=h i hi
 simp only[aC,List.getD,List.getElem?_eq_getElem hi,Option.getD_some]at this
 simp[this]
theorem Bc {x:List Int}(hx:f_ x=true)(hl:x.length=4)(t:Nat)(ht:t<4):iW x t<40:=by
 have:=(iq x).1 hx t gA
 unfold iW;omega
def EO (d x:List Int):Nat→Int
 | 0=>0
 | t+1=>wrap64 (EO d x t+wrap64 (sg (aC d (iW x t))*aC d (iW x t)))
def Uw (d x:List Int)(t:Nat):Int:=sg (aC d (iW x t))
def OQ (d r x:List Int)(t u:Nat):Int:=Uw d x t*Uw d x u*Md r (iW x t) (iW x u)
def E_ (d r x:List Int)(t u:Nat):Int:=fq (fun a=>fq (fun b=>OQ d r x a b) 4) t+fq (fun b=>OQ d r x t b) u
theorem acn (d r x:List Int)(t u:Nat):E_ d r x t (u+1)=E_ d r x t u+OQ d r x t u:=by
 unfold E_
 show _+(fq (fun b=>OQ d r x t b) u+OQ d r x t u)=_
 omega
theorem aco (d r x:List Int)(t:Nat):E_ d r x t 4=E_ d r x (t+1) 0:=by
 unfold E_
 show _=fq (fun a=>fq (fun b=>OQ d r x a b) 4) t+fq (fun b=>OQ d r x t b) 4+0
 omega
theorem U7 (d r x:List Int)(t u:Nat):-42949672960≤OQ d r x t u∧OQ d r x t u≤42949672960:=by
 have:=ach r (iW x t) (iW x u)
 unfold OQ Uw
 rcases oO (aC d (iW x t))with⟨_,h⟩|⟨_,h⟩<;>rcases oO (aC d (iW x u))with⟨_,g⟩|⟨_,g⟩<;>rw[h,g]<;>omega
theorem U9 (d r x:List Int)(t u:Nat)(ht:t≤4)(hu:u≤4):-1000000000000≤E_ d r x t u∧E_ d r x t u≤1000000000000:=by
 have h1:=uN (fun a=>fq (fun b=>OQ d r x a b) 4) 171798691840 (fun a=>by
  have:=uN (fun b=>OQ d r x a b) 42949672960 (fun b=>U7 d r x a b) 4
  omega) t
 have h2:=uN (fun b=>OQ d r x t b) 42949672960 (fun b=>U7 d r x t b) u
 unfold E_
 omega
def rE (d r x:List Int)(t i:Nat):Int:=fq (fun u=>Uw d x u*fD r (iW x u) i) t
theorem U_ (d r x:List Int)(t i:Nat)(ht:t≤4):-131072≤rE d r x t i∧rE d r x t i≤131072:=by
 have:=uN (fun u=>Uw d x u*fD r (iW x u) i) 32768 (fun u=>by
  have:=qR r (iW x u) i
  unfold Uw
  rcases oO (aC d (iW x u))with⟨_,h⟩|⟨_,h⟩<;>rw[h]<;>omega) t
 unfold rE
 omega
theorem aaj (d r x:List Int):E_ d r x 4 0=fq (fun i=>rE d r x 4 i*rE d r x 4 i) 40:=by
 have e:∀i,rE d r x 4 i*rE d r x 4 i=fq (fun t=>fq (fun u=>(Uw d x t*fD r (iW x t) i)*(Uw d x u*fD r (iW x u) i)) 4) 4:=fun i=>aag _ _ 4 4
 rw[ji _ _ 40 (fun i _=>e i),Bb (fun i t=>fq (fun u=>(Uw d x t*fD r (iW x t) i)*(Uw d x u*fD r (iW x u) i)) 4) 4 40]
 unfold E_
 show fq (fun a=>fq (fun b=>OQ d r x a b) 4) 4+0=_
 rw[Int.add_zero]
 refine ji _ _ 4 (fun t _=>?_)
 rw[Bb (fun i u=>(Uw d x t*fD r (iW x t) i)*(Uw d x u*fD r (iW x u) i)) 4 40]
 refine ji _ _ 4 (fun u _=>?_)
 unfold OQ Md
 rw[←EA]
 refine ji _ _ 40 (fun i _=>?_)
 simp only[Int.mul_assoc,Int.mul_left_comm]
def ak4 (d:List Int):Prop:=∀i,-1099511627776≤aC d i∧aC d i≤1099511627776
def cS (d x:List Int):Int:=EO d x 4
def eS (d r x:List Int):Int:=E_ d r x 4 0
def qU (C E:List Int→Int)(ix:Nat→List Int):Nat→List Int×Int×Int
 | 0=>(ay 4,0,0)
 | m+1=>if m=0∨yF (C (ix m)) (E (ix m)) (qU C E ix m).2.1 (qU C E ix m).2.2=true then(ix m,C (ix m),E (ix m))else qU C E ix m
theorem Me (C E:List Int→Int)(ix:Nat→List Int)(m:Nat)(h:m=0∨yF (C (ix m)) (E (ix m)) (qU C E ix m).2.1 (qU C E ix m).2.2=true):qU C E ix (m+1)=(ix m,C (ix m),E (ix m)):=if_pos h
theorem Va (C E:List Int→Int)(ix:Nat→List Int)(m:Nat)(h:¬(m=0∨yF (C (ix m)) (E (ix m)) (qU C E ix m).2.1 (qU C E ix m).2.2=true)):qU C E ix (m+1)=qU C E ix m:=if_neg h
theorem w_ (C E:List Int→Int)(ix:Nat→List Int):∀m,0<m→∃j,j<m∧qU C E ix m=(ix j,C (ix j),E (ix j))
 | 0,h=>gA
 | m+1,_=>by
  by_cases h:m=0∨yF (C (ix m)) (E (ix m)) (qU C E ix m).2.1 (qU C E ix m).2.2=true
  ·exact⟨m,gA,Me C E ix m h⟩
  obtain⟨j,hj,e⟩:=w_ C E ix m gA
  exact⟨j,gA,by rw[Va C E ix m h,e]⟩
def oP (C E:List Int→Int):Nat→List Int
 | 0=>ay 4
 | k+1=>(qU C E (fun p=>(oP C E k).set (k % 4) (p:Int)) 10).1
theorem Bd {x:List Int}(hx:f_ x=true)(t:Nat)(p:Int)(h0:0≤p)(h1:p≤9):f_ (x.set t p)=true:=by
 rw[iq]at *
 intro i hi
 rw[List.length_set]at hi
 by_cases e:t=i
 ·subst e;rw[mH _ _ _ hi];exact⟨h0,h1⟩
 rw[j_ _ _ _ _ e];exact hx i hi
theorem qE (C E:List Int→Int):∀k,(oP C E k).length=4∧f_ (oP C E k)=true
 | 0=>⟨rfl,rfl⟩
 | k+1=>by
  have ih:=qE C E k
  obtain⟨j,hj,e⟩:=w_ C E (fun p=>(oP C E k).set (k % 4) (p:Int)) 10 gA
  show(qU C E (fun p=>(oP C E k).set (k % 4) (p:Int)) 10).1.length=4∧f_ (qU C E (fun p=>(oP C E k).set (k % 4) (p:Int)) 10).1=true
  rw[e]
  exact⟨by simpa using ih.1,Bd ih.2 _ _ gA gA⟩
def dig (m:Nat):List Int:=[((m / 1000:Nat):Int),((m / 100 % 10:Nat):Int),((m / 10 % 10:Nat):Int),((m % 10:Nat):Int)]
def Mf (d x:List Int)(t:Nat):Int:=if aC d (iW x t)<0 then 0 else 2^t
def Fa (d x:List Int)(n:Nat):Int:=fq (Mf d x) n
theorem Fb (d x:List Int)(t:Nat):0≤Mf d x t∧Mf d x t≤2^t:=by
 have:(0:Int)<2^t:=Int.pow_pos gA
 unfold Mf
 split<;>omega
theorem ahy (d x:List Int):0≤Fa d x 4∧Fa d x 4≤15:=by
 have h0:=Fb d x 0
 have h1:=Fb d x 1
 have h2:=Fb d x 2
 have h3:=Fb d x 3
 show 0≤0+Mf d x 0+Mf d x 1+Mf d x 2+Mf d x 3∧0+Mf d x 0+Mf d x 1+Mf d x 2+Mf d x 3≤15
 have e:(2:Int)^0=1∧(2:Int)^1=2∧(2:Int)^2=4∧(2:Int)^3=8:=by decide
 omega
def xU (d:List Int):Bool:=d.all fun x=>decide (-1099511627776≤x)&&decide (x≤1099511627776)
theorem tO (l:List Int):xU l=true↔∀i,i<l.length→-1099511627776≤aC l i∧aC l i≤1099511627776:=by
 unfold xU
 rw[List.all_eq_true]
 constructor
 ·intro h i hi
  have:=h l[i] (List.getElem_mem hi)
  simp only[Bool.and_eq_true,decide_eq_true_eq]at this
  simpa [aC,List.getD,hi] using this
 intro h x hx
 obtain⟨i,hi,rfl⟩:=List.getElem_of_mem hx
 have:=h i hi
 simp only[aC,List.getD,List.getElem?_eq_getElem hi,Option.getD_some]at this
 simp[this]
theorem ae0 {d:List Int}(h:xU d=true):ak4 d:=jE _ _ _ gA gA ((tO d).1 h)
def vJ (d r:List Int):Int:=if d.length=40∧r.length=40 then(if xU d=true then 0 else 2)else 1
def Fe (d r:List Int)(X:List Int):List Int:=if vJ d r=0 then X else ay 4
def Jc (d r:List Int)(X:List Int):Int:=if vJ d r=0 then Fa d X 4 else 0
def kR (d r:List Int):List Int:=oP (cS d) (eS d r) 8
def Vb (d r x:List Int):Int:=if d.length=40∧r.length=40 then(if f_ x=true then 0 else 2)else 1
def soC (d r x:List Int):Int:=if Vb d r x=0 then cS d x else 0
def soV (d r x:List Int):Int:=if Vb d r x=0 then eS d r x else 0
def Mg (x:List Int)(s z:Int)(i:Nat):Int:=if aC x (i % 4)=((i / 4:Nat):Int)then(if s / 2^(i % 4) % 2=1 then z else -z)else 0
def Ux (x:List Int)(s z:Int):Int:=if(0≤s∧s≤15)∧(0≤z∧z≤32767)∧f_ x=true then 0 else 2
def Vd (x:List Int)(s z:Int):List Int:=if Ux x s z=0 then fM 40 (Mg x s z)else[]
def blV (s z:Int)(m:Nat):Int:=if s / 2^m % 2=1 then z else -z
def Qe (x:List Int)(s z:Int)(m:Nat)(rs:List Int):Prop:=rs.length=40∧∀i,i<40→aC rs i=if i % 4<m then Mg x s z i else 0
theorem Qf (x:List Int)(s z:Int):Qe x s z 0 (ay 40):=⟨au _,fun i hi=>by rw[iZ,if_neg gA]⟩
theorem Ve {x:List Int}{s z:Int}{m:Nat}{rs:List Int}(hx:f_ x=true)(hl:x.length=4)(hm:m<4)(h:Qe x s z m rs):Qe x s z (m+1) (rs.set (iW x m) (blV s z m)):=by
 have hg:=(iq x).1 hx m gA
 have hp:=Bc hx hl m hm
 refine⟨by simpa using h.1,fun i hi=>?_⟩
 by_cases e:iW x m=i
 ·subst e
  rw[mH _ _ _ (by rw[h.1];exact hp)]
  have h4:iW x m % 4=m:=by unfold iW;omega
  have h5:((iW x m / 4:Nat):Int)=aC x m:=by unfold iW;omega
  rw[if_pos gA]
  unfold Mg blV
  rw[h4,h5,if_pos rfl]
 rw[j_ _ _ _ _ e,h.2 i hi]
 by_cases h1:i % 4<m
 ·rw[if_pos h1,if_pos gA]
 rw[if_neg h1]
 by_cases h2:i % 4<m+1
 ·have h3:i % 4=m:=gA
  rw[if_pos h2]
  unfold Mg
  rw[h3,if_neg (fun e'=>e (by unfold iW;omega))]
 rw[if_neg h2]
theorem aak {x:List Int}{s z:Int}{rs:List Int}(h:Qe x s z 4 rs):rs=fM 40 (Mg x s z):=
 dJ h.1 (fun i hi=>by rw[h.2 i hi,if_pos gA])
theorem Vf {x:List Int}{s z:Int}(h:¬((0≤s∧s≤15)∧(0≤z∧z≤32767)∧f_ x=true)):Ux x s z=2∧Vd x s z=[]:=by
 have e:Ux x s z=2:=if_neg h
 exact⟨e,by unfold Vd;rw[if_neg (by rw[e];decide)]⟩
theorem Dx {x:List Int}{s z:Int}(h:(0≤s∧s≤15)∧(0≤z∧z≤32767)∧f_ x=true):Ux x s z=0∧Vd x s z=fM 40 (Mg x s z):=by
 have e:Ux x s z=0:=if_pos h
 exact⟨e,by unfold Vd;rw[if_pos e]⟩
def wdP:List Nat:=[2,6,6,5,5,4,4,3,3,6,3,4,4,4,4,4,5,6,3,4,4,4,4,4,5]
def oQ (i:Nat):Nat:=wdP.getD i 0
def OT:List Int:=[2,63,63,31,31,15,15,7,7,59,7,9,9,9,9,15,31,59,7,9,9,9,9,15,31]
def uO (i:Nat):Int:=OT.getD i 0
def sW:Nat→Nat
 | 0=>0
 | i+1=>sW i+oQ i
theorem ahz:sW 25=106:=by decide
theorem acp (i:Nat)(h:i≤25):sW i≤106:=by
 have:∀i:Fin 26,sW i.val≤106:=by decide
 exact this ⟨i,gA⟩
theorem acr (i:Nat)(h:i<25):2≤oQ i∧oQ i≤6:=by
 have:∀i:Fin 25,2≤oQ i.val∧oQ i.val≤6:=by decide
 exact this ⟨i,h⟩
theorem Bf (i:Nat)(h:i<25):0≤uO i∧uO i<2^oQ i∧uO i≤63:=by
 have:∀i:Fin 25,0≤uO i.val∧uO i.val<2^oQ i.val∧uO i.val≤63:=by decide
 exact this ⟨i,h⟩
theorem pO (k:Nat):(0:Int)<2^k:=Int.pow_pos (by decide)
def j4 (l:List Int):Bool:=(List.range 25).all fun i=>decide (0≤aC l i)&&decide (aC l i≤uO i)
theorem kF (l:List Int):j4 l=true↔∀i,i<25→0≤aC l i∧aC l i≤uO i:=by
 unfold j4
 rw[List.all_eq_true]
 constructor
 ·intro h i hi
  have:=h i (List.mem_range.2 hi)
  simpa using this
 intro h i hi
 have:=h i (List.mem_range.1 hi)
 simpa using this
theorem YA (l:List Int)(i:Nat)(h:i<25)(hn:¬(0≤aC l i∧aC l i≤uO i)):j4 l=false:=by
 rcases hb:j4 l with _|_
 ·rfl
 exact absurd ((kF l).1 hb i h) hn
def nF (l:List Int):Nat→Int
 | 0=>0
 | i+1=>nF l i*2^oQ i+aC l i
theorem acs (l:List Int)(h:j4 l=true):∀i,i≤25→0≤nF l i∧nF l i<2^sW i
 | 0,_=>⟨Int.le_refl _,by show(0:Int)<2^0;decide⟩
 | i+1,hi=>by
  obtain⟨h1,h2⟩:=acs l h i gA
  obtain⟨g1,g2⟩:=(kF l).1 h i gA
  obtain⟨m1,m2,m3⟩:=Bf i gA
  have hp:=pO (oQ i)
  have e1:0≤nF l i*2^oQ i:=Int.mul_nonneg h1 (Int.le_of_lt hp)
  have e2:(nF l i+1)*2^oQ i≤2^sW i*2^oQ i:=Int.mul_le_mul_of_nonneg_right gA (Int.le_of_lt hp)
  rw[Int.add_mul,←Int.pow_add]at e2
  show 0≤nF l i*2^oQ i+aC l i∧nF l i*2^oQ i+aC l i<2^(sW i+oQ i)
  omega
def oU (x:Int):Nat→Int
 | 0=>0
 | k+1=>oU x k+x / 2^k % 2
theorem Mh (x:Int):∀k:Nat,0≤oU x k∧oU x k≤k
 | 0=>⟨Int.le_refl _,Int.le_refl _⟩
 | k+1=>by
  have:=Mh x k
  show 0≤oU x k+x / 2^k % 2∧oU x k+x / 2^k % 2≤((k+1:Nat):Int)
  generalize x / 2^k=y
  omega
def pS (x:Int):Int:=if 0<x then oU x 63 else 0
theorem acu (x:Int):0≤pS x∧pS x≤63:=by
 unfold pS
 split
 ·exact Mh x 63
 omega
def uP (l:List Int):Int:=(pS (aC l 0)+pS (aC l 9)+pS (aC l 17)) % 2
theorem Mi (l:List Int):0≤uP l∧uP l<2:=by unfold uP;omega
def mP (l:List Int):Int:=(nF l 25*2+uP l)*32
theorem ae1 (l:List Int)(h:j4 l=true):0≤mP l∧mP l<5192296858534827628530496329220096:=by
 obtain⟨h1,h2⟩:=acs l h 25 (Nat.le_refl _)
 obtain⟨h3,h4⟩:=Mi l
 rw[ahz,show(2:Int)^106=81129638414606681695789005144064 by decide]at h2
 unfold mP
 omega
def byN (x:Int)(k:Nat):Int:=x / 256^(13-k) % 256
theorem ahA (x:Int)(k:Nat):0≤byN x k∧byN x k<256:=by unfold byN;omega
def rM (b:List Int):Nat→Int
 | 0=>0
 | i+1=>rM b i+aC b i
def byB (b:List Int):Prop:=∀i,0≤aC b i∧aC b i<256
theorem Mj (b:List Int)(h:byB b):∀n:Nat,0≤rM b n∧rM b n≤256*(n:Int)
 | 0=>⟨Int.le_refl _,Int.le_refl _⟩
 | n+1=>by
  have:=Mj b h n
  have:=h n
  show 0≤rM b n+aC b n∧rM b n+aC b n≤256*((n+1:Nat):Int)
  omega
theorem qV (a b:List Int):∀n:Nat,(∀i,i<n→aC a i=aC b i)→rM a n=rM b n
 | 0,_=>rfl
 | n+1,h=>by
  show rM a n+aC a n=rM b n+aC b n
  rw[qV a b n (fun i hi=>h i gA),h n gA]
def zD (b:List Int)(n:Nat):Int:=(90+rM b n) % 256
def zF (x:Int):List Int:=fM 14 (byN x)
theorem qp (x:Int):(zF x).length=14:=bQ _ _
theorem zG (x:Int)(i:Nat)(h:i<14):aC (zF x) i=byN x i:=dN _ _ _ h
theorem ahB (x:Int):byB (zF x):=fun i=>by
 by_cases h:i<14
 ·rw[zG x i h];exact ahA x i
 rw[dO _ i (by rw[qp];omega)];omega
def Cg (l:List Int):List Int:=zF (mP l)++[zD (zF (mP l)) 14]
def pkR (l:List Int):List Int:=if j4 l=true then Cg l else[]
def ae2 (l:List Int):Int:=if j4 l=true then 0 else 2
theorem ae3 (l:List Int):(Cg l).length=15:=by unfold Cg;rw[List.length_append,qp];rfl
theorem Vg (l:List Int)(i:Nat)(h:i<14):aC (Cg l) i=byN (mP l) i:=by
 have e:aC (Cg l) i=aC (zF (mP l)) i:=by
  unfold Cg
  simp[aC,List.getD,List.getElem?_append,qp,h]
 rw[e,zG _ _ h]
theorem ahC (l:List Int):aC (Cg l) 14=zD (Cg l) 14:=by
 have e:aC (Cg l) 14=zD (zF (mP l)) 14:=by
  unfold Cg
  simp[aC,List.getD,List.getElem?_append,qp]
 rw[e]
 unfold zD
 rw[qV (Cg l) (zF (mP l)) 14 (fun i hi=>by rw[Vg l i hi,zG _ _ hi])]
theorem Mk (l:List Int)(k:Nat)(z:Int)(h:k<l.length)(i:Nat):aC (l.set k z) i=if i=k then z else aC l i:=by
 unfold aC
 by_cases e:i=k
 ·subst e;simp[List.getD,h]
 simp[List.getD,e,List.getElem?_set,Ne.symm e]
def gK (was now:List Int)(half:Nat):List Int:=if half=0 then qL (nG was now 2)else qL now
theorem Vh (a b:List Int)(ha:a.length=8)(hb:b.length=8)(sa:bN a=true)(sb:bN b=true):bN (nG a b 2)=true:=by
 have ok:Pn a b 2=true:=by unfold Pn;rw[sa,sb];decide
 have e:nG a b 2=fM 8 (CV a b 2):=if_pos ok
 rw[gQ,tu]
 intro i hi
 rw[e,dN _ _ _ hi]
 have x:=(gQ a).1 sa i gA
 have y:=(gQ b).1 sb i gA
 have:=P7 (aC a i*(4-2)+aC b i*2) (-32767) 32767 gA gA
 unfold CV
 omega
theorem ae4 (a b:List Int)(hb:b.length=8)(sa:bN a=true)(sb:bN b=true):nG a b 4=b:=by
 have ok:Pn a b 4=true:=by unfold Pn;rw[sa,sb];decide
 have e:nG a b 4=fM 8 (CV a b 4):=if_pos ok
 rw[e]
 refine(dJ hb (fun i hi=>?_)).symm
 unfold CV
 have:=P7 (aC a i*(4-4)+aC b i*4) (aC b i) (aC b i) gA gA
 omega
theorem qF (was now:List Int)(half:Nat)(hw:was.length=8)(hn:now.length=8)(sw:bN was=true)(sn:bN now=true):j6 (gK was now half):=by
 unfold gK
 split
 ·exact PW _ (tu _ _ _) (Vh _ _ hw hn sw sn)
 exact PW _ hn sn
theorem acv (was now:List Int)(half:Nat)(hh:half<2)(hn:now.length=8)(sw:bN was=true)(sn:bN now=true):qL (nG was now (2+2*(half:Int)))=gK was now half:=by
 obtain rfl|rfl:half=0∨half=1:=gA
 ·rfl
 unfold gK
 rw[if_neg gA]
 rw[show(2:Int)+2*((1:Nat):Int)=4 from rfl,ae4 was now hn sw sn]
def vlL (p:List Int):List Int:=fM 8 (fun i=>lvl (wid i) (aC p (1+i)))
theorem zH (p:List Int):(vlL p).length=8:=bQ _ _
theorem Ml (i:Nat)(h:i<8):uO (1+i)=(many (wid i):Int)-1:=by
 have:∀i:Fin 8,uO (1+i.val)=(many (wid i.val):Int)-1:=by decide
 exact this ⟨i,h⟩
theorem ahD (p:List Int)(hp:j4 p=true)(i:Nat)(h:i<8):-31000≤aC (vlL p) i∧aC (vlL p) i≤31000:=by
 unfold vlL
 rw[dN _ _ _ h]
 have:=(kF p).1 hp (1+i) gA
 rw[Ml i h]at this
 exact Ma _ _ (Ey i) this.1 gA
theorem uQ (p:List Int)(hp:j4 p=true):bN (vlL p)=true:=by
 rw[gQ,zH]
 intro i hi
 have:=ahD p hp i hi
 omega
def dS (p:List Int)(k:Nat):List Int:=bP p (9+8*k) 8
structure sJ (u:List Int):Prop where
 len:u.length=8
 eH:0≤aC u 0∧aC u 0≤59
 pit:0≤aC u 1∧aC u 1≤7
 idx:∀j,j<4→0≤aC u (2+j)∧aC u (2+j)≤9
 kS:0≤aC u 6∧aC u 6≤15
 gG:0≤aC u 7∧aC u 7≤31
theorem lG (p:List Int)(hp:j4 p=true)(k:Nat)(hk:k<2):sJ (dS p k):=by
 have h:=(kF p).1 hp
 have g:∀i,i<8→0≤aC (dS p k) i∧aC (dS p k) i≤uO (9+8*k+i):=fun i hi=>by
  unfold dS
  rw[fV _ _ _ _ hi]
  exact h (9+8*k+i) gA
 obtain rfl|rfl:k=0∨k=1:=gA
 ·refine⟨aR _ _ _,g 0 gA,g 1 gA,fun j hj=>?_,g 6 gA,g 7 gA⟩
  obtain rfl|rfl|rfl|rfl:j=0∨j=1∨j=2∨j=3:=gA
  ·exact g 2 gA
  ·exact g 3 gA
  ·exact g 4 gA
  exact g 5 gA
 refine⟨aR _ _ _,g 0 gA,g 1 gA,fun j hj=>?_,g 6 gA,g 7 gA⟩
 obtain rfl|rfl|rfl|rfl:j=0∨j=1∨j=2∨j=3:=gA
 ·exact g 2 gA
 ·exact g 3 gA
 ·exact g 4 gA
 exact g 5 gA
def Iz (u:List Int):Int:=glV (aC u 7)
def IG (u:List Int):Int:=Aq (aC u 1)
def Mq (u:List Int):List Int:=Vd (bP u 2 4) (aC u 6) (Iz u)
def qG (l u:List Int):List Int:=zq (bP l 16 80) (20+aC u 0) (IG u) (Mq u)
def yK (l u:List Int):List Int:=(((jr l 16 (Dw (bP l 16 80) (qG l u))).set 98 (20+aC u 0)).set 97 (IG u)).set 96 (Iz u)
theorem xg (l u:List Int):(yK l u).length=l.length:=by unfold yK;rw[List.length_set,List.length_set,List.length_set,eG]
theorem Mr {u:List Int}(h:sJ u):0≤Iz u∧Iz u≤25267:=by
 have e:Iz u=kL (aC u 7).toNat:=if_pos h.gG
 rw[e];exact Dq _
theorem Vi {u:List Int}(h:sJ u):0≤IG u∧IG u≤18022:=by
 have e:IG u=iR (aC u 1).toNat:=if_pos h.pit
 rw[e];exact tK _
theorem ahE {u:List Int}(h:sJ u):f_ (bP u 2 4)=true:=by
 unfold f_
 rw[Dp,aR]
 intro i hi
 rw[fV _ _ _ _ hi]
 have:=h.idx i hi
 simp[this.1,this.2]
theorem YC {u:List Int}(h:sJ u):Ux (bP u 2 4) (aC u 6) (Iz u)=0∧Mq u=fM 40 (Mg (bP u 2 4) (aC u 6) (Iz u)):=
 Dx ⟨h.kS,⟨(Mr h).1,by have:=(Mr h).2;omega⟩,ahE h⟩
theorem Dy {u:List Int}(h:sJ u):(Mq u).length=40:=by rw[(YC h).2,bQ]
theorem ahF {u:List Int}(h:sJ u):PI (20+aC u 0) (IG u) (Mq u):=
 ⟨Dy h,by have:=h.eH;omega,(Vi h).1,by have:=(Vi h).2;omega⟩
theorem YD {u:List Int}(h:sJ u)(l:List Int):qG l u=mxA (mJ (bP l 16 80) (20+aC u 0)) (IG u) (Mq u)∧yH (20+aC u 0) (IG u) (Mq u)=0:=zu (ahF h)
theorem zI {u:List Int}(h:sJ u)(l:List Int):(qG l u).length=40:=by rw[(YD h l).1,LH]
theorem Bg {u:List Int}(h:sJ u)(l:List Int):aL (qG l u)=true:=by rw[(YD h l).1];exact ZW _ _ _
theorem Qg {l u:List Int}(hl:l.length=101)(hg:cO l=true)(h:sJ u):cO (yK l u)=true:=by
 have g:=(kI l).1 hg
 have kx:Dw (bP l 16 80) (qG l u)=Eu (bP l 16 80) (qG l u):=(qj (zI h l)).1
 rw[kI]
 intro i hi
 unfold yK
 rw[kx]
 have z:=Mr h
 have p:=Vi h
 have a:=h.eH
 rw[qm _ _ _ (by rw[List.length_set,List.length_set,eG];omega),qm _ _ _ (by rw[List.length_set,eG];omega),qm _ _ _ (by rw[eG];omega)]
 by_cases e1:i=96
 ·rw[if_pos e1,e1];exact⟨z.1,by show Iz u≤32767;omega⟩
 rw[if_neg e1]
 by_cases e2:i=97
 ·rw[if_pos e2,e2];exact p
 rw[if_neg e2]
 by_cases e3:i=98
 ·rw[if_pos e3,e3];exact⟨by show(20:Int)≤_;omega,by show _≤(79:Int);omega⟩
 rw[if_neg e3,gD _ _ _ _ gA,qg]
 by_cases e4:16≤i∧i<16+80
 ·rw[if_pos e4,(kN i gA gA).1,(kN i gA gA).2]
  refine Kc _ _ (fun j hj=>?_) _ gA
  rw[fV _ _ _ _ hj]
  have:=g (16+j) gA
  rw[(kN (16+j) gA gA).1,(kN (16+j) gA gA).2]at this
  exact this
 rw[if_neg e4];exact g i hi
def lK (bS:Bool)(l u:List Int):List Int:=if bS=true then yX l else yK l u
def vK (bS:Bool)(l u:List Int):List Int:=if bS=true then yY l else qG l u
def jX (bS:Bool)(now l p:List Int):Nat→List Int
 | 0=>l
 | n+1=>qo (gK (bP (lK bS (jX bS now l p n) (dS p n)) 0 8) now n) (lK bS (jX bS now l p n) (dS p n)) (vK bS (jX bS now l p n) (dS p n))
def IJ (bS:Bool)(now l p:List Int):Nat→List Int
 | 0=>[]
 | n+1=>IJ bS now l p n++uM (gK (bP (lK bS (jX bS now l p n) (dS p n)) 0 8) now n) (lK bS (jX bS now l p n) (dS p n)) (vK bS (jX bS now l p n) (dS p n))
theorem xk (bS:Bool){l:List Int}(hl:l.length=101)(u:List Int):(lK bS l u).length=101:=by
 unfold lK
 split
 ·unfold yX;split
  ·rw[abW,hl]
  exact au _
 rw[xg,hl]
theorem zJ (bS:Bool){l u:List Int}(hl:l.length=101)(hg:cO l=true)(h:sJ u):cO (lK bS l u)=true:=by
 unfold lK
 split
 ·exact abY l hl hg
 exact Qg hl hg h
theorem tQ (bS:Bool){l u:List Int}(hg:cO l=true)(h:sJ u):(vK bS l u).length=40∧aL (vK bS l u)=true:=by
 unfold vK
 split
 ·exact⟨by rw[(mK (s:=true) hg).2.2.1,Yp],Z5 _⟩
 exact⟨zI h l,Bg h l⟩
theorem oI (bS:Bool)(now p:List Int){l:List Int}(hl:l.length=101):∀n,(jX bS now l p n).length=101
 | 0=>hl
 | n+1=>by
  show(qo _ (lK bS (jX bS now l p n) (dS p n)) _).length=101
  rw[vU,xk bS (oI bS now p hl n)]
theorem nN (bS:Bool){now p l:List Int}(hl:l.length=101)(hg:cO l=true)(hn:now.length=8)(sn:bN now=true)(hp:j4 p=true):∀n,n≤2→cO (jX bS now l p n)=true
 | 0,_=>hg
 | n+1,h=>by
  have g:=nN bS hl hg hn sn hp n gA
  have len:=oI bS now p hl n
  have u:=lG p hp n gA
  have gp:=zJ bS len g u
  exact Ke (xk bS len _) (qF _ _ _ (aR _ _ _) hn (jI gp) sn) gp (tQ bS g u).2
theorem tT (bS:Bool){now p l:List Int}(hl:l.length=101)(hg:cO l=true)(hn:now.length=8)(sn:bN now=true)(hp:j4 p=true):∀n,n≤2→(IJ bS now l p n).length=40*n∧aL (IJ bS now l p n)=true
 | 0,_=>⟨rfl,rfl⟩
 | n+1,h=>by
  obtain⟨a,b⟩:=tT bS hl hg hn sn hp n gA
  have g:=nN bS hl hg hn sn hp n gA
  have len:=oI bS now p hl n
  have u:=lG p hp n gA
  have gp:=zJ bS len g u
  have x:=tQ bS g u
  have wd:=qF (bP (lK bS (jX bS now l p n) (dS p n)) 0 8) now n (aR _ _ _) hn (jI gp) sn
  constructor
  ·show(IJ bS now l p n++uM _ _ _).length=_
   rw[List.length_append,a,ab3 wd gp x.2,x.1];omega
  show aL (IJ bS now l p n++uM _ _ _)=true
  have c:=UU wd gp x.2
  unfold aL at *
  rw[List.all_append,b,c];rfl
def plF (l p:List Int):List Int:=if aC p 0=1 then iL else l
def oV (p:List Int):Bool:=decide (aC p 0=2)
def oW (l p:List Int):List Int:=(jr (jX (oV p) (vlL p) (plF l p) p 2) 0 (vlL p)).set 99 0
def sK (l p:List Int):List Int:=IJ (oV p) (vlL p) (plF l p) p 2
theorem zK {l p:List Int}(hl:l.length=101)(hg:cO l=true):(plF l p).length=101∧cO (plF l p)=true:=by
 unfold plF
 split
 ·exact⟨jH,AZ⟩
 exact⟨hl,hg⟩
theorem Fg {l:List Int}(p:List Int)(hl:l.length=101):(oW l p).length=101:=by
 unfold oW
 rw[List.length_set,eG,oI]
 unfold plF
 split
 ·exact jH
 exact hl
theorem Vj {l p:List Int}(hl:l.length=101)(hg:cO l=true)(hp:j4 p=true):(sK l p).length=80∧aL (sK l p)=true:=by
 obtain⟨fl,fg⟩:=zK (p:=p) hl hg
 exact tT (oV p) fl fg (zH p) (uQ p hp) hp 2 gA
end Go.Proofs.YtbaccaipcimlhaaGreatDoor
