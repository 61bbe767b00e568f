/- Texts put together: RefNum, RefGdP, RefPkA, BigBy, RefPck, Opens, OpensM, OpensE, Tabs. -/
import Derived.Test.YtbaccaipcimlhaaGreatDoorBun1
import Derived.Test.YtbaccaipcimlhaaGreatDoorBun2
import Derived.Test.YtbaccaipcimlhaaGreatDoorBun3
import Derived.Deep.Cut
import Derived.OwnWalk
import Derived.BigQuiet
import Derived.Deep.QuietTactic
import Derived.Test.YtbaccaipcimlhaaGreatDoorBun4
import Derived.Deep.RegionHeld3
import Derived.Laws.CopyOwn
import Derived.ProofKit
import Derived.OpenShut
import Derived.SizedLaws
import Derived.Carry
import Derived.LaidMore
import Derived.Stop.Joined
import Derived.Lib.LaidTab
namespace Go.Proofs.YtbaccaipcimlhaaGreatDoor
open Go.ChangeShapes Go.WideShapes Go.ChangeAt Go.RowKit
open Go.RowKit
open Tryz
set_option linter.unusedSimpArgs false
set_option linter.unusedVariables false
set_option maxHeartbeats 4000000
set_option maxRecDepth 100000
theorem Ow {w u u':World}{base:Nat}{v:Value}{A:List Int}(h:dM w u)(o:gP base u v A)(hb:w.heap.size≤base)(g:u.grownBy u' v.ownBlock):dM w u':=gU h g (fun b hb'=>Nat.le_trans hb (o.lt b hb').1)
theorem Cu.take {base:Nat}{w:World}{vs:List (Value×List Int)}(h:Cu base w vs)(n:Nat):Cu base w (vs.take n):=by
 have get:∀(i:Nat) (x:Value×List Int),(vs.take n)[i]?=some x→vs[i]?=some x:=fun i x hi=>by
  rw[List.getElem?_take]at hi
  split at hi
  ·exact hi
  cases hi
 exact⟨fun i v A hi=>h.1 i v A (get i _ hi),fun i j v A u B hi hj=>h.2 i j v A u B (get i _ hi) (get j _ hj)⟩
theorem Cu.pad {base:Nat}{w:World}{vs:List (Value×List Int)}(h:Cu base w vs)(n:Nat):Cu base w (vs++List.replicate n (.slice none 0 0,[])):=by
 have get:∀(i:Nat) (x:Value×List Int),(vs++List.replicate n (.slice none 0 0,[]))[i]?=some x→vs[i]?=some x∨x=(.slice none 0 0,[]):=fun i x hi=>by
  rw[List.getElem?_append]at hi
  split at hi
  ·exact .inl hi
  exact .inr (List.mem_replicate.1 (List.mem_of_getElem? hi)).2
 refine⟨fun i v A hi=>?_,fun i j v A u B hi hj hij g hg=>?_⟩
 ·rcases get i _ hi with q|q
  ·exact h.1 i v A q
  cases q;exact bZ _ _
 rcases get i _ hi with q|q
 ·rcases get j _ hj with r|r
  ·exact h.2 i j v A u B q r hij g hg
  cases r;intro e;cases e
 cases q;cases hg
theorem iO (l:List Int)(k:Nat)(h:k<l.length):l.take (k+1)=l.take k++[aC l k]:=by
 rw[List.take_add_one,List.getElem?_eq_getElem h]
 simp[aC,List.getD,h]
def Am:List Int:=[6,6,5,5,4,4,3,3]
def Ox:List Int:=[2,6,6,5,5,4,4,3,3,6,3,4,4,4,4,4,5,6,3,4,4,4,4,4,5]
theorem agC (m:Nat)(h:m<8):∃b:Nat,aC Am m=(b:Int)∧aC Ox (m+1)=(b:Int)∧aC OT (m+1)=2^b-1∧3≤b∧b≤6:=by
 have:∀m:Fin 8,aC Am m.val=((aC Am m.val).toNat:Int)∧aC Ox (m.val+1)=((aC Am m.val).toNat:Int)∧aC OT (m.val+1)=2^(aC Am m.val).toNat - 1∧3≤(aC Am m.val).toNat∧(aC Am m.val).toNat≤6:=by decide
 exact⟨_,this ⟨m,h⟩⟩
theorem aeB (i:Nat)(h:i<25):aC Ox i=(oQ i:Int):=by
 have:∀i:Fin 25,aC Ox i.val=(oQ i.val:Int):=by decide
 exact this ⟨i,h⟩
def sS (base:Nat)(w:World)(bp:Nat)(l:List Int)(n:Nat)(s5 s6 s7:Value)(wx:World):Prop:=
 Cu base wx [(s5,l.take n),(s6,Ox.take n),(s7,OT.take n)]∧dM w wx∧base≤wx.heap.size∧bO wx bp 49 l
def F_ (base bp:Nat)(T:TypeId)(l:List Int)(u:World)(vs:List (Value×List Int)):Prop:=Cu base u vs∧base≤u.heap.size∧bO u bp T l
theorem F_.lit {base bp:Nat}{T:TypeId}{l:List Int}{u:World}{vs:List (Value×List Int)}(h:F_ base bp T l u vs)(k:Nat)(L:List Int)(O:Obj)(hO:O=.cells (aD L) 3)(hk:vs[k]?=some (.slice none 0 0,[]))(hl:L.length≤1000):F_ base bp T l (u.alloc O) (vs.set k (.slice (some ⟨u.heap.size,0,none⟩) L.length L.length,L)):=by
 subst hO
 exact⟨h.1.put k _ L hk (ak u _ none) (DW u _ h.2.1 L hl) (fun g' hg'=>by simp[Value.ownBlock]at hg';omega),by have:=h.2.1;simp;omega,h.2.2.aH (ak u _ none)⟩
theorem F_.app {base bp:Nat}{T:TypeId}{l:List Int}{u u':World}{vs:List (Value×List Int)}(h:F_ base bp T l u vs)(k:Nat)(hT:T≠3){v v':Value}{A A':List Int}(hk:vs[k]?=some (v,A))(g:u.grownBy u' v.ownBlock)(o:gP base u' v' A')(n:∀g',v'.ownBlock=some g'→v.ownBlock=some g'∨u.heap.size≤g'):F_ base bp T l u' (vs.set k (v',A')):=
 ⟨h.1.upd k v v' A A' hk g o n,Nat.le_trans h.2.1 g.size,h.2.2.DX (h.1.get k hk) hT g⟩
structure StS (S:World→Prop) (base:Nat):Prop where
 al:∀u O,S u→S (u.alloc O)
 ap:∀u u' v A,S u→gP base u v A→u.grownBy u' v.ownBlock→S u'
theorem mg {md:Region.Mode}{ops:Array Oper}{Q:Exit→Act→World→Prop}{S:World→Prop}{fuel i base bp:Nat}{listed LL:Array Bool}{oi:Oper}{a:Act}{K:Act→World→Prop}{u:World}{T:TypeId}{l:List Int}{vs:List (Value×List Int)}{y:Nat→Option Bool}{E:Prop}{a':Nat→Act}
 (hK:Shut (∀a w,S w→(S w→wpAnyH prog md ops Q S fuel (listed.setIfInBounds i true) a w)→K a w)) (k:Nat) (L:List Int) (FA:Hid (F_ base bp T l u vs)) (st:StS S base) (hS:S u)
 (h:∀b u',Hid (F_ base bp T l u' (vs.set k (.slice (some ⟨b,0,none⟩) L.length L.length,L)))→S u'→wpAnyH prog md ops Q S fuel LL (a' b) u') (hg:oi.guard=none:=by rfl)
 (hr:∀u,(execOp a.eval oi).run prog u=.ok (.value (.slice (some ⟨u.heap.size,0,none⟩) L.length L.length)) (u.alloc (.cells (aD L) 3)):=by intro u;go_simp;rfl)
 (hk:vs[k]?=some (.slice none 0 0,[]):=by rfl) (hl:L.length≤1000:=by simp)
 (hL:listed.setIfInBounds i true=LL:=by(try simp only[sL])<;>exact rfl) (ha:∀b,a.put oi.dst (.slice (some ⟨b,0,none⟩) L.length L.length)=a' b:=by intro b;(try simp only[sZ])<;>exact rfl) :
 if Region.wanted oi y=true then Oper.wp prog oi a u K Q else E:=by
 subst hL
 have hw:Region.wanted oi y=true:=by simp[Region.wanted,hg]
 rw[if_pos hw]
 unfold Oper.wp
 simp only[hr,Result.andThen_ok]
 exact hK.out _ _ (st.al u _ hS) (fun q=>by rw[ha];exact h _ _ (FA.out.lit k L _ rfl hk hl) q)
theorem iJ {md:Region.Mode}{ops:Array Oper}{Q:Exit→Act→World→Prop}{S:World→Prop}{fuel i base bp:Nat}{listed LL:Array Bool}{oi:Oper}{a:Act}{K:Act→World→Prop}{u:World}{T:TypeId}{l:List Int}{vs:List (Value×List Int)}{y:Nat→Option Bool}{E:Prop}{a':Value→Act}{v vb:Value}{A B:List Int}{s x:Operand}
 (hK:Shut (∀a w,S w→(S w→wpAnyH prog md ops Q S fuel (listed.setIfInBounds i true) a w)→K a w)) (k:Nat) (FA:Hid (F_ base bp T l u vs)) (st:StS S base) (hS:S u) (hk:vs[k]?=some (v,A)) (hb:aS u vb B) (hT:T≠3) (hB:0<B.length) (hl:(A.length+B.length)*8≤140737488355328)
 (h:∀v' u',Hid (F_ base bp T l u' (vs.set k (v',A++B)))→S u'→wpAnyH prog md ops Q S fuel LL (a' v') u') (hg:oi.guard=none:=by rfl)
 (hop:oi.op=Op.call { callee:=Callee.builtin Builtin.append,args:=#[s,x],argTypes:=#[32,32] }:=by rfl) (hs:a.eval s=v:=by rfl) (hx:a.eval x=vb:=by rfl)
 (hL:listed.setIfInBounds i true=LL:=by(try simp only[sL])<;>exact rfl) (ha:∀v',a.put oi.dst v'=a' v':=by intro v';(try simp only[sZ])<;>exact rfl) :
 if Region.wanted oi y=true then Oper.wp prog oi a u K Q else E:=by
 subst hL
 refine QO hg s x hop base v vb A B hs hx (FA.out.1.get k hk) hb hB hl FA.out.2.1 (fun v' w' h1 h2 h3=>?_)
 exact hK.out _ _ (st.ap u w' v A hS (FA.out.1.get k hk) h2) (fun q=>by rw[ha];exact h _ _ (FA.out.app k hT hk h2 h1 h3) q)
theorem aeC {w:World}{b:Nat}{T:TypeId}{l:List Int}(h:bO w b T l)(o n:Nat)(hn:o+n≤l.length):w.rangeAt b o (((l.drop o).take n).map (Value.int .i64)):=fun j v hv=>by
 have hj:j<n:=by
  rcases Nat.lt_or_ge j n with q|q
  ·exact q
  rw[List.getElem?_eq_none (by simp;omega)]at hv;cases hv
 rw[h.cell (o+j) gA]
 rw[List.getElem?_map,List.getElem?_take,if_pos hj,List.getElem?_drop,List.getElem?_eq_getElem gA]at hv
 simp[aC,List.getD,show o+j<l.length by omega]
 simpa using hv
theorem aiw:(prog.info? 26).map (·.size)=some 8:=by kernel_rfl
theorem agD:(prog.info? 47).map (·.size)=some 16:=by kernel_rfl
theorem Ir:(prog.info? 46).map (·.size)=some 8:=by kernel_rfl
theorem al9:(prog.info? 46).bind (·.zero)=some (.agg (aD (ay 8))):=by kernel_rfl
theorem Oy (R:List Int)(a b:Nat):(aD R).extract a b=aD ((R.take b).drop a):=by
 unfold aD
 rw[List.extract_toArray]
 congr 1
 simp[List.extract_eq_take_drop,List.map_drop,List.map_take]
 try(rw[List.drop_take])
theorem abz (R:List Int)(hR:R.length=16)(k:Nat)(hk:k<2)(u:World):Sem.run prog (Instr.index 47 (.agg (aD R)) (.int .i64 k)) u=.ok (.agg (aD ((R.take (k*8+8)).drop (k*8)))) u:=by
 have hb:(0:Int)≤k∧(k:Int)<2:=gA
 obtain⟨i0,hi,hz1⟩:∃i0,prog.info? 46=some i0∧i0.size=8:=by
  cases hq:prog.info? 46 with
  | none=>have:=Ir;rw[hq]at this;cases this
  | some i=>exact⟨i,rfl,by have:=Ir;rw[hq]at this;simpa using this⟩
 rw[←Oy]
 simp[Instr.index,run_underlying underlying47,asIntOf,hb,go_sem,sizeOf,typeInfo,hi,hz1,part,isAgg,run_underlying underlying46]
 intro h;omega
theorem take8 (l:List Int)(n:Nat)(h:n+8≤l.length):l.take (n+8)=((l.take n++[aC l n,aC l (n+1)])++[aC l (n+2),aC l (n+3),aC l (n+4),aC l (n+5)])++[aC l (n+6),aC l (n+7)]:=by
 rw[iO l (n+7) gA,iO l (n+6) gA,iO l (n+5) gA,iO l (n+4) gA,iO l (n+3) gA,iO l (n+2) gA,iO l (n+1) gA,iO l n gA]
 simp
theorem aix (k:Nat)(h:k<2):Ox.take (9+8*k+8)=Ox.take (9+8*k)++[6,3,4,4,4,4,4,5]∧OT.take (9+8*k+8)=OT.take (9+8*k)++[59,7,9,9,9,9,15,31]:=by
 have:∀k:Fin 2,Ox.take (9+8*k.val+8)=Ox.take (9+8*k.val)++[6,3,4,4,4,4,4,5]∧OT.take (9+8*k.val+8)=OT.take (9+8*k.val)++[59,7,9,9,9,9,15,31]:=by decide
 exact this ⟨k,h⟩
def akd (w:World)(bs:Nat)(S:List Int)(wx:World):Prop:=dM w wx∧bO wx bs 46 S
theorem Ao {w:World}{b:Nat}{T:TypeId}{l:List Int}(h:bO w b T l)(o n:Nat)(L:List Int)(hL:L.length=n)(hn:o+n≤l.length)(hh:∀i,i<n→aC L i=aC l (o+i)):aS w (.slice (some ⟨b,o,none⟩) n n) L:=by
 refine⟨some ⟨b,o,none⟩,n,by rw[hL],gA,fun _=>⟨_,rfl,fun i hi=>?_⟩⟩
 rw[Addr.add_mid,h.cell (o+i) gA,hh i gA]
theorem fG:(49:TypeId)≠3:=by decide
theorem ake:(46:TypeId)≠3:=by decide
theorem agE (b:Nat)(h3:3≤b)(h6:b≤6):8≤(2:Int)^b∧(2:Int)^b≤64:=by
 have:b=3∨b=4∨b=5∨b=6:=gA
 rcases this with rfl|rfl|rfl|rfl<;>decide
theorem wS (l:List Int)(hl:l.length=25)(a:Addr)(c:Nat)(w:World)(hT:TabS w 1 a c Am 8) :
 Calls prog 85 #[.agg (aD l)] w fun e w'=>∃v1 v2 v3,e=.returned (.tuple #[v1,v2,v3])∧sS (w.heap.size+1) w w.heap.size l 25 v1 v2 v3 w':=by
 have HT:=Zd hT
 have HL:=Zd hl
 have hBase:w.heap.size≤w.heap.size+1:=gA
 have P0:=Zd (bO.new w 49 l)
 have G0:=Zd (ak w (.cells (aD l) 49) none)
 have Z0:=Zs ((w.alloc (.cells (aD l) 49)).heap.size=w.heap.size+1) (by simp)
 clear hT
 go_enter func85,ntmps85
 go_upto_region 1 with fail
 have c0:=P0.out.cell 0 gA
 generalize w.alloc (.cells (aD l) 49)=W0 at *
 have M0:=Zd (show sS (w.heap.size+1) w w.heap.size l 1 (.slice (some ⟨W0.heap.size,0,none⟩) 1 1) (.slice (some ⟨W0.heap.size+1,0,none⟩) 1 1) (.slice (some ⟨W0.heap.size+1+1,0,none⟩) 1 1) (((W0.alloc (.cells #[.int .i64 (aC l 0)] 3)).alloc (.cells #[.int .i64 2] 3)).alloc (.cells #[.int .i64 2] 3))from by
  have F0:Cu (w.heap.size+1) W0 [(.slice none 0 0,[]),(.slice none 0 0,[]),(.slice none 0 0,[])]:=Cu.nil (n:=3)
  have F1:=F0.put 0 (.slice (some ⟨W0.heap.size,0,none⟩) 1 1) [aC l 0] rfl (ak W0 (.cells #[.int .i64 (aC l 0)] 3) none) (DW W0 _ (by rw[Z0.out];exact Nat.le_refl _) [aC l 0] (by simp)) (fun g' hg'=>by simp[Value.ownBlock]at hg';omega)
  have F2:=F1.put 1 (.slice (some ⟨W0.heap.size+1,0,none⟩) 1 1) [2] rfl (ak _ (.cells #[.int .i64 2] 3) none) (by have:=wY (W0.alloc (.cells #[.int .i64 (aC l 0)] 3)) (w.heap.size+1) (by rw[←Z0.out];simp) 2;simpa using this) (fun g' hg'=>by simp[Value.ownBlock]at hg';simp;omega)
  have F3:=F2.put 2 (.slice (some ⟨W0.heap.size+1+1,0,none⟩) 1 1) [2] rfl (ak _ (.cells #[.int .i64 2] 3) none) (by have:=wY ((W0.alloc (.cells #[.int .i64 (aC l 0)] 3)).alloc (.cells #[.int .i64 2] 3)) (w.heap.size+1) (by rw[←Z0.out];simp;omega) 2;simpa using this) (fun g' hg'=>by simp[Value.ownBlock]at hg';simp;omega)
  have e0:l.take 1=[aC l 0]:=iO l 0 gA
  refine⟨?_,aB (aB (aB G0.out (ak _ _ none)) (ak _ _ none)) (ak _ _ none),by rw[←Z0.out];simp;omega,((P0.out.aH (ak _ _ none)).aH (ak _ _ none)).aH (ak _ _ none)⟩
  rw[e0]
  exact F3)
 go_upto_region 2 with fail
 clear c0 P0 G0 Z0
 generalize ((W0.alloc (.cells #[.int .i64 (aC l 0)] 3)).alloc (.cells #[.int .i64 2] 3)).alloc (.cells #[.int .i64 2] 3)=W1 at *
 generalize (Value.slice (some ⟨W0.heap.size,0,none⟩) 1 1)=a5 at *
 generalize (Value.slice (some ⟨W0.heap.size+1,0,none⟩) 1 1)=a6 at *
 generalize (Value.slice (some ⟨W0.heap.size+1+1,0,none⟩) 1 1)=a7 at *
 obtain⟨R8,R1,RL,RN⟩:∃R8:List Int,Hid (W1.rangeAt w.heap.size 1 (R8.map (Value.int .i64)))∧Hid (R8.length=8)∧Hid (∀m,m<8→aC R8 m=aC l (m+1)):=
  ⟨(l.drop 1).take 8,aeC M0.out.2.2.2 1 8 gA,by show _=_;simp;omega,fun m hm=>by simp[aC,List.getD,List.getElem?_take,List.getElem?_drop,hm,Nat.add_comm]⟩
 go_wp2_with (first|refine wpList_load_mid rfl 26 _ rfl w.heap.size 1 rfl (R8.map (Value.int .i64)) _ R1.out underlying26 rfl (by rw[List.length_map,RL.out];exact aiw) ?_)
 clear R1
 have IX:=Zd (fun(m:Nat) (hm:m<8) (u:World)=>(show Sem.run prog (Instr.index 26 (.agg (aD R8)) (.int .i64 (m:Int))) u=.ok (.int .i64 (aC l (m+1))) u from by
  have:=fQ (T:=26) R8 underlying26 m (by rw[RL.out];omega) RL.out u
  rw[RN.out m hm]at this
  exact this))
 clear RL RN
 have eAV:Value.agg (R8.map (Value.int .i64)).toArray=.agg (aD R8):=rfl
 rw[eAV]
 clear eAV
 generalize Value.agg (aD R8)=AV at *
 go_loopw [5,6,7,19] (fun s5 s6 s7 i wr=>∃m:Nat,i=.int .i64 m∧m≤8∧Hid (sS (w.heap.size+1) w w.heap.size l (m+1) s5 s6 s7 wr)) (fun _ _ _ i _=>8-(intOf i).toNat)
 case atStart=>exact⟨0,rfl,Nat.zero_le _,M0.out⟩
 case round=>
  obtain⟨m,rfl,hm,hN⟩:=hrel
  clear M0
  by_cases vD:m<8
  ·have ix:=IX.out m vD
   have i1:(m:Int)<8:=gA
   obtain⟨b,eb1,eb2,eb3,b3,b6⟩:=agC m vD
   have EB1:=Zd eb1
   obtain⟨Q,hQ⟩:∃Q:Int,(2:Int)^b=Q:=⟨_,rfl⟩
   have Q1:8≤Q∧Q≤64:=by
    have h:=agE b b3 b6
    omega
   obtain⟨q1,q2⟩:=Q1
   have E1:=Zd (iO l (m+1) gA)
   have E2:=Zd (iO Ox (m+1) (by show m+1<25;omega))
   rw[eb2]at E2
   have E3:=Zd (iO OT (m+1) (by show m+1<25;omega))
   rw[eb3,hQ]at E3
   have LN:=Zs ((l.take (m+1)).length≤25∧(Ox.take (m+1)).length≤25∧(OT.take (m+1)).length≤25) (by simp;omega)
   clear eb1 eb2 eb3
   generalize aC l (m+1)=x at *
   go_upto_region 5 with fail
   refine wp_region_held_drew (S:=dM w) (by kernel_rfl) (bD hN.out.2.1 (bW (aQ _ none))) (fun aj=>?_)
   have FA:=Zs (Cu (w.heap.size+1) wr.drew [(u5,l.take (m+1)),(u6,Ox.take (m+1)),(u7,OT.take (m+1)),(.slice none 0 0,[]),(.slice none 0 0,[]),(.slice none 0 0,[])]) ((hN.out.1.pad 3).aH (bW (aQ _ none)))
   replace FA:=Zs (F_ (w.heap.size+1) w.heap.size 49 l wr.drew _) (⟨FA.out,hN.out.2.2.1,hN.out.2.2.2.aH (bW (aQ wr none))⟩)
   have ST:=Zs (StS (dM w) (w.heap.size+1)) (⟨fun u O h=>dX h O,fun u u' v A h o g=>Ow h o (Nat.le_succ _) g⟩)
   clear hN ix
   generalize wr.drew=wd at *
   refine bV 0 aj ?_
   refine bV 1 aj ?_
   refine bV 4 aj ?_
   refine bV (hy:=by intro w' bL;have tt:=jG HT.out bL;have t1:=tt.1;go_simp;(try with_reducible rfl)) (v:=.slice (some a) 8 c) 5 aj ?_
   refine bV 6 aj ?_
   refine bV 7 aj ?_
   refine bV (hy:=by intro w' bL;have tt:=jG HT.out bL;have t1:=tt.2.2 m gA;rw[show Am.getD m 0=aC Am m from rfl,EB1.out]at t1;go_simp;(try with_reducible rfl)) (v:=.int .i64 (b:Int)) 8 aj ?_
   refine bV 11 aj ?_
   refine bV (hy:=by intro w' bL;have tt:=jG HT.out bL;have t1:=tt.1;go_simp;(try with_reducible rfl)) (v:=.slice (some a) 8 c) 12 aj ?_
   refine bV 13 aj ?_
   refine bV 14 aj ?_
   refine bV (hy:=by intro w' bL;have tt:=jG HT.out bL;have t1:=tt.2.2 m gA;rw[show Am.getD m 0=aC Am m from rfl,EB1.out]at t1;go_simp;(try with_reducible rfl)) (v:=.int .i64 (b:Int)) 15 aj ?_
   refine bV (hy:=by intro w' bL;go_simp;(first|done|(rw[IntKind.wrap_u64];omega)|rfl)) (v:=.int .u64 (b:Int)) 16 aj ?_
   refine bV (hy:=by intro w' bL;go_simp;(first|done|rfl|omega|(rw[hQ];exact Dn _ gA gA)|exact fH _ gA gA)) (v:=.int .i64 Q) 17 aj ?_
   refine bV (hy:=by intro w' bL;go_simp;(first|done|rfl|exact fH _ gA gA|omega)) (v:=.int .i64 (Q-1)) 18 aj ?_
   refine aiB 2 9 19 (fun K hK=>?agp) (fun K hK=>?agr) fun K hK=>?al_
   case agp=>
    refine mg hK 3 [x] FA ST.out aj fun aot Oj FA aj=>?_
    refine aiB 3 9 19 (fun K hK=>?aik) (fun K hK=>?ail) fun K hK=>?ama
    case aik=>
     refine iJ hK 0 FA ST.out aj rfl (FA.out.1.get 3 rfl).ints fG (by simp) (by have:=LN.out;simp;omega) fun aiy alX FA aj=>?_
     refine oL 9 19 (fun K hK=>?agt) fun K hK=>?amb
     case agt=>
      refine mg hK 4 [(b:Int)] FA ST.out aj fun aou JQ FA aj=>?_
      refine oL 10 19 (fun K hK=>?amc) fun K hK=>?agu
      case amc=>
       refine iJ hK 1 FA ST.out aj rfl (FA.out.1.get 4 rfl).ints fG (by simp) (by have:=LN.out;simp;omega) fun amd aov FA aj=>?_
       refine fI 19 fun K hK=>?_
       refine mg hK 5 [(Q-1)] FA ST.out aj fun aow aox FA aj=>?_
       refine fI 20 fun K hK=>?_
       refine iJ hK 2 FA ST.out aj rfl (FA.out.1.get 5 rfl).ints fG (by simp) (by have:=LN.out;simp;omega) fun ame amf FA aj=>?_
       refine bV 21 aj ?_
       refine bV 22 aj ?_
       refine bV 23 aj ?_
       refine lM ?_
       have NS:=Zs (sS (w.heap.size+1) w w.heap.size l (m+1+1) aiy amd ame amf) (⟨by rw[E1.out,E2.out,E3.out];exact FA.out.1.take 3,aj,FA.out.2.1,FA.out.2.2⟩)
       clear FA aj
       go_wp2_with fail
       go_roundw
       case rel=>exact⟨m+1,by go_num,gA,NS.out⟩
       case measure=>simp[intOf];omega
      case agu=>
       refine mg hK 5 [(Q-1)] FA ST.out aj fun aoy aoz FA aj=>?_
       refine fI 10 fun K hK=>?_
       refine iJ hK 1 FA ST.out aj rfl (FA.out.1.get 4 rfl).ints fG (by simp) (by have:=LN.out;simp;omega) fun amg aoA FA aj=>?_
       refine fI 20 fun K hK=>?_
       refine iJ hK 2 FA ST.out aj rfl (FA.out.1.get 5 rfl).ints fG (by simp) (by have:=LN.out;simp;omega) fun amh ami FA aj=>?_
       refine bV 21 aj ?_
       refine bV 22 aj ?_
       refine bV 23 aj ?_
       refine lM ?_
       have NS:=Zs (sS (w.heap.size+1) w w.heap.size l (m+1+1) aiy amg amh ami) (⟨by rw[E1.out,E2.out,E3.out];exact FA.out.1.take 3,aj,FA.out.2.1,FA.out.2.2⟩)
       clear FA aj
       go_wp2_with fail
       go_roundw
       case rel=>exact⟨m+1,by go_num,gA,NS.out⟩
       case measure=>simp[intOf];omega
     case amb=>
      refine mg hK 5 [(Q-1)] FA ST.out aj fun aoB aoC FA aj=>?_
      refine fI 9 fun K hK=>?_
      refine mg hK 4 [(b:Int)] FA ST.out aj fun aoD aoE FA aj=>?_
      refine fI 10 fun K hK=>?_
      refine iJ hK 1 FA ST.out aj rfl (FA.out.1.get 4 rfl).ints fG (by simp) (by have:=LN.out;simp;omega) fun amj aoF FA aj=>?_
      refine fI 20 fun K hK=>?_
      refine iJ hK 2 FA ST.out aj rfl (FA.out.1.get 5 rfl).ints fG (by simp) (by have:=LN.out;simp;omega) fun amk aml FA aj=>?_
      refine bV 21 aj ?_
      refine bV 22 aj ?_
      refine bV 23 aj ?_
      refine lM ?_
      have NS:=Zs (sS (w.heap.size+1) w w.heap.size l (m+1+1) aiy amj amk aml) (⟨by rw[E1.out,E2.out,E3.out];exact FA.out.1.take 3,aj,FA.out.2.1,FA.out.2.2⟩)
      clear FA aj
      go_wp2_with fail
      go_roundw
      case rel=>exact⟨m+1,by go_num,gA,NS.out⟩
      case measure=>simp[intOf];omega
    case ail=>
     refine mg hK 4 [(b:Int)] FA ST.out aj fun aoG aoH FA aj=>?_
     refine oL 3 19 (fun K hK=>?amm) fun K hK=>?amn
     case amm=>
      refine iJ hK 0 FA ST.out aj rfl (FA.out.1.get 3 rfl).ints fG (by simp) (by have:=LN.out;simp;omega) fun akf aoI FA aj=>?_
      refine oL 10 19 (fun K hK=>?amo) fun K hK=>?amq
      case amo=>
       refine iJ hK 1 FA ST.out aj rfl (FA.out.1.get 4 rfl).ints fG (by simp) (by have:=LN.out;simp;omega) fun amr aoJ FA aj=>?_
       refine fI 19 fun K hK=>?_
       refine mg hK 5 [(Q-1)] FA ST.out aj fun aoK aoL FA aj=>?_
       refine fI 20 fun K hK=>?_
       refine iJ hK 2 FA ST.out aj rfl (FA.out.1.get 5 rfl).ints fG (by simp) (by have:=LN.out;simp;omega) fun ams amt FA aj=>?_
       refine bV 21 aj ?_
       refine bV 22 aj ?_
       refine bV 23 aj ?_
       refine lM ?_
       have NS:=Zs (sS (w.heap.size+1) w w.heap.size l (m+1+1) akf amr ams amt) (⟨by rw[E1.out,E2.out,E3.out];exact FA.out.1.take 3,aj,FA.out.2.1,FA.out.2.2⟩)
       clear FA aj
       go_wp2_with fail
       go_roundw
       case rel=>exact⟨m+1,by go_num,gA,NS.out⟩
       case measure=>simp[intOf];omega
      case amq=>
       refine mg hK 5 [(Q-1)] FA ST.out aj fun aoM aoN FA aj=>?_
       refine fI 10 fun K hK=>?_
       refine iJ hK 1 FA ST.out aj rfl (FA.out.1.get 4 rfl).ints fG (by simp) (by have:=LN.out;simp;omega) fun amu aoO FA aj=>?_
       refine fI 20 fun K hK=>?_
       refine iJ hK 2 FA ST.out aj rfl (FA.out.1.get 5 rfl).ints fG (by simp) (by have:=LN.out;simp;omega) fun amv amw FA aj=>?_
       refine bV 21 aj ?_
       refine bV 22 aj ?_
       refine bV 23 aj ?_
       refine lM ?_
       have NS:=Zs (sS (w.heap.size+1) w w.heap.size l (m+1+1) akf amu amv amw) (⟨by rw[E1.out,E2.out,E3.out];exact FA.out.1.take 3,aj,FA.out.2.1,FA.out.2.2⟩)
       clear FA aj
       go_wp2_with fail
       go_roundw
       case rel=>exact⟨m+1,by go_num,gA,NS.out⟩
       case measure=>simp[intOf];omega
     case amn=>
      refine mg hK 5 [(Q-1)] FA ST.out aj fun aoP aoQ FA aj=>?_
      refine fI 3 fun K hK=>?_
      refine iJ hK 0 FA ST.out aj rfl (FA.out.1.get 3 rfl).ints fG (by simp) (by have:=LN.out;simp;omega) fun amx aoR FA aj=>?_
      refine fI 10 fun K hK=>?_
      refine iJ hK 1 FA ST.out aj rfl (FA.out.1.get 4 rfl).ints fG (by simp) (by have:=LN.out;simp;omega) fun amy aoS FA aj=>?_
      refine fI 20 fun K hK=>?_
      refine iJ hK 2 FA ST.out aj rfl (FA.out.1.get 5 rfl).ints fG (by simp) (by have:=LN.out;simp;omega) fun amz amA FA aj=>?_
      refine bV 21 aj ?_
      refine bV 22 aj ?_
      refine bV 23 aj ?_
      refine lM ?_
      have NS:=Zs (sS (w.heap.size+1) w w.heap.size l (m+1+1) amx amy amz amA) (⟨by rw[E1.out,E2.out,E3.out];exact FA.out.1.take 3,aj,FA.out.2.1,FA.out.2.2⟩)
      clear FA aj
      go_wp2_with fail
      go_roundw
      case rel=>exact⟨m+1,by go_num,gA,NS.out⟩
      case measure=>simp[intOf];omega
    case ama=>
     refine mg hK 5 [(Q-1)] FA ST.out aj fun aoT aoU FA aj=>?_
     refine oL 3 9 (fun K hK=>?amB) fun K hK=>?amC
     case amB=>
      refine iJ hK 0 FA ST.out aj rfl (FA.out.1.get 3 rfl).ints fG (by simp) (by have:=LN.out;simp;omega) fun amD aoV FA aj=>?_
      refine fI 9 fun K hK=>?_
      refine mg hK 4 [(b:Int)] FA ST.out aj fun aoW aoX FA aj=>?_
      refine fI 10 fun K hK=>?_
      refine iJ hK 1 FA ST.out aj rfl (FA.out.1.get 4 rfl).ints fG (by simp) (by have:=LN.out;simp;omega) fun amE aoY FA aj=>?_
      refine fI 20 fun K hK=>?_
      refine iJ hK 2 FA ST.out aj rfl (FA.out.1.get 5 rfl).ints fG (by simp) (by have:=LN.out;simp;omega) fun amF amG FA aj=>?_
      refine bV 21 aj ?_
      refine bV 22 aj ?_
      refine bV 23 aj ?_
      refine lM ?_
      have NS:=Zs (sS (w.heap.size+1) w w.heap.size l (m+1+1) amD amE amF amG) (⟨by rw[E1.out,E2.out,E3.out];exact FA.out.1.take 3,aj,FA.out.2.1,FA.out.2.2⟩)
      clear FA aj
      go_wp2_with fail
      go_roundw
      case rel=>exact⟨m+1,by go_num,gA,NS.out⟩
      case measure=>simp[intOf];omega
     case amC=>
      refine mg hK 4 [(b:Int)] FA ST.out aj fun aoZ ao0 FA aj=>?_
      refine fI 3 fun K hK=>?_
      refine iJ hK 0 FA ST.out aj rfl (FA.out.1.get 3 rfl).ints fG (by simp) (by have:=LN.out;simp;omega) fun amH ao1 FA aj=>?_
      refine fI 10 fun K hK=>?_
      refine iJ hK 1 FA ST.out aj rfl (FA.out.1.get 4 rfl).ints fG (by simp) (by have:=LN.out;simp;omega) fun amI ao2 FA aj=>?_
      refine fI 20 fun K hK=>?_
      refine iJ hK 2 FA ST.out aj rfl (FA.out.1.get 5 rfl).ints fG (by simp) (by have:=LN.out;simp;omega) fun amJ amK FA aj=>?_
      refine bV 21 aj ?_
      refine bV 22 aj ?_
      refine bV 23 aj ?_
      refine lM ?_
      have NS:=Zs (sS (w.heap.size+1) w w.heap.size l (m+1+1) amH amI amJ amK) (⟨by rw[E1.out,E2.out,E3.out];exact FA.out.1.take 3,aj,FA.out.2.1,FA.out.2.2⟩)
      clear FA aj
      go_wp2_with fail
      go_roundw
      case rel=>exact⟨m+1,by go_num,gA,NS.out⟩
      case measure=>simp[intOf];omega
   case agr=>
    refine mg hK 4 [(b:Int)] FA ST.out aj fun ao3 ao4 FA aj=>?_
    refine oL 2 19 (fun K hK=>?amL) fun K hK=>?amM
    case amL=>
     refine mg hK 3 [x] FA ST.out aj fun ao5 ao6 FA aj=>?_
     refine oL 3 19 (fun K hK=>?amN) fun K hK=>?amO
     case amN=>
      refine iJ hK 0 FA ST.out aj rfl (FA.out.1.get 3 rfl).ints fG (by simp) (by have:=LN.out;simp;omega) fun akg ao7 FA aj=>?_
      refine oL 10 19 (fun K hK=>?amP) fun K hK=>?amQ
      case amP=>
       refine iJ hK 1 FA ST.out aj rfl (FA.out.1.get 4 rfl).ints fG (by simp) (by have:=LN.out;simp;omega) fun amR ao8 FA aj=>?_
       refine fI 19 fun K hK=>?_
       refine mg hK 5 [(Q-1)] FA ST.out aj fun anr ant FA aj=>?_
       refine fI 20 fun K hK=>?_
       refine iJ hK 2 FA ST.out aj rfl (FA.out.1.get 5 rfl).ints fG (by simp) (by have:=LN.out;simp;omega) fun akh aki FA aj=>?_
       refine bV 21 aj ?_
       refine bV 22 aj ?_
       refine bV 23 aj ?_
       refine lM ?_
       have NS:=Zs (sS (w.heap.size+1) w w.heap.size l (m+1+1) akg amR akh aki) (⟨by rw[E1.out,E2.out,E3.out];exact FA.out.1.take 3,aj,FA.out.2.1,FA.out.2.2⟩)
       clear FA aj
       go_wp2_with fail
       go_roundw
       case rel=>exact⟨m+1,by go_num,gA,NS.out⟩
       case measure=>simp[intOf];omega
      case amQ=>
       refine mg hK 5 [(Q-1)] FA ST.out aj fun anu anv FA aj=>?_
       refine fI 10 fun K hK=>?_
       refine iJ hK 1 FA ST.out aj rfl (FA.out.1.get 4 rfl).ints fG (by simp) (by have:=LN.out;simp;omega) fun akj anw FA aj=>?_
       refine fI 20 fun K hK=>?_
       refine iJ hK 2 FA ST.out aj rfl (FA.out.1.get 5 rfl).ints fG (by simp) (by have:=LN.out;simp;omega) fun akk akl FA aj=>?_
       refine bV 21 aj ?_
       refine bV 22 aj ?_
       refine bV 23 aj ?_
       refine lM ?_
       have NS:=Zs (sS (w.heap.size+1) w w.heap.size l (m+1+1) akg akj akk akl) (⟨by rw[E1.out,E2.out,E3.out];exact FA.out.1.take 3,aj,FA.out.2.1,FA.out.2.2⟩)
       clear FA aj
       go_wp2_with fail
       go_roundw
       case rel=>exact⟨m+1,by go_num,gA,NS.out⟩
       case measure=>simp[intOf];omega
     case amO=>
      refine mg hK 5 [(Q-1)] FA ST.out aj fun anx anz FA aj=>?_
      refine fI 3 fun K hK=>?_
      refine iJ hK 0 FA ST.out aj rfl (FA.out.1.get 3 rfl).ints fG (by simp) (by have:=LN.out;simp;omega) fun akm anA FA aj=>?_
      refine fI 10 fun K hK=>?_
      refine iJ hK 1 FA ST.out aj rfl (FA.out.1.get 4 rfl).ints fG (by simp) (by have:=LN.out;simp;omega) fun akn anB FA aj=>?_
      refine fI 20 fun K hK=>?_
      refine iJ hK 2 FA ST.out aj rfl (FA.out.1.get 5 rfl).ints fG (by simp) (by have:=LN.out;simp;omega) fun ako akp FA aj=>?_
      refine bV 21 aj ?_
      refine bV 22 aj ?_
      refine bV 23 aj ?_
      refine lM ?_
      have NS:=Zs (sS (w.heap.size+1) w w.heap.size l (m+1+1) akm akn ako akp) (⟨by rw[E1.out,E2.out,E3.out];exact FA.out.1.take 3,aj,FA.out.2.1,FA.out.2.2⟩)
      clear FA aj
      go_wp2_with fail
      go_roundw
      case rel=>exact⟨m+1,by go_num,gA,NS.out⟩
      case measure=>simp[intOf];omega
    case amM=>
     refine mg hK 5 [(Q-1)] FA ST.out aj fun anC anD FA aj=>?_
     refine fI 2 fun K hK=>?_
     refine mg hK 3 [x] FA ST.out aj fun anE anF FA aj=>?_
     refine fI 3 fun K hK=>?_
     refine iJ hK 0 FA ST.out aj rfl (FA.out.1.get 3 rfl).ints fG (by simp) (by have:=LN.out;simp;omega) fun akq anG FA aj=>?_
     refine fI 10 fun K hK=>?_
     refine iJ hK 1 FA ST.out aj rfl (FA.out.1.get 4 rfl).ints fG (by simp) (by have:=LN.out;simp;omega) fun akr anH FA aj=>?_
     refine fI 20 fun K hK=>?_
     refine iJ hK 2 FA ST.out aj rfl (FA.out.1.get 5 rfl).ints fG (by simp) (by have:=LN.out;simp;omega) fun aks akt FA aj=>?_
     refine bV 21 aj ?_
     refine bV 22 aj ?_
     refine bV 23 aj ?_
     refine lM ?_
     have NS:=Zs (sS (w.heap.size+1) w w.heap.size l (m+1+1) akq akr aks akt) (⟨by rw[E1.out,E2.out,E3.out];exact FA.out.1.take 3,aj,FA.out.2.1,FA.out.2.2⟩)
     clear FA aj
     go_wp2_with fail
     go_roundw
     case rel=>exact⟨m+1,by go_num,gA,NS.out⟩
     case measure=>simp[intOf];omega
   case al_=>
    refine mg hK 5 [(Q-1)] FA ST.out aj fun anI anJ FA aj=>?_
    refine oL 2 9 (fun K hK=>?aku) fun K hK=>?akv
    case aku=>
     refine mg hK 3 [x] FA ST.out aj fun anK anL FA aj=>?_
     refine oL 3 9 (fun K hK=>?akw) fun K hK=>?akx
     case akw=>
      refine iJ hK 0 FA ST.out aj rfl (FA.out.1.get 3 rfl).ints fG (by simp) (by have:=LN.out;simp;omega) fun aky anM FA aj=>?_
      refine fI 9 fun K hK=>?_
      refine mg hK 4 [(b:Int)] FA ST.out aj fun anN anO FA aj=>?_
      refine fI 10 fun K hK=>?_
      refine iJ hK 1 FA ST.out aj rfl (FA.out.1.get 4 rfl).ints fG (by simp) (by have:=LN.out;simp;omega) fun akz anP FA aj=>?_
      refine fI 20 fun K hK=>?_
      refine iJ hK 2 FA ST.out aj rfl (FA.out.1.get 5 rfl).ints fG (by simp) (by have:=LN.out;simp;omega) fun akA akB FA aj=>?_
      refine bV 21 aj ?_
      refine bV 22 aj ?_
      refine bV 23 aj ?_
      refine lM ?_
      have NS:=Zs (sS (w.heap.size+1) w w.heap.size l (m+1+1) aky akz akA akB) (⟨by rw[E1.out,E2.out,E3.out];exact FA.out.1.take 3,aj,FA.out.2.1,FA.out.2.2⟩)
      clear FA aj
      go_wp2_with fail
      go_roundw
      case rel=>exact⟨m+1,by go_num,gA,NS.out⟩
      case measure=>simp[intOf];omega
     case akx=>
      refine mg hK 4 [(b:Int)] FA ST.out aj fun anQ anR FA aj=>?_
      refine fI 3 fun K hK=>?_
      refine iJ hK 0 FA ST.out aj rfl (FA.out.1.get 3 rfl).ints fG (by simp) (by have:=LN.out;simp;omega) fun akC anS FA aj=>?_
      refine fI 10 fun K hK=>?_
      refine iJ hK 1 FA ST.out aj rfl (FA.out.1.get 4 rfl).ints fG (by simp) (by have:=LN.out;simp;omega) fun akD anT FA aj=>?_
      refine fI 20 fun K hK=>?_
      refine iJ hK 2 FA ST.out aj rfl (FA.out.1.get 5 rfl).ints fG (by simp) (by have:=LN.out;simp;omega) fun akE akF FA aj=>?_
      refine bV 21 aj ?_
      refine bV 22 aj ?_
      refine bV 23 aj ?_
      refine lM ?_
      have NS:=Zs (sS (w.heap.size+1) w w.heap.size l (m+1+1) akC akD akE akF) (⟨by rw[E1.out,E2.out,E3.out];exact FA.out.1.take 3,aj,FA.out.2.1,FA.out.2.2⟩)
      clear FA aj
      go_wp2_with fail
      go_roundw
      case rel=>exact⟨m+1,by go_num,gA,NS.out⟩
      case measure=>simp[intOf];omega
    case akv=>
     refine mg hK 4 [(b:Int)] FA ST.out aj fun anU anV FA aj=>?_
     refine fI 2 fun K hK=>?_
     refine mg hK 3 [x] FA ST.out aj fun anW anX FA aj=>?_
     refine fI 3 fun K hK=>?_
     refine iJ hK 0 FA ST.out aj rfl (FA.out.1.get 3 rfl).ints fG (by simp) (by have:=LN.out;simp;omega) fun akG anY FA aj=>?_
     refine fI 10 fun K hK=>?_
     refine iJ hK 1 FA ST.out aj rfl (FA.out.1.get 4 rfl).ints fG (by simp) (by have:=LN.out;simp;omega) fun akH anZ FA aj=>?_
     refine fI 20 fun K hK=>?_
     refine iJ hK 2 FA ST.out aj rfl (FA.out.1.get 5 rfl).ints fG (by simp) (by have:=LN.out;simp;omega) fun akI akJ FA aj=>?_
     refine bV 21 aj ?_
     refine bV 22 aj ?_
     refine bV 23 aj ?_
     refine lM ?_
     have NS:=Zs (sS (w.heap.size+1) w w.heap.size l (m+1+1) akG akH akI akJ) (⟨by rw[E1.out,E2.out,E3.out];exact FA.out.1.take 3,aj,FA.out.2.1,FA.out.2.2⟩)
     clear FA aj
     go_wp2_with fail
     go_roundw
     case rel=>exact⟨m+1,by go_num,gA,NS.out⟩
     case measure=>simp[intOf];omega
  obtain rfl:m=8:=gA
  rw[show((8:Nat):Int)=8 from rfl]
  go_upto_region 7 with fail
  obtain⟨R16,R1,RL,RN⟩:∃R16:List Int,Hid (wr.rangeAt w.heap.size 9 (R16.map (Value.int .i64)))∧Hid (R16.length=16)∧Hid (∀m,m<16→aC R16 m=aC l (9+m)):=
   ⟨(l.drop 9).take 16,aeC hN.out.2.2.2 9 16 gA,by show _=_;simp;omega,fun m hm=>by simp[aC,List.getD,List.getElem?_take,List.getElem?_drop,hm]⟩
  go_wp2_with (first|refine wpList_load_mid rfl 47 _ rfl w.heap.size 9 rfl (R16.map (Value.int .i64)) _ R1.out underlying47 rfl (by rw[List.length_map,RL.out];exact agD) ?_)
  clear R1
  have IY:=Zd (fun(k:Nat) (hk:k<2)=>(show ∃S:List Int,S.length=8∧(∀j,j<8→aC S j=aC l (9+8*k+j))∧∀u:World,Sem.run prog (Instr.index 47 (.agg (aD R16)) (.int .i64 (k:Int))) u=.ok (.agg (aD S)) u from
   ⟨(R16.take (k*8+8)).drop (k*8),by simp[RL.out];omega,fun j hj=>by
    rw[show 9+8*k+j=9+(8*k+j) by omega,←RN.out (8*k+j) gA]
    simp[aC,List.getD,List.getElem?_take,List.getElem?_drop]
    rw[if_pos gA,Nat.mul_comm],fun u=>abz R16 RL.out k hk u⟩))
  clear RL RN
  have eAV:Value.agg (R16.map (Value.int .i64)).toArray=.agg (aD R16):=rfl
  rw[eAV]
  clear eAV
  generalize Value.agg (aD R16)=AW at *
  have hz8:=gM al9
  go_loopw [5,6,7,47] (fun s5 s6 s7 i wr=>∃k:Nat,i=.int .i64 k∧k≤2∧Hid (sS (w.heap.size+1) w w.heap.size l (9+8*k) s5 s6 s7 wr)) (fun _ _ _ i _=>2-(intOf i).toNat)
  case atStart=>exact⟨0,rfl,Nat.zero_le _,hN.out⟩
  case round=>
   obtain⟨k,rfl,hk,hM⟩:=hrel
   clear hN
   by_cases hk2:k<2
   ·obtain⟨S,hS,hSn,ix⟩:=IY.out k hk2
    have HSL:=Zd hS
    have i1:(k:Int)<2:=gA
    have FB:=dL wr 46 8 S hS
    have BF:=Zd FB.1
    have BT:=Zd FB.2.1
    have M1:=Zs (sS (w.heap.size+1) w w.heap.size l (9+8*k) u5 u6 u7 (bT (wr.alloc (.cells (aD (ay 8)) 46)) wr.heap.size S)) (⟨hM.out.1.aH FB.2.2,bD hM.out.2.1 FB.2.2,Nat.le_trans hM.out.2.2.1 FB.2.2.size,hM.out.2.2.2.aH FB.2.2⟩)
    have E1:=Zd (take8 l (9+8*k) gA)
    have E2:=Zd (aix k hk2)
    have LN:=Zs ((l.take (9+8*k)).length≤25∧(Ox.take (9+8*k)).length≤25∧(OT.take (9+8*k)).length≤25) (by simp;omega)
    have hS0:=hSn 0 gA
    rw[Nat.add_zero]at hS0
    rw[←hS0,←hSn 1 gA,←hSn 2 gA,←hSn 3 gA,←hSn 4 gA,←hSn 5 gA,←hSn 6 gA,←hSn 7 gA]at E1
    clear FB hSn hM hS0
    go_upto_region 10 with(first|refine sA S BF.out (by rw[HSL.out,au]) (by rw[au];exact Ir) ?_)
    (try simp only[Act.put])
    clear ix
    generalize bT (wr.alloc _) wr.heap.size S=W3 at *
    generalize wr.heap.size=bs at *
    have eS:(List.map (Value.int .i64) S).toArray=aD S:=rfl
    go_cut [5]from 50 to 65 (fun s5 wx=>Cu (w.heap.size+1) wx [(s5,l.take (9+8*k+8)),(u6,Ox.take (9+8*k)),(u7,OT.take (9+8*k))]∧dM w wx∧w.heap.size+1≤wx.heap.size∧bO wx w.heap.size 49 l)
    case first=>
     refine wp_region_held_drew (S:=akd w bs S) (by kernel_rfl) ⟨bD M1.out.2.1 (bW (aQ _ none)),BT.out.aH (bW (aQ _ none))⟩ (fun aj=>?_)
     have FA:=Zs (Cu (w.heap.size+1) W3.drew [(u5,l.take (9+8*k)),(u6,Ox.take (9+8*k)),(u7,OT.take (9+8*k)),(.slice none 0 0,[]),(.slice none 0 0,[])]) ((M1.out.1.pad 2).aH (bW (aQ _ none)))
     replace FA:=Zs (F_ (w.heap.size+1) w.heap.size 49 l W3.drew _) (⟨FA.out,M1.out.2.2.1,M1.out.2.2.2.aH (bW (aQ W3 none))⟩)
     have ST:=Zs (StS (akd w bs S) (w.heap.size+1)) (⟨fun u O h=>⟨dX h.1 O,h.2.aH (ak _ _ none)⟩,fun u u' v A h o g=>⟨Ow h.1 o (Nat.le_succ _) g,h.2.DX o ake g⟩⟩)
     generalize W3.drew=wd at *
     refine bV 0 aj ?_
     refine bV 1 aj ?_
     refine bV (hy:=by intro w' bL;have cc:=bL.2.cell 0 (by rw[HSL.out];omega);go_simp;(try with_reducible rfl)) (v:=.int .i64 (aC S 0)) 2 aj ?_
     refine bV 3 aj ?_
     refine bV (hy:=by intro w' bL;have cc:=bL.2.cell 1 (by rw[HSL.out];omega);go_simp;(try with_reducible rfl)) (v:=.int .i64 (aC S 1)) 4 aj ?_
     refine bV 7 aj ?_
     refine bV 8 aj ?_
     refine bV 10 aj ?_
     refine bV (hy:=by intro w' bL;have cc:=bL.2.cell 6 (by rw[HSL.out];omega);go_simp;(try with_reducible rfl)) (v:=.int .i64 (aC S 6)) 11 aj ?_
     refine bV 12 aj ?_
     refine bV (hy:=by intro w' bL;have cc:=bL.2.cell 7 (by rw[HSL.out];omega);go_simp;(try with_reducible rfl)) (v:=.int .i64 (aC S 7)) 13 aj ?_
     refine oL 5 14 (fun K hK=>?amS) fun K hK=>?amT
     case amS=>
      refine mg hK 3 [(aC S 0),(aC S 1)] FA ST.out aj fun ao9 ao_ FA aj=>?_
      refine oL 6 14 (fun K hK=>?amU) fun K hK=>?amV
      case amU=>
       refine iJ hK 0 FA ST.out aj rfl (FA.out.1.get 3 rfl).ints fG (by simp) (by have:=LN.out;simp;omega) fun apa apb FA aj=>?_
       refine oL 9 14 (fun K hK=>?amW) fun K hK=>?amX
       case amW=>
        refine iJ hK 0 FA ST.out aj rfl (Ao aj.2 2 4 [aC S 2,aC S 3,aC S 4,aC S 5] rfl (by rw[HSL.out];omega) (fun i hi=>by match i,hi with|0,_=>rfl|1,_=>rfl|2,_=>rfl|3,_=>rfl)) fG (by simp) (by have:=LN.out;simp;omega) fun apc apd FA aj=>?_
        refine fI 14 fun K hK=>?_
        refine mg hK 4 [(aC S 6),(aC S 7)] FA ST.out aj fun ape apf FA aj=>?_
        refine fI 15 fun K hK=>?_
        refine iJ hK 0 FA ST.out aj rfl (FA.out.1.get 4 rfl).ints fG (by simp) (by have:=LN.out;simp;omega) fun apg aph FA aj=>?_
        refine bV 16 aj ?_
        refine lM ?_
        go_wp2_with fail
        go_meet
        exact⟨by rw[E1.out];exact FA.out.1.take 3,aj.1,FA.out.2.1,FA.out.2.2⟩
       case amX=>
        refine mg hK 4 [(aC S 6),(aC S 7)] FA ST.out aj fun apj apk FA aj=>?_
        refine fI 9 fun K hK=>?_
        refine iJ hK 0 FA ST.out aj rfl (Ao aj.2 2 4 [aC S 2,aC S 3,aC S 4,aC S 5] rfl (by rw[HSL.out];omega) (fun i hi=>by match i,hi with|0,_=>rfl|1,_=>rfl|2,_=>rfl|3,_=>rfl)) fG (by simp) (by have:=LN.out;simp;omega) fun apl apm FA aj=>?_
        refine fI 15 fun K hK=>?_
        refine iJ hK 0 FA ST.out aj rfl (FA.out.1.get 4 rfl).ints fG (by simp) (by have:=LN.out;simp;omega) fun apn apo FA aj=>?_
        refine bV 16 aj ?_
        refine lM ?_
        go_wp2_with fail
        go_meet
        exact⟨by rw[E1.out];exact FA.out.1.take 3,aj.1,FA.out.2.1,FA.out.2.2⟩
      case amV=>
       refine mg hK 4 [(aC S 6),(aC S 7)] FA ST.out aj fun apq apr FA aj=>?_
       refine fI 6 fun K hK=>?_
       refine iJ hK 0 FA ST.out aj rfl (FA.out.1.get 3 rfl).ints fG (by simp) (by have:=LN.out;simp;omega) fun aps apt FA aj=>?_
       refine fI 9 fun K hK=>?_
       refine iJ hK 0 FA ST.out aj rfl (Ao aj.2 2 4 [aC S 2,aC S 3,aC S 4,aC S 5] rfl (by rw[HSL.out];omega) (fun i hi=>by match i,hi with|0,_=>rfl|1,_=>rfl|2,_=>rfl|3,_=>rfl)) fG (by simp) (by have:=LN.out;simp;omega) fun apu apv FA aj=>?_
       refine fI 15 fun K hK=>?_
       refine iJ hK 0 FA ST.out aj rfl (FA.out.1.get 4 rfl).ints fG (by simp) (by have:=LN.out;simp;omega) fun apw apx FA aj=>?_
       refine bV 16 aj ?_
       refine lM ?_
       go_wp2_with fail
       go_meet
       exact⟨by rw[E1.out];exact FA.out.1.take 3,aj.1,FA.out.2.1,FA.out.2.2⟩
     case amT=>
      refine mg hK 4 [(aC S 6),(aC S 7)] FA ST.out aj fun apy apz FA aj=>?_
      refine fI 5 fun K hK=>?_
      refine mg hK 3 [(aC S 0),(aC S 1)] FA ST.out aj fun apA apB FA aj=>?_
      refine fI 6 fun K hK=>?_
      refine iJ hK 0 FA ST.out aj rfl (FA.out.1.get 3 rfl).ints fG (by simp) (by have:=LN.out;simp;omega) fun apC apD FA aj=>?_
      refine fI 9 fun K hK=>?_
      refine iJ hK 0 FA ST.out aj rfl (Ao aj.2 2 4 [aC S 2,aC S 3,aC S 4,aC S 5] rfl (by rw[HSL.out];omega) (fun i hi=>by match i,hi with|0,_=>rfl|1,_=>rfl|2,_=>rfl|3,_=>rfl)) fG (by simp) (by have:=LN.out;simp;omega) fun apE apF FA aj=>?_
      refine fI 15 fun K hK=>?_
      refine iJ hK 0 FA ST.out aj rfl (FA.out.1.get 4 rfl).ints fG (by simp) (by have:=LN.out;simp;omega) fun apG apH FA aj=>?_
      refine bV 16 aj ?_
      refine lM ?_
      go_wp2_with fail
      go_meet
      exact⟨by rw[E1.out];exact FA.out.1.take 3,aj.1,FA.out.2.1,FA.out.2.2⟩
    case rest=>
     obtain⟨f1,f2,f3,f4⟩:=hcut
     have FA:=Zd f1
     have GW:=Zd f2
     have HBS:=Zd f3
     have PB:=Zd f4
     clear f1 f2 f3 f4
     have gax:=ak wc (.cells #[.int .i64 6,.int .i64 3,.int .i64 4,.int .i64 4,.int .i64 4,.int .i64 4,.int .i64 4,.int .i64 5] 3) none
     have FBx:=Zd (FA.out.aH gax)
     have HLx:=Zs (w.heap.size+1≤(wc.alloc (.cells #[.int .i64 6,.int .i64 3,.int .i64 4,.int .i64 4,.int .i64 4,.int .i64 4,.int .i64 4,.int .i64 5] 3)).heap.size) (by have:=HBS.out;simp;omega)
     have ILx:=Zs (aS (wc.alloc (.cells #[.int .i64 6,.int .i64 3,.int .i64 4,.int .i64 4,.int .i64 4,.int .i64 4,.int .i64 4,.int .i64 5] 3)) (.slice (some ⟨wc.heap.size,0,none⟩) 8 8) [6,3,4,4,4,4,4,5]) ((DW wc (w.heap.size+1) HBS.out [6,3,4,4,4,4,4,5] (by simp)).ints)
     go_wp2_with (at_builtin;refine F9 (by rfl) _ _ rfl (w.heap.size+1) u6 (.slice (some ⟨wc.heap.size,0,none⟩) 8 8) (Ox.take (9+8*k)) [6,3,4,4,4,4,4,5] rfl rfl (FBx.out.get 1 rfl) ILx.out (by simp) (by have:=LN.out;simp;omega) HLx.out ?_)
     intro vx wx ox gx nx
     have GW:=Zd (Ow (bD GW.out gax) (FBx.out.get 1 rfl) hBase gx)
     have PB:=Zd ((PB.out.aH gax).DX (FBx.out.get 1 rfl) fG gx)
     have HBS:=Zd (Nat.le_trans HLx.out gx.size)
     replace FA:=Zd (FBx.out.upd 1 _ _ _ _ rfl gx ox (fun g' hg'=>by have:=nx g' hg';simpa using this))
     clear ox gx nx gax
     have gay:=ak wx (.cells #[.int .i64 59,.int .i64 7,.int .i64 9,.int .i64 9,.int .i64 9,.int .i64 9,.int .i64 15,.int .i64 31] 3) none
     have FBy:=Zd (FA.out.aH gay)
     have HLy:=Zs (w.heap.size+1≤(wx.alloc (.cells #[.int .i64 59,.int .i64 7,.int .i64 9,.int .i64 9,.int .i64 9,.int .i64 9,.int .i64 15,.int .i64 31] 3)).heap.size) (by have:=HBS.out;simp;omega)
     have ILy:=Zs (aS (wx.alloc (.cells #[.int .i64 59,.int .i64 7,.int .i64 9,.int .i64 9,.int .i64 9,.int .i64 9,.int .i64 15,.int .i64 31] 3)) (.slice (some ⟨wx.heap.size,0,none⟩) 8 8) [59,7,9,9,9,9,15,31]) ((DW wx (w.heap.size+1) HBS.out [59,7,9,9,9,9,15,31] (by simp)).ints)
     go_wp2_with (at_builtin;refine F9 (by rfl) _ _ rfl (w.heap.size+1) u7 (.slice (some ⟨wx.heap.size,0,none⟩) 8 8) (OT.take (9+8*k)) [59,7,9,9,9,9,15,31] rfl rfl (FBy.out.get 2 rfl) ILy.out (by simp) (by have:=LN.out;simp;omega) HLy.out ?_)
     intro vy wy oy gy ny
     have GW:=Zd (Ow (bD GW.out gay) (FBy.out.get 2 rfl) hBase gy)
     have PB:=Zd ((PB.out.aH gay).DX (FBy.out.get 2 rfl) fG gy)
     have HBS:=Zd (Nat.le_trans HLy.out gy.size)
     replace FA:=Zd (FBy.out.upd 2 _ _ _ _ rfl gy oy (fun g' hg'=>by have:=ny g' hg';simpa using this))
     clear oy gy ny gay
     have NS:=Zs (sS (w.heap.size+1) w w.heap.size l (9+8*k+8) u5 vx vy wy) (⟨by rw[E2.out.1,E2.out.2];exact FA.out,GW.out,HBS.out,PB.out⟩)
     clear FA
     go_wp2_with fail
     go_roundw
     case rel=>exact⟨k+1,by go_num,gA,NS.out⟩
     case measure=>simp[intOf];omega
   obtain rfl:k=2:=gA
   have NS:=Zd hM.out
   clear hM
   go_wp2_with fail
   go_ret3
   exact⟨_,_,_,rfl,NS.out⟩
theorem agF (i:Nat):aC OT i=uO i:=rfl
theorem Uj (l:List Int)(hl:l.length=25)(iQ:jv l)(a:Addr)(c:Nat)(w:World)(hT:TabS w 1 a c Am 8) :
 Calls prog 84 #[.agg (aD l)] w (gJ w (.bool (j4 l))):=by
 have P0:=Zd (bO.new w 49 l)
 have G0:=Zd (ak w (.cells (aD l) 49) none)
 have NU:=Zd (fun wr (g:w.grownBy wr none)=>wS l hl a c wr (jG hT g))
 have Y:=Zd (fun(hh:∀i,i<25→0≤aC l i∧aC l i≤uO i) wr (g:w.grownBy wr none)=>(show gJ w (.bool (j4 l)) (.returned (.bool true)) wr from⟨by rw[(kF l).2 hh],g⟩))
 have N:=Zd (fun i (hi:i<25) (hn:¬(0≤aC l i∧aC l i≤uO i)) wr (g:w.grownBy wr none)=>(show gJ w (.bool (j4 l)) (.returned (.bool false)) wr from⟨by rw[YA l i hi hn],g⟩))
 have HL:=Zd hl
 have ML:=Zd (fun i (hi:i<25)=>Bf i hi)
 have DY:=Zd iQ
 generalize gJ w (.bool (j4 l))=T at *
 clear hT iQ
 go_enter func84,ntmps84
 go_upto_region 1 with fail
 generalize w.alloc (.cells (aD l) 49)=W0 at *
 go_wp2_with (first|refine lA P0.out (by rw[HL.out];exact nS) ?_)
 refine(NU.out _ G0.out).mono ?_
 rintro e w1 ⟨v1,v2,v3,rfl,f1,f2,f3,f4⟩
 rw[List.take_of_length_le (show l.length≤25 by omega),List.take_of_length_le (show OT.length≤25 by decide)]at f1
 have o1:=f1.get 0 rfl
 have o3:=f1.get 2 rfl
 obtain⟨ga,ca,rfl,_,_,ha⟩:=o1.form gA
 obtain⟨gb,cb,rfl,_,_,hb⟩:=o3.form (by decide)
 rw[hl]at o1 ha ⊢
 rw[show OT.length=25 from rfl]at o3 hb ⊢
 have O1:=Zd o1
 have O3:=Zd o3
 have G1:=Zd (aB G0.out f2)
 clear o1 o3 f1 f2 f3 f4 NU G0 hl
 go_wp2_with fail
 go_loopw [15] (fun i wr=>∃m:Nat,i=.int .i64 m∧m≤25∧Hid (∀i,i<m→0≤aC l i∧aC l i≤uO i)∧Hid (dM w1 wr)) (fun i _=>25-(intOf i).toNat)
 case atStart=>exact⟨0,rfl,Nat.zero_le _,fun i hi=>gA,aQ _ _⟩
 case round=>
  obtain⟨m,rfl,hm,hA,hg⟩:=hrel
  by_cases wB:m<25
  ·have c1:=(O1.out.aH hg.out).cell HL.out.symm m (by rw[HL.out];omega)
   have c3:=(O3.out.aH hg.out).cell rfl m (by show m<25;omega)
   rw[agF]at c3
   obtain⟨m1,m2,m3⟩:=ML.out m wB
   obtain⟨x1,x2⟩:=DY.out m
   have i1:(m:Int)<25:=gA
   have NK:=Zd (N.out m wB)
   have GK:=Zd (fun(hh:0≤aC l m∧aC l m≤uO m)=>(show ∀i,i<m+1→0≤aC l i∧aC l i≤uO i from fun i hi=>by
    rcases Nat.lt_or_ge i m with q|q
    ·exact hA.out i q
    obtain rfl:i=m:=gA
    exact hh))
   have G2:=Zd (aB G1.out hg.out)
   clear hA m2
   generalize aC l m=x at *
   generalize uO m=y at *
   by_cases b1:x<0
   ·have F:=Zd (fun wr=>NK.out gA wr)
    go_wp2_with fail
    go_big_quiet (fail)
    go_wp2_with fail
    first|exact F.out _ (aB G2.out (bW (aQ _ none)))|exact F.out _ (aB G2.out (dR _ _ none))|(go_ret;exact F.out _ (aB G2.out (bW (aQ _ none))))|(go_ret;exact F.out _ (aB G2.out (dR _ _ none)))
   have hd1:decide (x<0)=false:=decide_eq_false b1
   by_cases b2:y<x
   ·have hd2:decide (y<x)=true:=decide_eq_true b2
    have F:=Zd (fun wr=>NK.out gA wr)
    go_wp2_with fail
    go_big_quiet (fail)
    go_wp2_with fail
    first|exact F.out _ (aB G2.out (bW (aQ _ none)))|exact F.out _ (aB G2.out (dR _ _ none))|(go_ret;exact F.out _ (aB G2.out (bW (aQ _ none))))|(go_ret;exact F.out _ (aB G2.out (dR _ _ none)))
   have hd2:decide (y<x)=false:=decide_eq_false b2
   have F:=Zd (GK.out gA)
   go_wp2_with fail
   go_big_quiet (fail)
   go_wp2_with fail
   go_roundw
   case rel=>exact⟨m+1,by go_num,gA,F.out,bD hg.out (by first|exact dR _ _ none|exact bW (aQ _ none))⟩
   case measure=>simp[intOf];omega
  obtain rfl:m=25:=gA
  rw[show((25:Nat):Int)=25 from rfl]at *
  have F:=Zd (Y.out hA.out wr (aB G1.out hg.out))
  clear hA
  go_wp2_with fail
  first|exact F.out|(go_ret;exact F.out)
theorem Oz (v:Value)(b:List Int)(w:World)(h:Gf w v b)(hb:byB b)(hl:b.length≤1000) :
 Calls prog 88 #[v] w (lY w (.int .u8 (zD b b.length))):=by
 obtain⟨ad,c,rfl,hc,bH⟩:=h
 have SB:=Zd (Mj b hb)
 have HB:=Zd hb
 have HC:=Zd bH
 have F:=Zs (lY w (.int .u8 (zD b b.length)) (.returned (.int .u8 ((90+rM b b.length) % 256))) w) (⟨rfl,rfl⟩)
 have HS:=Zs (∀n,rM b (n+1)=rM b n+aC b n) (fun n=>rfl)
 generalize lY w (.int .u8 (zD b b.length))=T at *
 clear bH hb
 go_enter func88,ntmps88
 go_wp2_with fail
 go_loop [3,8] (fun s i=>∃m:Nat,i=.int .i64 m∧s=.int .i64 (90+rM b m)∧m≤b.length) (fun _ i=>b.length-(intOf i).toNat)
 case atStart=>exact⟨0,rfl,rfl,Nat.zero_le _⟩
 case round=>
  obtain⟨m,rfl,rfl,hm⟩:=hrel
  obtain⟨s1,s2⟩:=SB.out m
  by_cases hml:m<b.length
  ·obtain⟨a,rfl,hv⟩:=HC.out gA
   have cx:=hv m hml
   obtain⟨x1,x2⟩:=HB.out m
   have ES:=Zd (HS.out m)
   have i1:(m:Int)<b.length:=gA
   have i2:(b.length:Int)≤1000:=gA
   clear hv
   generalize aC b m=x at *
   generalize rM b m=s at *
   go_wp2_with fail
   go_round
   case rel=>exact⟨m+1,by go_num,by rw[ES.out];congr 1;omega,gA⟩
   case measure=>simp[intOf];omega
  obtain rfl:m=b.length:=gA
  have i2:(b.length:Int)≤1000:=gA
  generalize rM b b.length=s at *
  have e1:(90+s).tmod 256=(90+s) % 256:=Int.tmod_eq_emod_of_nonneg gA
  have e2:(90+s) % 256 % 256=(90+s) % 256:=gA
  go_wp2_with fail
  first|exact F.out|(go_ret;exact F.out)
def pPos (i:Nat):Nat:=[0,9,17].getD i 0
def Dm (l:List Int):Nat→Int
 | 0=>0
 | i+1=>Dm l i+pS (aC l (pPos i))
theorem Zx (l:List Int):∀i:Nat,0≤Dm l i∧Dm l i≤63*(i:Int)
 | 0=>⟨Int.le_refl _,Int.le_refl _⟩
 | i+1=>by
  have:=Zx l i
  have:=acu (aC l (pPos i))
  show 0≤Dm l i+pS (aC l (pPos i))∧Dm l i+pS (aC l (pPos i))≤63*((i+1:Nat):Int)
  omega
theorem aeD (l:List Int):uP l=Dm l 3 % 2:=by
 show(pS (aC l 0)+pS (aC l 9)+pS (aC l 17)) % 2=(0+pS (aC l 0)+pS (aC l 9)+pS (aC l 17)) % 2
 rw[Int.zero_add]
theorem JY (l:List Int)(hl:l.length=25)(iQ:jv l)(w:World) :
 Calls prog 86 #[.agg (aD l)] w (gJ w (.int .i64 (uP l))):=by
 have B0:=Zd (bO.new w 49 l)
 have G0:=Zd (ak w (.cells (aD l) 49) none)
 have F:=Zs (∀w',w.grownBy w' none→gJ w (.int .i64 (uP l)) (.returned (.int .i64 (Dm l 3 % 2))) w') (fun w' h=>⟨by rw[aeD],h⟩)
 have HS:=Zs (∀n,Dm l (n+1)=Dm l n+pS (aC l (pPos n))) (fun n=>rfl)
 have SB:=Zd (Zx l)
 have DY:=Zd iQ
 generalize gJ w (.int .i64 (uP l))=T at *
 go_enter func86,ntmps86
 go_upto_region 2 with fail
 have c0:=B0.out.cell 0 gA
 have c1:=B0.out.cell 9 gA
 have c2:=B0.out.cell 17 gA
 generalize w.alloc (.cells (aD l) 49)=W0 at *
 clear iQ
 have HX:=Zd (show ∀i,i<3→(#[Value.int .i64 (aC l 0),Value.int .i64 (aC l 9),Value.int .i64 (aC l 17)]:Array Value)[i]?=some (.int .i64 (aC l (pPos i)))from fun i hi=>by
  match i,hi with
  | 0,_=>rfl
  | 1,_=>rfl
  | 2,_=>rfl)
 go_wp2_with fail
 have G1:=Zd (aB G0.out (ak W0 (.cells #[.int .i64 (aC l 0),.int .i64 (aC l 9),.int .i64 (aC l 17)] 3) none))
 have BX:=Zd (show ∀i,i<3→(W0.alloc (.cells #[.int .i64 (aC l 0),.int .i64 (aC l 9),.int .i64 (aC l 17)] 3)).cell? ⟨W0.heap.size,i,none⟩=some (.int .i64 (aC l (pPos i)))from fun i hi=>by
  rw[aI (cK W0 _)];exact HX.out i hi)
 clear c0 c1 c2
 generalize W0.alloc (.cells #[.int .i64 (aC l 0),.int .i64 (aC l 9),.int .i64 (aC l 17)] 3)=W1 at *
 generalize W0.heap.size=bx at *
 go_loop [3,19] (fun s i=>∃m:Nat,i=.int .i64 m∧s=.int .i64 (Dm l m)∧m≤3) (fun _ i=>3-(intOf i).toNat)
 case atStart=>exact⟨0,rfl,rfl,Nat.zero_le _⟩
 case round=>
  obtain⟨m,rfl,rfl,hm⟩:=hrel
  obtain⟨s1,s2⟩:=SB.out m
  by_cases hm3:m<3
  ·have cx:=BX.out m hm3
   obtain⟨x1,x2⟩:=DY.out (pPos m)
   have ES:=Zd (HS.out m)
   have i1:(m:Int)<3:=gA
   have m3:(m:Int)≤3:=gA
   clear hl
   generalize aC l (pPos m)=x at *
   generalize Dm l m=s at *
   by_cases hx:0<x
   ·have BB:=Zd (Mh x)
    have BS:=Zs (∀k,oU x (k+1)=oU x k+x / 2^k % 2) (fun k=>rfl)
    rw[show pS x=oU x 63 from if_pos hx]at ES
    go_wp2_with fail
    go_loop [3,6] (fun s' k=>∃j:Nat,k=.int .u64 j∧s'=.int .i64 (s+oU x j)∧j≤63) (fun _ k=>63-(intOf k).toNat)
    case atStart=>exact⟨0,rfl,by show Value.int .i64 s=.int .i64 (s+0);rw[Int.add_zero],Nat.zero_le _⟩
    case round=>
     obtain⟨j,rfl,rfl,hj⟩:=hrel
     obtain⟨b1,b2⟩:=BB.out j
     by_cases apI:j<63
     ·have EB:=Zd (BS.out j)
      have hq:0≤x / 2^j:=Int.ediv_nonneg gA (Int.le_of_lt (pO j))
      have hq2:x / 2^j≤x:=Int.ediv_le_self _ gA
      have hr:(x / 2^j).tmod 2=x / 2^j % 2:=Int.tmod_eq_emod_of_nonneg hq
      have j1:(j:Int)<63:=gA
      generalize oU x j=t at *
      obtain⟨y,hy⟩:∃y,x / 2^j=y:=⟨_,rfl⟩
      rw[hy]at hq hq2 hr EB
      go_wp2_with fail
      go_round
      case rel=>exact⟨j+1,by go_num,by rw[EB.out];congr 1;omega,gA⟩
      case measure=>simp[intOf];omega
     obtain rfl:j=63:=gA
     rw[show((63:Nat):Int)=63 from rfl]at *
     have EZ:=Zd ES.out
     obtain⟨z,hz⟩:∃z,s+oU x 63=z:=⟨_,rfl⟩
     rw[hz]at EZ ⊢
     clear hz b1 b2
     go_wp2_with fail
     go_round
     case rel=>exact⟨m+1,by go_num,by rw[EZ.out],gA⟩
     case measure=>simp[intOf];omega
   rw[show pS x=0 from if_neg hx,Int.add_zero]at ES
   go_wp2_with fail
   go_loop [3,6] (fun s' k=>s'=.int .i64 s∧k=.int .u64 0) (fun _ _=>0)
   case atStart=>exact⟨rfl,rfl⟩
   case round=>
    obtain⟨rfl,rfl⟩:=hrel
    go_wp2_with fail
    go_round
    case rel=>exact⟨m+1,by go_num,by rw[ES.out],gA⟩
    case measure=>simp[intOf];omega
  obtain rfl:m=3:=gA
  rw[show((3:Nat):Int)=3 from rfl]at *
  have F1:=Zd (F.out W1 G1.out)
  generalize Dm l 3=s at *
  have hr:s.tmod 2=s % 2:=Int.tmod_eq_emod_of_nonneg s1
  go_wp2_with fail
  first|exact F1.out|(go_ret;exact F1.out)
def lC (w:World)(b:Nat)(rs:List Int):Prop:=w.heap[b]?=some (.cells (lX rs) 5 (0,0))
theorem lC.cell {w:World}{b:Nat}{rs:List Int}(h:lC w b rs)(i:Nat)(hi:i<rs.length):w.cell? ⟨b,i,none⟩=some (.int .u8 (aC rs i)):=(aI h i).trans (Q_ rs i hi)
theorem lC.free {w:World}{b:Nat}{rs:List Int}(h:lC w b rs)(i:Nat):w.frozen? ⟨b,i,none⟩=false:=aT h i
theorem lC.lt {w:World}{b:Nat}{rs:List Int}(h:lC w b rs):b<w.heap.size:=aN h
theorem lC.aH {w w':World}{b:Nat}{rs:List Int}(h:lC w b rs)(g:w.grownBy w' none):lC w' b rs:=(g.block _ (aN h) (by simp)).trans h
theorem lC.aJ {w w':World}{b:Nat}{rs:List Int}{r:Nat}(h:lC w b rs)(g:w.grownBy w' (some r))(hr:b≠r):lC w' b rs:=(g.block _ (aN h) (by simpa using hr)).trans h
theorem lC.new (w:World)(rs:List Int):lC (w.alloc (.cells (lX rs) 5)) w.heap.size rs:=cK w _
theorem lC.set {w:World}{b:Nat}{rs:List Int}(h:lC w b rs)(k:Nat)(z:Int):lC (w.setCell ⟨b,k,none⟩ (.int .u8 z)) b (rs.set k z):=by
 unfold lC
 rw[heap_setCell h,Ra]
theorem lC.aaF {w:World}{b:Nat}{rs:List Int}(h:lC w b rs)(n:Nat)(hn:rs.length=n):Gf w (.slice (some ⟨b,0,none⟩) n n) rs:=by
 subst hn
 refine⟨_,rs.length,rfl,Nat.le_refl _,fun _=>⟨_,rfl,fun i hi=>?_⟩⟩
 rw[Addr.add_mid,Nat.zero_add]
 exact h.cell i hi
theorem lC.own {w:World}{b base:Nat}{rs:List Int}(h:lC w b rs)(n:Nat)(hn:rs.length=n)(hb:base≤b)(hs:n≤1000):jw base w (.slice (some ⟨b,0,none⟩) n n) rs:=by
 subst hn
 exact⟨by simp,.inr ⟨b,rs.length,lX rs,rfl,hb,h,Nat.le_refl _,by unfold maxLen;omega,by simp[lX],by simp[lX];exact List.take_of_length_le (by simp)⟩⟩
def byL (x:Int)(N:Nat):List Int:=fM N (fun k=>x / 256^(N-1-k) % 256)
theorem Zy (x:Int)(N:Nat):(byL x N).length=N:=bQ _ _
theorem agG (i:Nat):(256:Int)^i=2^(8*i):=by rw[Int.pow_mul];rfl
theorem byte_at (l:List Int)(hw:WF l)(i:Nat):aC l (i / 4) / 2^(8*(i % 4)) % 256=val l / 256^i % 256:=by
 have d:=sD l hw (i / 4)
 have e:(256:Int)^i=P (i / 4)*2^(8*(i % 4)):=by
  rw[agG,KV,←Int.pow_add,show 8*i=32*(i / 4)+8*(i % 4) by omega]
 rw[e,←Int.ediv_ediv_of_nonneg (Int.le_of_lt (nD _)),show val l / P (i / 4)=upper l (i / 4)from rfl,d]
 obtain⟨w0,w1⟩:=hw (i / 4)
 generalize aC l (i / 4)=x at *
 generalize upper l (i / 4+1)=U at *
 have h4:i % 4=0∨i % 4=1∨i % 4=2∨i % 4=3:=gA
 rcases h4 with h|h|h|h<;>rw[h]
 ·rw[show(2:Int)^(8*0)=1 by decide];omega
 ·rw[show(2:Int)^(8*1)=256 by decide];omega
 ·rw[show(2:Int)^(8*2)=65536 by decide];omega
 rw[show(2:Int)^(8*3)=16777216 by decide];omega
theorem XV (x:Int)(n:Nat)(h:Bits x n)(h0:0≤x):x<256^((n+7) / 8)∧∀i,i<(n+7) / 8→256^i≤x:=by
 obtain⟨h1,h2,h3⟩:=h
 refine⟨?_,fun i hi=>?_⟩
 ·rw[agG]
  have:(2:Nat)^n≤2^(8*((n+7) / 8)):=Nat.pow_le_pow_right gA gA
  have e1:((2^n:Nat):Int)=(2:Int)^n:=by simp
  have e2:((2^(8*((n+7) / 8)):Nat):Int)=(2:Int)^(8*((n+7) / 8)):=by simp
  omega
 have hn:0<n:=gA
 have hx:0<x:=by
  rcases Int.lt_or_le 0 x with q|q
  ·exact q
  have:=h2 gA;omega
 obtain⟨_,h4⟩:=h3 hx
 rw[agG]
 have:(2:Nat)^(8*i)≤2^(n-1):=Nat.pow_le_pow_right gA gA
 have e1:((2^(8*i):Nat):Int)=(2:Int)^(8*i):=by simp
 have e2:((2^(n-1):Nat):Int)=(2:Int)^(n-1):=by simp
 omega
def Uk (N:Nat)(f:Nat→Int)(m:Nat)(rs:List Int):Prop:=rs.length=N∧∀k,N≤k+m→k<N→aC rs k=f k
theorem Ul (N:Nat)(f:Nat→Int):Uk N f 0 (List.replicate N 0):=⟨by simp,fun k h1 h2=>gA⟩
theorem XW {N:Nat}{f:Nat→Int}{m:Nat}{rs:List Int}(h:Uk N f m rs)(hm:m<N):Uk N f (m+1) (rs.set (N-1-m) (f (N-1-m))):=by
 refine⟨by rw[List.length_set];exact h.1,fun k h1 h2=>?_⟩
 rw[Mk _ _ _ (by rw[h.1];omega)]
 by_cases e:k=N-1-m
 ·rw[if_pos e,e]
 rw[if_neg e];exact h.2 k gA h2
theorem abA {N:Nat}{f:Nat→Int}{rs:List Int}(h:Uk N f N rs):rs=fM N f:=dJ h.1 (fun k hk=>h.2 k gA hk)
theorem OD (bx:Nat)(x:Int)(w:World)(hx:jJ w bx x)(h0:0≤x) :
 Calls prog 155 #[.pointer (some ⟨bx,0,none⟩)] w fun e w'=>∃N:Nat,N≤32∧x<256^N∧(∀i,i<N→256^i≤x)∧e=.returned (.slice (some ⟨w.heap.size,0,none⟩) N N)∧lC w' w.heap.size (byL x N)∧w.grownBy w' none:=by
 obtain⟨vx,lx,x0,x1,xb,xs,xw,xt,xv,xl⟩:=fC hx
 have xv':val lx=x:=by rw[xv];omega
 have LE:=Zd (yR vx lx w xs xw xt gA)
 obtain⟨ad,cc,rfl,hv⟩:=iK xs
 have HV:=Zd hv
 have HB:=Zd (byte_at lx xw)
 have HX:=Zd xv'
 have HW:=Zd xw
 have VB:=Zd (pI lx xw)
 clear hv xs xt hx x0 xw xv
 go_enter func155,ntmps155
 go_wp2_with fail
 refine LE.out.mono ?_
 rintro e w1 ⟨n,hn,hB,rfl,rfl⟩
 rw[xv']at hB
 obtain⟨q1,q2⟩:=XV x n hB h0
 have amY:(n+7) / 8≤32:=by
  rcases Nat.lt_or_ge 32 ((n+7) / 8)with q|q
  ·have h1:=q2 32 q
   have h2:=VB.out.2
   have h3:=uH lx.length 8 xl
   rw[HX.out]at h2
   rw[show(256:Int)^32=P 8 by decide]at h1
   omega
  exact q
 have e1:((n:Int)+7).tdiv 8=(((n+7) / 8:Nat):Int):=by rw[Int.tdiv_eq_ediv_of_nonneg gA];omega
 have e2:((n:Int)+7) / 8=(((n+7) / 8:Nat):Int):=gA
 have hn':(n:Int)≤1280:=gA
 clear LE hB
 generalize (n+7) / 8=N at *
 have Q1:=Zd q1
 have Q2:=Zd q2
 clear q1 q2
 have jg:=fun u=>Gg (N:Int) gA gA u
 rw[Int.toNat_natCast]at jg
 have hN':(N:Int)≤32:=gA
 have M0:=Zs (lC (w1.alloc (.cells (lX (List.replicate N 0)) 5)) w1.heap.size (List.replicate N 0)∧w1.grownBy (w1.alloc (.cells (lX (List.replicate N 0)) 5)) none) (⟨lC.new w1 _,ak _ _ none⟩)
 obtain⟨Z,hZ⟩:∃Z:List Int,List.replicate N 0=Z:=⟨_,rfl⟩
 have F_:=Zd (Ul N (fun k=>x / 256^(N-1-k) % 256))
 rw[hZ]at jg M0 F_
 clear hZ hn hn'
 go_wp2_with fail
 clear jg e1 e2
 generalize w1.alloc (.cells (lX Z) 5)=W0 at *
 go_loopw [5] (fun i wr=>∃(m:Nat) (rs:List Int),i=.int .i64 m∧m≤N∧Hid (Uk N (fun k=>x / 256^(N-1-k) % 256) m rs)∧Hid (lC wr w1.heap.size rs∧w1.grownBy wr none)) (fun i _=>N-(intOf i).toNat)
 case atStart=>exact⟨0,Z,rfl,Nat.zero_le _,F_.out,M0.out⟩
 case round=>
  obtain⟨m,rs,rfl,hm,hF,hM⟩:=hrel
  clear M0 F_
  by_cases hmN:m<N
  ·have i1:(m:Int)<N:=gA
   have hj:m / 4<lx.length:=by
    have h1:=Q2.out m hmN
    have h2:=VB.out.2
    rw[HX.out]at h2
    rcases Nat.lt_or_ge (m / 4) lx.length with q|q
    ·exact q
    exfalso
    have h3:=uH lx.length (m / 4) q
    have h4:P (m / 4)≤256^m:=by
     rw[agG,KV]
     have:(2:Nat)^(32*(m / 4))≤2^(8*m):=Nat.pow_le_pow_right gA gA
     have e1:((2^(32*(m / 4)):Nat):Int)=(2:Int)^(32*(m / 4)):=by simp
     have e2:((2^(8*m):Nat):Int)=(2:Int)^(8*m):=by simp
     omega
    omega
   obtain⟨bw,rfl,hbw,hcw⟩:=HV.out gA
   have cx1:=bA hM.out.2 x1
   have cw:=bA hM.out.2 (hcw (m / 4) hj)
   obtain⟨w0,w9⟩:=HW.out (m / 4)
   have hb:=HB.out m
   rw[HX.out]at hb
   have NF:=Zd (XW hF.out hmN)
   have hlen:rs.length=N:=hF.out.1
   have cd:=hM.out.1.cell (N-1-m) gA
   have fd:=hM.out.1.free (N-1-m)
   have NM:=Zd (fun z=>(show lC (wr.setCell ⟨w1.heap.size,N-1-m,none⟩ (.int .u8 z)) w1.heap.size (rs.set (N-1-m) z)∧w1.grownBy (wr.setCell ⟨w1.heap.size,N-1-m,none⟩ (.int .u8 z)) none from⟨hM.out.1.set _ _,aG hM.out.2 (aF wr ⟨w1.heap.size,N-1-m,none⟩ _) (Nat.le_refl _)⟩))
   have k1:(N:Int)-1-(m:Int)=((N-1-m:Nat):Int):=gA
   have k2:(m:Int).tdiv 4=((m / 4:Nat):Int):=by rw[Int.tdiv_eq_ediv_of_nonneg gA];omega
   have k3:(m:Int) / 4=((m / 4:Nat):Int):=gA
   have k4:(m:Int).tmod 4=((m % 4:Nat):Int):=by rw[Int.tmod_eq_emod_of_nonneg gA];omega
   have k5:(m:Int) % 4=((m % 4:Nat):Int):=gA
   have k6:((N-1-m:Nat):Int)<N:=gA
   have k7:((m / 4:Nat):Int)<lx.length:=gA
   have k8:8*(m % 4)≤24:=gA
   have k9:m % 4≤3:=gA
   rw[show N-1-(N-1-m)=m by omega,←hb]at NF
   have hu:aC lx (m / 4) / 2^(8*(m % 4))≤aC lx (m / 4)∧0≤aC lx (m / 4) / 2^(8*(m % 4)):=⟨Int.ediv_le_self _ w0,Int.ediv_nonneg w0 (Int.le_of_lt (pO _))⟩
   obtain⟨u1,u2⟩:=hu
   clear hF hM hcw hb hlen xv'
   generalize aC lx (m / 4)=u at *
   generalize hK:N-1-m=K at *
   generalize m / 4=J at *
   generalize m % 4=r at *
   generalize aC rs K=old at *
   have k10:(8*(r:Int)).toNat=8*r:=gA
   have k11:(r:Int)≤3:=gA
   obtain⟨y,hy⟩:∃y,u / 2^(8*r)=y:=⟨_,rfl⟩
   rw[hy]at u1 u2 NF
   go_wp2_with fail
   go_roundw
   case rel=>exact⟨m+1,_,by go_num,gA,NF.out,(NM.out _)⟩
   case measure=>simp[intOf];omega
  obtain rfl:m=N:=gA
  have EL:=Zs (rs=byL x m) (abA hF.out)
  have GF:=Zd hM.out
  clear hF hM
  go_wp2_with fail
  go_ret
  rw[EL.out]at GF
  exact⟨m,amY,Q1.out,Q2.out,rfl,GF.out.1,GF.out.2⟩
theorem XY {w w':World}{b g:Nat}{z:Int}{cs:Array Value}{t:TypeId}{f:Nat×Nat}(h:jJ w b z)(gr:w.grownBy w' (some g))(hg:w.heap[g]?=some (.cells cs t f))(h1:t≠96)(h2:t≠157):jJ w' b z:=by
 obtain⟨v,l,a1,a2,a3,a4,a5,a6⟩:=h
 refine⟨v,l,?_,?_,a3,a4,a5,a6⟩
 ·rw[gr.block b (aN a1) (fun e=>by cases e;rw[a1]at hg;simp at hg;exact h1 hg.2.1.symm)]
  exact a1
 rcases a2 with a2|⟨b',c,cs',q1,q2,q3,q4⟩
 ·exact .inl a2
 refine .inr ⟨b',c,cs',q1,q2,?_,q4⟩
 rw[gr.block b' (aN q3) (fun e=>by cases e;rw[q3]at hg;simp at hg;exact h2 hg.2.1.symm)]
 exact q3
theorem ahe:(5:TypeId)≠96∧(5:TypeId)≠157:=by decide
def Um (L:List Int)(off:Nat)(M:List Int):List Int:=L.take off++(M++L.drop (off+M.length))
theorem aeE (L:List Int)(off:Nat)(M:List Int)(h:off+M.length≤L.length):(Um L off M).length=L.length:=by simp[Um];omega
theorem aeF (L:List Int)(off:Nat)(M:List Int)(h:off+M.length≤L.length)(k:Nat):aC (Um L off M) k=if k<off then aC L k else if k<off+M.length then aC M (k-off)else aC L k:=by
 unfold Um aC
 by_cases h1:k<off
 ·rw[if_pos h1]
  simp[List.getD,List.getElem?_append,h1,show k<L.length by omega,show k<min off L.length by omega]
 rw[if_neg h1]
 have e:(L.take off).length=off:=by simp;omega
 by_cases h2:k<off+M.length
 ·rw[if_pos h2]
  simp[List.getD,List.getElem?_append,e,h1,show k-off<M.length by omega,show ¬k<min off L.length by omega,show min off L.length=off by omega]
 rw[if_neg h2]
 simp[List.getD,List.getElem?_append,show ¬k<min off L.length by omega,show min off L.length=off by omega,show ¬k-off<M.length by omega]
 rw[show off+M.length+(k-off-M.length)=k by omega]
 try rw[if_neg h1]
theorem JZ (w:World)(g:Nat)(cs:Array Value):w.grownBy (w.setRow g cs) (some g):=
 ⟨rfl,rfl,rfl,by simp,fun k _ h=>setRow_other w g k cs (fun e=>h (by rw[e]))⟩
theorem OG {ops:Array Oper}{rest:List Oper}{o:Oper}{a:Act}{w:World}{Q:Exit→Act→World→Prop}(hgd:o.guard=none)(d s:Operand)
 (hop:o.op=Op.call { callee:=Callee.builtin Builtin.copy,args:=#[d,s],argTypes:=#[33,33] }) (g off dLen dCap b sLen sCap:Nat) (cur L:List Int)
 (hd:a.eval d=.slice (some ⟨g,off,none⟩) dLen dCap) (hs:a.eval s=.slice (some ⟨b,0,none⟩) sLen sCap) (hg:lC w g cur) (hb:lC w b L) (hL:L.length=sLen) (hle:sLen≤dLen) (hfit:off+sLen≤cur.length)
 (k:∀w',lC w' g (Um cur off L)→w.grownBy w' (some g)→wpList prog ops Q rest (a.put o.dst (goInt sLen)) w'):wpList prog ops Q (o::rest) a w:=by
 have hsz:(prog.info? 5).map (·.size)=some 1:=by kernel_rfl
 have hrun:=run_copy_row (P:=prog) w 33 33 o.type 5 g off dLen dCap ⟨b,0,none⟩ sLen sCap (lX cur) 5 (L.map (Value.int .u8)) underlying33 hsz hg (by simp[hL,Nat.min_eq_left hle])
  (fun j v hv=>by
   have hj:j<L.length:=by
    by_cases hj:j<L.length
    ·exact hj
    rw[List.getElem?_eq_none (by simp;omega)]at hv;cases hv
   rw[Addr.add_mid,Nat.zero_add,hb.cell j hj]
   simpa [aC,List.getD,hj] using hv)
  (by simp[lX,hL];omega) (fun v hv=>by
   obtain⟨x,_,rfl⟩:=List.mem_map.1 hv
   rfl)
 have e:((lX cur).toList.take off++L.map (Value.int .u8)++(lX cur).toList.drop (off+(L.map (Value.int .u8)).length)).toArray=lX (Um cur off L):=by
  simp[lX,Um,List.map_take,List.map_drop]
 rw[e,List.length_map,hL]at hrun
 refine wpList_plain hgd fun K hK=>?_
 unfold Oper.wp
 simp[execOp,hop,resolve,invoke,builtin,hd,hs,hrun,Result.andThen]
 exact hK _ _ (k _ (setRow_heap _ _ _ _ _ _ hg) (JZ _ _ _))
def Iu (m:Nat)(rs:List Int):Prop:=rs.length=14∧∀k,k<m→aC rs k=0
theorem Un {m:Nat}{rs:List Int}(h:Iu m rs)(hm:m<14):Iu (m+1) (rs.set m 0):=by
 refine⟨by rw[List.length_set];exact h.1,fun k hk=>?_⟩
 rw[Mk _ _ _ (by rw[h.1];omega)]
 by_cases e:k=m
 ·rw[if_pos e]
 rw[if_neg e];exact h.2 k gA
theorem abB (a b:Nat)(h:a≤b):(256:Int)^a≤256^b:=by
 have h1:(256:Nat)^a≤256^b:=Nat.pow_le_pow_right gA h
 have e1:((256^a:Nat):Int)=(256:Int)^a:=by simp
 have e2:((256^b:Nat):Int)=(256:Int)^b:=by simp
 omega
theorem agH (x:Int)(N:Nat)(rs:List Int)(h0:0≤x)(h1:x<256^N)(hN:N≤14)(h:Iu 14 rs):Um rs (14-N) (byL x N)=zF x:=by
 have hl:=Zy x N
 refine dJ (by rw[aeE _ _ _ (by rw[hl,h.1];omega),h.1]) (fun k hk=>?_)
 rw[aeF _ _ _ (by rw[hl,h.1];omega),hl]
 unfold byN
 by_cases e:k<14-N
 ·rw[if_pos e,h.2 k hk,Int.ediv_eq_zero_of_lt h0 (by have:=abB N (13-k) gA;omega)]
  rfl
 rw[if_neg e,if_pos gA]
 unfold byL
 rw[dN _ _ _ gA,show N-1-(k-(14-N))=13-k by omega]
theorem agI (rs:List Int)(h:Iu 14 rs):rs=zF 0:=dJ h.1 (fun k hk=>by rw[h.2 k hk];unfold byN;rw[Int.zero_ediv];rfl)
theorem J2 (bx:Nat)(x:Int)(w:World)(hx:jJ w bx x)(h0:0≤x)(h14:x<256^14)(g:Nat)(rs:List Int)(hg:lC w g rs)(hl:rs.length=14) :
 Calls prog 87 #[.pointer (some ⟨bx,0,none⟩),.slice (some ⟨g,0,none⟩) 14 14] w fun e w'=>e=.returned (.slice (some ⟨g,0,none⟩) 14 14)∧lC w' g (zF x)∧w.grownBy w' (some g):=by
 have HI:=Zd (fun w' (gr:w.grownBy w' (some g))=>XY hx gr hg ahe.1 ahe.2)
 have HG:=Zd hg
 have HL:=Zd hl
 have H14:=Zd h14
 have glt:=hg.lt
 clear hx hg hl h14
 go_enter func87,ntmps87
 go_wp2_with fail
 go_loopw [9] (fun i wr=>∃(m:Nat) (rs:List Int),i=.int .i64 m∧m≤14∧Hid (Iu m rs)∧Hid (lC wr g rs∧w.grownBy wr (some g))) (fun i _=>14-(intOf i).toNat)
 case atStart=>exact⟨0,rs,rfl,Nat.zero_le _,⟨HL.out,fun k hk=>gA⟩,HG.out,aQ _ _⟩
 case round=>
  obtain⟨m,rs,rfl,hm,hZ,hM⟩:=hrel
  by_cases aiU:m<14
  ·have i1:(m:Int)<14:=gA
   have cd:=hM.out.1.cell m (by rw[hZ.out.1];omega)
   have fd:=hM.out.1.free m
   have NZ:=Zd (Un hZ.out aiU)
   have NM:=Zs (lC (wr.setCell ⟨g,m,none⟩ (.int .u8 0)) g (rs.set m 0)∧w.grownBy (wr.setCell ⟨g,m,none⟩ (.int .u8 0)) (some g)) (⟨hM.out.1.set _ _,dB hM.out.2 (aF wr ⟨g,m,none⟩ _) (some g) (fun i e _=>e) (fun i e _=>e)⟩)
   clear hZ hM
   generalize aC rs m=old at *
   go_wp2_with fail
   go_roundw
   case rel=>exact⟨m+1,_,by go_num,gA,NZ.out,NM.out⟩
   case measure=>simp[intOf];omega
  obtain rfl:m=14:=gA
  rw[show((14:Nat):Int)=14 from rfl]at *
  have BB:=Zd (OD bx x wr (HI.out wr hM.out.2) h0)
  have GL:=Zs (g<wr.heap.size) (hM.out.1.lt)
  go_wp2_with fail
  refine BB.out.mono ?_
  rintro e w1 ⟨N,hN,x1,x2,rfl,b1,g1⟩
  have N14:N≤14:=by
   rcases Nat.lt_or_ge 14 N with q|q
   ·have:=x2 14 q;have:=H14.out;omega
   exact q
  have B1:=Zd b1
  have M1:=Zd (hM.out.1.aH g1)
  have G1:=Zd (dB hM.out.2 g1 (some g) (fun i e _=>e) (fun i e _=>by cases e))
  have EF:=Zd (agH x N rs h0 x1 N14 hZ.out)
  have hlN:=Zy x N
  have LEN:=Zd hZ.out.1
  clear b1 g1 BB hM x2
  by_cases hN0:N=0
  ·subst hN0
   have hx0:x=0:=by have:(256:Int)^0=1:=rfl;omega
   have EZ:=Zs (rs=zF x) (by rw[hx0];exact agI rs hZ.out)
   clear hZ hlN
   have hsz:(prog.info? 5).map (·.size)=some 1:=by kernel_rfl
   generalize wr.heap.size=bb at *
   go_wp2_with (refine wpList_copy_nothing rfl _ _ 33 33 rfl 5 underlying33 hsz _ _ _ _ _ _ rfl rfl (by simp) ?_)
   rw[EZ.out]at M1
   first|(go_ret;exact⟨rfl,M1.out,G1.out⟩)|(go_wp2_with fail;go_ret;exact⟨rfl,M1.out,G1.out⟩)
  have k1:(14:Int)-(N:Int)=((14-N:Nat):Int):=gA
  have k2:(N:Int)≤14:=gA
  have k3:14-N<14:=gA
  have k4:((14-N:Nat):Int)<14:=gA
  have k5:14-(14-N)=N:=gA
  clear hZ x1
  generalize wr.heap.size=bb at *
  generalize hO:14-N=off at *
  go_wp2_with (refine OG rfl _ _ rfl g off N N bb N N rs (byL x N) rfl rfl M1.out B1.out hlN (Nat.le_refl _) (by rw[LEN.out];omega) ?_)
  intro w2 b2 g2
  rw[EF.out]at b2
  have B2:=Zd b2
  have G2:=Zd (dB G1.out g2 (some g) (fun i e _=>e) (fun i e _=>e))
  clear b2 g2
  go_wp2_with fail
  go_ret
  exact⟨rfl,B2.out,G2.out⟩
def PkM (w:World)(bp bx:Nat)(z:Int)(v1 v2:Value)(l:List Int)(wr:World):Prop:=
 jJ wr bx z∧gP w.heap.size wr v1 l∧gP w.heap.size wr v2 Ox∧bO wr bp 49 l∧w.grownBy wr none∧w.heap.size≤bx∧bp≠bx
theorem ahf:(96:TypeId)≠3:=by decide
theorem PkM.grow {w:World}{bp bx:Nat}{z:Int}{v1 v2:Value}{l:List Int}{wr wr':World}(h:PkM w bp bx z v1 v2 l wr)(g:wr.grownBy wr' none):PkM w bp bx z v1 v2 l wr':=
 ⟨bJ h.1 g,h.2.1.aH g,h.2.2.1.aH g,h.2.2.2.1.aH g,aB h.2.2.2.2.1 g,h.2.2.2.2.2⟩
theorem PkM.turn {w:World}{bp bx:Nat}{z z':Int}{v1 v2:Value}{l:List Int}{wr wr':World}(h:PkM w bp bx z v1 v2 l wr)(g:wr.grownBy wr' (some bx))(i:jJ wr' bx z'):PkM w bp bx z' v1 v2 l wr':=by
 obtain⟨x,y,hs⟩:=bU h.1
 exact⟨i,h.2.1.aJ g hs ahf,h.2.2.1.aJ g hs ahf,h.2.2.2.1.aJ g h.2.2.2.2.2.2,aG h.2.2.2.2.1 g h.2.2.2.2.2.1,h.2.2.2.2.2⟩
theorem Ap (l:List Int)(h:j4 l=true)(i:Nat)(hi:i≤25):0≤nF l i∧nF l i<81129638414606681695789005144064:=by
 obtain⟨h1,h2⟩:=acs l h i hi
 have h3:=acp i hi
 have h4:(2:Nat)^sW i≤2^106:=Nat.pow_le_pow_right gA h3
 have e1:((2^sW i:Nat):Int)=(2:Int)^sW i:=by simp
 have e2:((2^106:Nat):Int)=81129638414606681695789005144064:=by decide
 omega
theorem agJ (l:List Int)(h:j4 l=true)(i:Nat)(hi:i<25):0≤nF l i*2^oQ i∧nF l i*2^oQ i<81129638414606681695789005144064:=by
 obtain⟨h1,h2⟩:=Ap l h (i+1) gA
 obtain⟨g1,g2⟩:=(kF l).1 h i hi
 have e:nF l (i+1)=nF l i*2^oQ i+aC l i:=rfl
 have h3:=Int.mul_nonneg (Ap l h i gA).1 (Int.le_of_lt (pO (oQ i)))
 omega
theorem aeG (w:World):jJ (w.alloc iI) w.heap.size 0:=⟨_,[],cK _ _,qX _,uJ,qb,by rw[mh];rfl,by simp⟩
theorem ahg:5192296858534827628530496329220096<P 8:=by decide +kernel
theorem Uo (l:List Int)(hl:l.length=25)(iQ:jv l)(hgd:j4 l=true)(a:Addr)(c:Nat)(w:World)(hT:TabS w 1 a c Am 8) :
 Calls prog 27 #[.agg (aD l)] w fun e w'=>∃v',e=.returned (.tuple #[v',.int .i64 0])∧jw w.heap.size w' v' (Cg l)∧w.grownBy w' none:=by
 have P0:=Zd (bO.new w 49 l)
 have G0:=Zd (ak w (.cells (aD l) 49) none)
 have GP:=Zd (fun wr (g:w.grownBy wr none)=>Uj l hl iQ a c wr (jG hT g))
 rw[hgd]at GP
 have NU:=Zd (fun wr (g:w.grownBy wr none)=>wS l hl a c wr (jG hT g))
 have PR:=Zd (JY l hl iQ)
 have HL:=Zd hl
 have HG:=Zd hgd
 clear hT
 go_enter func27,ntmps27
 go_upto_region 1 with fail
 generalize w.alloc (.cells (aD l) 49)=W0 at *
 go_wp2_with (first|refine lA P0.out (by rw[HL.out];exact nS) ?_)
 refine(GP.out _ G0.out).mono ?_
 rintro e w1 ⟨rfl,g1⟩
 have P1:=Zd (P0.out.aH g1)
 have G1:=Zd (aB G0.out g1)
 clear G0 g1 GP
 go_wp2_with (first|refine lA P1.out (by rw[HL.out];exact nS) ?_)
 refine(NU.out _ G1.out).mono ?_
 rintro e w2 ⟨v1,v2,v3,rfl,f1,f2,f3,f4⟩
 rw[List.take_of_length_le (show l.length≤25 by omega),List.take_of_length_le (show Ox.length≤25 by decide)]at f1
 have G2:=Zd (aB G1.out f2)
 have S12:=G1.out.size
 have o1:=(f1.get 0 rfl).base (b':=w.heap.size) gA
 have o2:=(f1.get 1 rfl).base (b':=w.heap.size) gA
 obtain⟨ga,ca,rfl,_,_,ha⟩:=o1.form gA
 obtain⟨gb,cb,rfl,_,_,hb⟩:=o2.form (by decide)
 rw[hl]at o1 ha ⊢
 rw[show Ox.length=25 from rfl]at o2 hb ⊢
 have M0:=Zd (show PkM w w.heap.size w2.heap.size 0 (.slice (some ⟨ga,0,none⟩) 25 ca) (.slice (some ⟨gb,0,none⟩) 25 cb) l (w2.alloc iI)from by
  have gz:=ak w2 iI none
  have b2:=(P1.out.aH f2)
  exact⟨aeG w2,o1.aH gz,o2.aH gz,b2.aH gz,aB G2.out gz,G2.out.size,by have:=b2.lt;omega⟩)
 rw[show iI=.cells #[.bool false,.slice none 0 0] 96 from rfl]at M0
 clear o1 o2 f1 f2 f3 f4 NU G1 S12 hl
 go_wp2_with fail
 generalize w2.alloc (.cells #[.bool false,.slice none 0 0] 96)=W3 at *
 generalize w2.heap.size=bx at *
 go_loopw [8,23] (fun n i wr=>∃m:Nat,i=.int .i64 m∧n=.int .i64 (sW m:Int)∧m≤25∧Hid (PkM w w.heap.size bx (nF l m) (.slice (some ⟨ga,0,none⟩) 25 ca) (.slice (some ⟨gb,0,none⟩) 25 cb) l wr)) (fun _ i _=>25-(intOf i).toNat)
 case atStart=>exact⟨0,rfl,rfl,Nat.zero_le _,M0.out⟩
 case round=>
  obtain⟨m,rfl,rfl,hm,hM⟩:=hrel
  clear M0
  have sw1:=acp m hm
  by_cases wB:m<25
  ·have c1:=hM.out.2.1.cell HL.out.symm m (by rw[HL.out];omega)
   have c2:=hM.out.2.2.1.cell rfl m (by show m<25;omega)
   rw[aeB m wB]at c2
   obtain⟨n1,n2⟩:=agJ l hgd m wB
   obtain⟨n3,n4⟩:=Ap l hgd (m+1) gA
   obtain⟨d1,d2⟩:=acr m wB
   obtain⟨x1,x2⟩:=iQ m
   have i1:(m:Int)<25:=gA
   have EN:=Zs (nF l (m+1)=nF l m*2^oQ m+aC l m) (rfl)
   have ES:=Zs (sW (m+1)=sW m+oQ m) (rfl)
   have P8k:=ahg
   have LS:=Zd (wF bx bx (nF l m) (oQ m) gA wr (bU hM.out.1) hM.out.1 gA gA)
   rw[EN.out]at n3 n4
   have LI:=Zd (fun w' (g:wr.grownBy w' (some bx)) (i:jJ w' bx (nF l m*2^oQ m))=>hM.out.turn g i)
   clear hM iQ
   generalize nF l m*2^oQ m=Y at *
   generalize hx:aC l m=x at *
   generalize hd:oQ m=d at *
   generalize sW m=q at *
   have HX:=Zd hx
   have HD:=Zd hd
   clear hx hd
   have d3:(d:Int)≤6:=gA
   have q3:(q:Int)≤106:=gA
   have dw:IntKind.u64.wrap (d:Int)=d:=by rw[IntKind.wrap_u64];omega
   go_wp2_with fail
   refine LS.out.mono ?_
   rintro e w3 ⟨rfl,i3,g3⟩
   have M3:=Zd (LI.out w3 g3 i3)
   clear LS i3 g3 c1 c2
   have c1:=M3.out.2.1.cell HL.out.symm m (by rw[HL.out];omega)
   rw[HX.out]at c1
   go_wp2_with fail
   refine(eD x _ x1 x2).mono ?_
   rintro e w4 ⟨bw,rfl,hbw,i4,g4⟩
   have M4:=Zd (M3.out.grow g4)
   have AD:=Zd (jP bx bx bw Y x w4 (bU M4.out.1) M4.out.1 i4 gA gA)
   clear i4 g4 c1 hbw
   go_wp2_with fail
   refine AD.out.mono ?_
   rintro e w5 ⟨rfl,i5,g5⟩
   have M5:=Zd (M4.out.turn g5 i5)
   clear i5 g5 AD
   have c2:=M5.out.2.2.1.cell rfl m (by show m<25;omega)
   rw[aeB m wB,HD.out]at c2
   go_wp2_with fail
   go_roundw
   case rel=>exact⟨m+1,by go_num,by rw[ES.out];go_num,gA,by rw[EN.out];exact M5.out⟩
   case measure=>simp[intOf];omega
  obtain rfl:m=25:=gA
  rw[show((25:Nat):Int)=25 from rfl,ahz,show((106:Nat):Int)=106 from rfl]at *
  obtain⟨n1,n2⟩:=Ap l hgd 25 (Nat.le_refl _)
  obtain⟨r1,r2⟩:=Mi l
  obtain⟨q1,q2⟩:=ae1 l hgd
  have EN:=Zs (mP l=(nF l 25*2+uP l)*32) (rfl)
  have P8k:=ahg
  have L1:=Zd (wF bx bx (nF l 25) 1 gA wr (bU hM.out.1) hM.out.1 (by rw[show(2:Int)^1=2 from rfl];omega) (by rw[show(2:Int)^1=2 from rfl];omega))
  rw[show(2:Int)^1=2 from rfl,show((1:Nat):Int)=1 from rfl]at L1
  clear iQ
  generalize nF l 25=Y at *
  generalize uP l=pp at *
  go_wp2_with fail
  refine L1.out.mono ?_
  rintro e w3 ⟨rfl,i3,g3⟩
  have M3:=Zd (hM.out.turn g3 i3)
  clear L1 i3 g3 hM
  have hlP:=HL.out
  go_wp2_with (first|refine lA M3.out.2.2.2.1 (by rw[HL.out];exact nS) ?_)
  refine(PR.out _).mono ?_
  rintro e w4 ⟨rfl,g4⟩
  have M4:=Zd (M3.out.grow g4)
  clear g4 PR hlP
  go_wp2_with fail
  refine(eD pp _ gA gA).mono ?_
  rintro e w5 ⟨bw,rfl,hbw,i5,g5⟩
  have M5:=Zd (M4.out.grow g5)
  have AD:=Zd (jP bx bx bw (Y*2) pp w5 (bU M5.out.1) M5.out.1 i5 gA gA)
  clear i5 g5 hbw
  go_wp2_with fail
  refine AD.out.mono ?_
  rintro e w6 ⟨rfl,i6,g6⟩
  have M6:=Zd (M5.out.turn g6 i6)
  have L5:=Zd (wF bx bx (Y*2+pp) 5 gA w6 (bU i6) i6 (by rw[show(2:Int)^5=32 by decide];rw[EN.out]at q1 q2;omega) (by rw[show(2:Int)^5=32 by decide];rw[EN.out]at q1 q2;omega))
  rw[show(2:Int)^5=32 by decide,show((5:Nat):Int)=5 from rfl,←EN.out]at L5
  clear i6 g6 AD
  go_wp2_with fail
  refine L5.out.mono ?_
  rintro e w7 ⟨rfl,i7,g7⟩
  have M7:=Zd (M6.out.turn g7 i7)
  clear i7 g7 L5 n1 n2 r1 r2
  have X14:=Zs (mP l<256^14) (by rw[show(256:Int)^14=5192296858534827628530496329220096 by decide];exact q2)
  have EP:=Zs (Cg l=zF (mP l)++[zD (zF (mP l)) 14]) (rfl)
  generalize mP l=X at *
  have jg:=fun u=>Gg 14 gA gA u
  obtain⟨Z,hZ⟩:∃Z:List Int,List.replicate (14:Int).toNat 0=Z:=⟨_,rfl⟩
  have ZL:=Zs (Z.length=14) (by rw[←hZ];rfl)
  rw[hZ,show(14:Int).toNat=14 from rfl]at jg
  clear hZ
  have B8:=Zd (lC.new w7 Z)
  have M8:=Zd (M7.out.grow (ak w7 (.cells (lX Z) 5) none))
  have S8:=Zs (w.heap.size≤w7.heap.size) (M7.out.2.2.2.2.1.size)
  go_wp2_with fail
  clear jg
  generalize w7.alloc (.cells (lX Z) 5)=W8 at *
  generalize w7.heap.size=g8 at *
  refine(J2 bx X W8 M8.out.1 q1 X14.out g8 Z B8.out ZL.out).mono ?_
  rintro e w9 ⟨rfl,b9,g9⟩
  have B9:=Zd b9
  have G9:=Zd (aG M8.out.2.2.2.2.1 g9 S8.out)
  clear b9 g9 M8 B8 ZL
  have CH:=Zd (Oz (.slice (some ⟨g8,0,none⟩) 14 14) (zF X) w9 (B9.out.aaF 14 (qp X)) (ahB X) (by rw[qp];omega))
  rw[qp]at CH
  go_wp2_with fail
  refine CH.out.mono ?_
  rintro e w10 ⟨rfl,rfl⟩
  clear CH
  have OB:=Zd (B9.out.own (base:=w.heap.size) 14 (qp X) S8.out gA)
  have LN:=Zd (qp X)
  generalize zD (zF X) 14=z at *
  generalize zF X=L at *
  have SZ:=Zs (w.heap.size≤(w10.alloc (.cells #[.int .u8 z] 5)).heap.size) (by have:=G9.out.size;simp;omega)
  go_wp2_with (at_builtin;refine xV (by rfl) _ _ rfl w.heap.size _ (.slice (some ⟨w10.heap.size,0,none⟩) 1 1) L [z] rfl rfl (OB.out.aH (ak _ _ none)) (adh w10 z) (.inr ⟨_,_,rfl⟩) (by rw[LN.out];simp) SZ.out ?_)
  intro v11 w11 h11 g11
  have O11:=Zd h11
  have G11:=Zd (gU (aB G9.out (ak w10 (.cells #[.int .u8 z] 5) none)) g11 (fun b hb=>(OB.out.lt b hb).1))
  rw[←EP.out]at O11
  clear h11 g11
  go_wp2_with fail
  go_ret2
  exact⟨_,rfl,O11.out,G11.out⟩
theorem o_own:ownKnob prog.godebug=none:=by kernel_rfl
theorem o_laidOut:laidOutB prog=true:=by kernel_rfl
theorem XZ:prog.cellsOf 3=1:=by kernel_rfl
theorem X0:prog.bytesOf 3=8:=by kernel_rfl
theorem aeH {W:World}{base:Nat}{v:Value}(h:Cell.okWide prog W .any base 3 v):∃n:Int,v=.int .i64 n∧-9223372036854775808≤n∧n≤9223372036854775807:=by
 simp only[Cell.okWide,underlying3]at h
 cases v<;>simp_all [Cell.ok,underlying3,IntKind.has,IntKind.min,IntKind.max,IntKind.signed,IntKind.bits]
theorem yB:∀cs:List Value,(∀v∈cs,∃n:Int,v=.int .i64 n∧-9223372036854775808≤n∧n≤9223372036854775807)→∃l:List Int,cs=l.map (Value.int .i64)∧jv l
 | [],_=>⟨[],rfl,fun i=>by simp[aC]⟩
 | c::cs,h=>by
  obtain⟨n,rfl,n1,n2⟩:=h c (List.mem_cons_self ..)
  obtain⟨l,rfl,hl⟩:=yB cs (fun v hv=>h v (List.mem_cons_of_mem _ hv))
  refine⟨n::l,rfl,fun i=>?_⟩
  match i with
  | 0=>exact⟨n1,n2⟩
  | i+1=>exact hl i
theorem open_list {H:Type}{enc:TypeId×Value→H}{W:World}{base:Nat}{v:Value}{d:DataW H}{p:List MemPlace}{ts:List TypeId}{ds:List (DataW H)}{j:Nat}
 (hv:Value.okWide prog W .any base 32 v) (h:DataW.Trod enc prog W 0 (fun _=>true) true 32 v d p) (hsz:(DataW.weightsEach prog ts ds).all (·≤reachBytes)=true) (ht:ts[j]?=some 32) (hd:ds[j]?=some d) :
 ∃l:List Int,aS W v l∧l.length*8≤140737488351232∧jv l∧(v=.slice none 0 0∨∃a c,v=.slice (some a) l.length c):=by
 obtain⟨a0,len,cap,rfl⟩:=okWide_slice underlying32 hv
 obtain⟨fuel,hf⟩:=h
 rcases open_ints underlying32 underlying3 XZ hf with⟨hcs,hx⟩|⟨a,len',cap',zs,hcs,_,hl,hm,hz,hx,bH,hwz⟩
 ·simp[Value.cells]at hcs
  obtain⟨rfl,rfl,rfl⟩:=hcs
  exact⟨[],⟨none,0,rfl,Nat.le_refl _,fun h=>by simp at h⟩,by simp,fun i=>by simp[aC],.inl rfl⟩
 simp[Value.cells]at hcs
 obtain⟨rfl,rfl,rfl⟩:=hcs
 simp only[Prod.mk.injEq]at hx
 obtain⟨rfl,rfl⟩:=hx
 simp at hz
 have hs:=sized_slice hsz ht hd underlying32
 rw[X0]at hs
 simp only[lits,List.length_map,List.length_take,List.length_drop,reachBytes]at hs
 have e:(zs.take len).length=len:=by simp;omega
 refine⟨zs.take len,⟨some a,cap,by rw[e],by rw[e];exact hl,fun _=>⟨a,rfl,fun i hi=>?_⟩⟩,by rw[e];omega,fun i=>?_,.inr ⟨a,cap,by rw[e]⟩⟩
 ·rw[e]at hi
  rw[bH i gA]
  simp[aC,List.getD,List.getElem?_take,hi]
 by_cases hi:i<(zs.take len).length
 ·have hw:=hwz ((zs.take len)[i]) (List.mem_of_mem_take (List.getElem_mem hi))
  have:=bounds_i64 hw
  rw[show aC (zs.take len) i=(zs.take len)[i] by unfold aC;rw[List.getD,List.getElem?_eq_getElem hi];rfl]
  exact this
 rw[dO _ i gA];omega
theorem abE {W:World}{base:Nat}{v:Value}(h:Cell.okWide prog W .any base 4 v):∃b:Bool,v=.bool b:=by
 simp only[Cell.okWide,underlying4]at h
 cases v<;>simp_all [Cell.ok,underlying4]
theorem abF:prog.cellTypes prog.depth 31=some (List.replicate 225 3++[4]):=by kernel_rfl
theorem X8:prog.cellsOf 31=226:=by kernel_rfl
theorem agL:(match prog.underlying 31 with|some (.struct _)|some (.array _ _)=>true|_=>false)=true:=by kernel_rfl
theorem open_enc {W:World}{base:Nat}{v:Value}(h:Value.okWide prog W .any base 31 v):∃(l:List Int) (s:Bool),v=eX l s∧l.length=225∧jv l:=by
 have hu:=agL
 have hr:∃cs,v=.agg cs∧cs.size=prog.cellsOf 31∧Row.okWide prog W .any base 31 cs:=by
  unfold Value.okWide at h
  revert hu
  split at h
  ·intro _;exact h
  ·intro _;exact h
  rename_i h1 h2
  intro hu
  split at hu
  ·rename_i fs e;exact absurd e (h1 fs)
  ·rename_i n e he;exact absurd he (h2 n e)
  cases hu
 obtain⟨cs,rfl,hs,ts,hts,_,bH⟩:=hr
 rw[abF]at hts
 obtain rfl:=Option.some.inj hts
 rw[X8]at hs
 have hl:cs.toList.length=226:=by simpa using hs
 obtain⟨l,ni,hb⟩:=yB (cs.toList.take 225) (fun v hv=>by
  obtain⟨i,hi,rfl⟩:=List.getElem_of_mem hv
  have hi':i<225:=by simp at hi;omega
  rw[List.getElem_take]
  obtain⟨u,hu1,hu2⟩:=bH i cs.toList[i] (by rw[←Array.getElem?_toList,List.getElem?_eq_getElem gA])
  have:u=3:=by
   rw[List.getElem?_append_left (by simp;omega)]at hu1
   exact(List.mem_replicate.1 (List.mem_of_getElem? hu1)).2
  subst this
  exact aeH hu2)
 obtain⟨u,hu1,hu2⟩:=bH 225 (cs.toList[225]'gA) (by rw[←Array.getElem?_toList,List.getElem?_eq_getElem gA])
 have:u=4:=by
  rw[List.getElem?_append_right (by simp),List.length_replicate]at hu1
  simpa using hu1.symm
 subst this
 obtain⟨s,hsb⟩:=abE hu2
 refine⟨l,s,?_,?_,hb⟩
 ·unfold eX bK kE aO
  congr 1
  have e:cs.toList=cs.toList.take 225++[cs.toList[225]'gA]:=by
   apply List.ext_getElem
   ·simp;omega
   intro i h1 h2
   by_cases k:i<225
   ·rw[List.getElem_append_left (by simp;omega),List.getElem_take]
   obtain rfl:i=225:=gA
   rw[List.getElem_append_right (by simp;omega)]
   simp
  rw[hsb,ni]at e
  rw[←e]
 have:=congrArg List.length ni
 simp at this
 omega
theorem tabS_of {H:Type}{enc:TypeId×Value→H}{W:World}{base fuel:Nat}{sp:Nat→Bool}{held:Bool}{x:String}{g:Nat}{zs:List Int}{cs:Array Value}{p:List MemPlace}
 (hg:prog.globalNamed x=some g) (hv:W.var? prog x=some cs) (hd:DataW.trod enc prog W base sp held fuel 32 cs.toList=some (.slice (zs.map fun z=>.lit (.int .i64 z)) [],p)) :
 ∃a c,TabS W g a c zs zs.length:=by
 obtain⟨a,c,hcs,hc,hel⟩:=open_row underlying32 (show prog.cellsOf 3=1 by kernel_rfl) hd
 have bH:=World.var?_cell hg hv 0
 obtain⟨l1⟩:=cs
 simp only at hcs
 subst hcs
 rw[List.length_map]at bH hc
 refine⟨a,c,bH,hc,fun i hi=>?_⟩
 have hd:(zs.map fun z=>(.lit (.int .i64 z):DataW H))[i]?=some (.lit (.int .i64 (zs.getD i 0))):=by
  rw[List.getElem?_map,List.getD_eq_getElem?_getD,List.getElem?_eq_getElem hi];rfl
 obtain⟨v,m,q,hv,hr⟩:=hel i _ hd
 obtain⟨z,e1,e2,_⟩:=DataW.trod_int underlying3 hr
 rw[hv]
 simp at e1 e2
 rw[e1,List.getD_eq_getElem?_getD,e2.1]
theorem tabA_of {H:Type}{enc:TypeId×Value→H}{W:World}{base fuel:Nat}{sp:Nat→Bool}{held:Bool}{x:String}{g n:Nat}{t:TypeId}{zs:List Int}{cs:Array Value}{p:List MemPlace}
 (hg:prog.globalNamed x=some g) (hv:W.var? prog x=some cs) (ht:prog.underlying t=some (.array n 3)) (hct:prog.cellsOf t=n) (hd:DataW.trod enc prog W base sp held fuel t cs.toList=some (Lib.tabData .i64 zs,p)) :
 TabA W g zs zs.length:=fun i hi=>by
 have e:=Lib.cells_of_tab ht underlying3 (show prog.cellsOf 3=1 by kernel_rfl) hct hd
 have k:Lib.TabIs prog W x .i64 zs:=by unfold Lib.TabIs;rw[hv,←e]
 exact k.cell hg i hi
end Go.Proofs.YtbaccaipcimlhaaGreatDoor
