/- Texts put together: PkpA, PkpMath, PkpB, PkpC, PkpE, MemEq, BigD, BigE, BigF, BigG, BigH, BigS, BigT, Clip, LshN, BigV, BigY, BlkI, EncS, OpnMath, LpcE, Syn, Better, BetterB, BtrG, PitB, PitC, PitD. -/
import Derived.Test.YtbaccaipcimlhaaGreatDoorBun1
import Derived.Test.YtbaccaipcimlhaaGreatDoorBun2
import Derived.Laws.OwnMore
import Derived.BigQuiet
import Derived.Deep.QuietTactic
import Derived.Deep.Cut
import Derived.Laws.BitsAllLaws
import Derived.Laws.Bits128
import Derived.Laws.StructEq
import Derived.Laws.AppendOwnNone
import Derived.Deep.RegionHeld3
import Derived.Laws.CopyOwn
import Derived.Test.YtbaccaipcimlhaaGreatDoorProg
import Derived.WalkKit
import Derived.WalkSpells
import Derived.WalkLawsBesides
import Derived.Laws.Externs
import Derived.Shelf.Bits.Mul64
import Derived.RowKit3
import Derived.Defers
import Derived.Recover
namespace Go.Proofs.YtbaccaipcimlhaaGreatDoor
open Go.RowKit
open Tryz
set_option linter.unusedSimpArgs false
set_option linter.unusedVariables false
set_option maxHeartbeats 4000000
set_option maxRecDepth 100000
def lH (base:Nat)(w:World)(v:Value)(n:Nat)(A:List Value):Prop:=w.ownsRow base 84 3 v n A
theorem lH.aH {base:Nat}{w w':World}{v:Value}{n:Nat}{A:List Value}(h:lH base w v n A)(g:w.grownBy w' none):lH base w' v n A:=World.ownsRow.kept h g (by rcases v.ownBlock with _|b<;>simp)
theorem lH.lt {base:Nat}{w:World}{v:Value}{n:Nat}{A:List Value}(h:lH base w v n A)(g:Nat)(hg:v.ownBlock=some g):base≤g∧g<w.heap.size:=World.ownsRow.lt h g hg
theorem lH.base {b b':Nat}{w:World}{v:Value}{n:Nat}{A:List Value}(h:lH b w v n A)(hb:b'≤b):lH b' w v n A:=by
 refine⟨h.1,?_⟩
 rcases h.2 with h|⟨g,cap,cur,e,h1,h2⟩
 ·exact .inl h
 exact .inr ⟨g,cap,cur,e,gA,h2⟩
theorem agS:(prog.info? 84).map (fun i=>(i.zero,i.size,i.bytes))=some (some (.agg #[.pointer none,.int .i64 0,.int .i64 0]),3,24):=by kernel_rfl
theorem KS {y:Nat→Option Bool}{o:Oper}{a:Act}{w:World}{K:Act→World→Prop}{Q:Exit→Act→World→Prop}{E:Prop}(hg:o.guard=none)(s x:Operand)
 (hop:o.op=Op.call { callee:=Callee.builtin Builtin.append,args:=#[s,x],argTypes:=#[79,79] }) (base:Nat) (va:Value) (n:Nat) (A:List Value) (hs:a.eval s=va) (ha:lH base w va n A) (ad:Addr) (m c:Nat) (B:List Value) (hx:a.eval x=.slice (some ad) m c)
 (hB:B.length=m*3) (hc:∀j u,B[j]?=some u→w.cell? (ad.add j)=some u) (h1:∀u∈B,u.oneCell'=true) (hl:n+m≤1000) (qP:base≤w.heap.size)
 (h:∀v' w',lH base w' v' (n+m) (A++B)→w.grownBy w' va.ownBlock→K (a.put o.dst v') w'):if Region.wanted o y=true then Oper.wp prog o a w K Q else E:=by
 have hw:Region.wanted o y=true:=by simp[Region.wanted,hg]
 rw[if_pos hw]
 obtain⟨i0,hi,hz0,hz1,hz2⟩:=info_parts agS
 exact wp_append_own w s x 79 hop base 84 i0 _ 3 24 underlying79 hi hz0 hz1 hz2 rfl (by decide) va n A hs ha ad m c B hx hB hc h1 (by unfold maxLen;omega) gA qP (fun v' w' h2 h3 _=>h v' w' h2 h3)
theorem Cx {ops:Array Oper}{rest:List Oper}{o:Oper}{a:Act}{w:World}{Q:Exit→Act→World→Prop}(hg:o.guard=none)(s x:Operand)
 (hop:o.op=Op.call { callee:=Callee.builtin Builtin.append,args:=#[s,x],argTypes:=#[79,79] }) (base:Nat) (va:Value) (n:Nat) (A:List Value) (hs:a.eval s=va) (ha:lH base w va n A) (ad:Addr) (m c:Nat) (B:List Value) (hx:a.eval x=.slice (some ad) m c)
 (hB:B.length=m*3) (hc:∀j u,B[j]?=some u→w.cell? (ad.add j)=some u) (h1:∀u∈B,u.oneCell'=true) (hl:n+m≤1000) (qP:base≤w.heap.size)
 (h:∀v' w',lH base w' v' (n+m) (A++B)→w.grownBy w' va.ownBlock→wpList prog ops Q rest (a.put o.dst v') w'):wpList prog ops Q (o::rest) a w:=by
 obtain⟨i0,hi,hz0,hz1,hz2⟩:=info_parts agS
 exact wpList_append_own (P:=prog) (w:=w) hg s x 79 hop base 84 i0 _ 3 24 underlying79 hi hz0 hz1 hz2 rfl (by decide) va n A hs ha ad m c B hx hB hc h1 (by unfold maxLen;omega) gA qP (fun v' w' h2 h3 _=>h v' w' h2 h3)
theorem Bq (u:World)(L:List Value)(j:Nat)(x:Value)(h:L[j]?=some x):(u.alloc (.cells L.toArray 84)).cell? ((⟨u.heap.size,0,none⟩:Addr).add j)=some x:=by
 rw[Addr.add_mid,Nat.zero_add,aI (cK u _)]
 simpa using h
theorem aiO (u:World)(base:Nat)(hb:base≤u.heap.size)(L:List Value)(n:Nat)(hn:L.length=n*3)(h:n≤1000):lH base (u.alloc (.cells L.toArray 84)) (.slice (some ⟨u.heap.size,0,none⟩) n n) n L:=
 ⟨hn,.inr ⟨u.heap.size,n,L.toArray,rfl,hb,cK u _,Nat.le_refl _,by unfold maxLen;omega,by simpa using hn,by simp;exact List.take_of_length_le gA⟩⟩
def pU (b i:Nat)(x y:Int):List Value:=[.pointer (some ⟨b,i,none⟩),.int .i64 x,.int .i64 y]
def afB (b i:Nat):List Value:=pU b i (oQ i:Int) (uO i)
def Cy (b:Nat):Nat→List Value
 | 0=>[]
 | n+1=>Cy b n++afB b n
theorem Y6 (b:Nat):∀n,(Cy b n).length=n*3
 | 0=>rfl
 | n+1=>by
  show(Cy b n++afB b n).length=_
  rw[List.length_append,Y6 b n]
  show n*3+3=_
  omega
theorem Y7 (b:Nat):∀n i j,i<n→j<3→(Cy b n)[i*3+j]?=(afB b i)[j]?
 | 0,i,j,hi,_=>gA
 | n+1,i,j,hi,hj=>by
  show(Cy b n++afB b n)[i*3+j]?=_
  have hl:=Y6 b n
  by_cases e:i=n
  ·subst e
   rw[List.getElem?_append_right gA,hl,show i*3+j-i*3=j by omega]
  rw[List.getElem?_append_left gA]
  exact Y7 b n i j gA hj
theorem zW (b i:Nat)(x y:Int):∀u∈pU b i x y,u.oneCell'=true:=by
 intro u hu
 simp[pU]at hu
 rcases hu with rfl|rfl|rfl<;>rfl
def haF (b o:Nat):List Value:=(((((((pU b o 6 59++pU b (o+1) 3 7)++pU b (o+2) 4 9)++pU b (o+3) 4 9)++pU b (o+4) 4 9)++pU b (o+5) 4 9)++(pU b (o+6) 4 15++pU b (o+7) 5 31)))
theorem afC (b o:Nat):∀u∈haF b o,u.oneCell'=true:=by
 intro u hu
 simp only[haF,List.mem_append]at hu
 rcases hu with(((((hu|hu)|hu)|hu)|hu)|hu)|(hu|hu)<;>exact zW _ _ _ _ u hu
theorem adk (b k:Nat)(hk:k<2):Cy b (9+8*k+8)=Cy b (9+8*k)++haF b (9+8*k):=by
 match k,hk with
 | 0,_=>show _=Cy b 9++haF b 9;simp only[Cy,haF,List.append_assoc,List.nil_append];rfl
 | 1,_=>show _=Cy b 17++haF b 17;simp only[Cy,haF,List.append_assoc,List.nil_append];rfl
def widq:List Int:=[6,6,5,5,4,4,3,3]
theorem Y8 (m:Nat)(h:m<8):widq.getD m 0=(oQ (m+1):Int)∧uO (m+1)=2^oQ (m+1)-1∧oQ (m+1)≤6:=by
 have:∀m:Fin 8,widq.getD m.val 0=(oQ (m.val+1):Int)∧uO (m.val+1)=2^oQ (m.val+1)-1∧oQ (m.val+1)≤6:=by decide
 exact this ⟨m,h⟩
theorem adl (x l m:Int)(h1:l≤x)(h2:x≤m)(w:World) :
 Calls prog 163 #[.int .i64 x,.int .i64 l,.int .i64 m] w fun e w'=>e=.returned (.bool true)∧w'=w:=by
 go_enter func163,ntmps163
 go_wp2
 go_ret
 exact⟨rfl,rfl⟩
theorem Wt (i:Nat)(h:i<8)(w:World) :
 Calls prog 162 #[.int .i64 i] w fun e w'=>e=.returned (.bool true)∧w'=w:=by
 go_enter func162,ntmps162
 go_wp2_with fail
 refine(adl _ _ _ gA gA _).mono ?_
 rintro e w1 ⟨rfl,rfl⟩
 go_wp2_with fail
 go_ret
 exact⟨rfl,rfl⟩
theorem Wu (i:Nat)(h:i<8)(w:World)(hW:TabA w 3 widq 8) :
 Calls prog 128 #[.int .i64 i] w fun e w'=>e=.returned (.int .i64 (oQ (i+1):Int))∧w'=w:=by
 have hc:=hW i h
 rw[(Y8 i h).1]at hc
 clear hW
 generalize oQ (i+1)=b at *
 go_enter func128,ntmps128
 go_wp2_with fail
 refine(Wt i h _).mono ?_
 rintro e w1 ⟨rfl,rfl⟩
 go_wp2_with fail
 go_ret
 exact⟨rfl,rfl⟩
theorem adn (b:Nat)(hb:b≤6):IntKind.i64.wrap ((2:Int)^b)=2^b∧(2:Int)^b≤64∧0<(2:Int)^b:=by
 have:∀b:Fin 7,IntKind.i64.wrap ((2:Int)^b.val)=2^b.val∧(2:Int)^b.val≤64∧0<(2:Int)^b.val:=by decide +kernel
 exact this ⟨b,gA⟩
theorem uU (b i:Nat)(n:Nat)(hb:n≤6)(w:World) :
 Calls prog 127 #[.pointer (some ⟨b,i,none⟩),.int .i64 (n:Int)] w fun e w'=>e=.returned (.agg (pU b i (n:Int) (2^n-1)).toArray)∧w.grownBy w' none:=by
 unfold pU
 have hp:=(adn n hb).1
 have h2:=(adn n hb).2
 go_enter func127,ntmps127
 go_wp2_with fail
 refine bodyPost_ret (v:=.agg #[.pointer (some ⟨b,i,none⟩),.int .i64 (n:Int),.int .i64 (2^n-1)]) (by simp[results,results127,go_sem]) rfl ⟨rfl,?_⟩
 first|exact ak _ _ none|done
def haP (b o:Nat):Nat→List Value
 | 0=>pU b o 6 59++pU b (o+1) 3 7
 | k+1=>haP b o k++pU b (o+2+k) 4 9
theorem Wv (b o:Nat)(w:World) :
 Calls prog 129 #[.pointer (some ⟨b,o,none⟩)] w fun e w'=>∃v,e=.returned v∧lH w.heap.size w' v 8 (haF b o)∧w.grownBy w' none:=by
 go_enter func129,ntmps129
 go_upto_region 1 with fail
 refine wp_region_held_drew (S:=dM w) (by kernel_rfl) (aZ _) (fun aj=>?_)
 refine bV 0 aj ?_
 refine bV 1 aj ?_
 refine bV 2 aj ?_
 refine bV 3 aj ?_
 refine bV 4 aj ?_
 refine bV 5 aj ?_
 refine bV 6 aj ?_
 refine fI 7 fun K hK=>?_
 (try simp only[sZ])
 go_simp
 refine(uU b (o+1) 3 gA _).mono ?_
 rintro e w1 ⟨rfl,g1⟩
 have G1:=Zd g1
 clear g1
 unfold pU
 go_wp2_with fail
 refine hK.out _ _ (bD aj G1.out) (fun aj=>?_)
 (try simp only[sZ])
 refine fI 8 fun K hK=>?_
 (try simp only[sZ])
 go_simp
 go_wp2_with fail
 refine hK.out _ _ (dX aj _) (fun aj=>?_)
 (try simp only[sZ])
 refine bV 9 aj ?_
 refine lM ?_
 have M0:=Zs (lH w.heap.size (w1.alloc (.cells (haP b o 0).toArray 84)) (.slice (some ⟨w1.heap.size,0,none⟩) 2 2) 2 (haP b o 0)∧dM w (w1.alloc (.cells (haP b o 0).toArray 84))) (⟨aiO w1 _ (by have:=G1.out.size;exact this) (haP b o 0) 2 rfl gA,aj⟩)
 simp only[haP,pU,List.cons_append,List.nil_append]at M0
 clear G1 aj
 generalize w1.alloc _=W1 at *
 generalize Value.slice (some ⟨w1.heap.size,0,none⟩) 2 2=v1 at *
 go_wp2_with fail
 go_loopw [3,14] (fun v i wr=>∃k:Nat,i=.int .i64 k∧k≤4∧Hid (lH w.heap.size wr v (2+k) (haP b o k)∧dM w wr)) (fun _ i _=>4-(intOf i).toNat)
 case atStart=>exact⟨0,rfl,Nat.zero_le _,M0.out⟩
 case round=>
  obtain⟨k,rfl,hk,hN⟩:=hrel
  clear M0
  by_cases hk4:k<4
  ·have i1:(k:Int)<4:=gA
   go_upto_region 5 with fail
   go_wp2_with (refine Cx rfl _ _ rfl w.heap.size _ (2+k) (haP b o k) rfl (hN.out.1.aH (ak _ _ none)) _ 1 1 (pU b (o+2+k) 4 9) rfl rfl (fun j u hu=>Bq wr _ j u hu) (zW _ _ _ _) gA (by have:=hN.out.2.size;simp;omega) ?_)
   intro v2 w2 o2 g2
   have NN:=Zs (lH w.heap.size w2 v2 (2+(k+1)) (haP b o (k+1))∧dM w w2) (⟨o2,gU (dX hN.out.2 _) g2 (fun c hc=>(hN.out.1.lt c hc).1)⟩)
   clear o2 g2 hN
   go_wp2_with fail
   go_roundw
   case rel=>exact⟨k+1,by go_num,gA,NN.out⟩
   case measure=>simp[intOf];omega
  obtain rfl:k=4:=gA
  rw[show((4:Nat):Int)=4 from rfl]
  go_upto_region 7 with fail
  refine wp_region_held_drew (S:=dM w) (by kernel_rfl) (bD hN.out.2 (bW (aQ _ none))) (fun aj=>?_)
  have OA:=Zd (hN.out.1.aH (bW (aQ wr none)))
  clear hN
  generalize wr.drew=wd at *
  refine bV 0 aj ?_
  refine bV 1 aj ?_
  refine bV 2 aj ?_
  refine bV 3 aj ?_
  refine bV 5 aj ?_
  refine bV 6 aj ?_
  refine bV 7 aj ?_
  refine fI 4 fun K hK=>?_
  (try simp only[sZ])
  go_simp
  refine(uU b (o+6) 4 gA _).mono ?_
  rintro e w2 ⟨rfl,g2⟩
  have G2:=Zd g2
  clear g2
  unfold pU
  go_wp2_with fail
  refine hK.out _ _ (bD aj G2.out) (fun aj=>?_)
  (try simp only[sZ])
  replace OA:=Zd (OA.out.aH G2.out)
  clear G2
  refine fI 8 fun K hK=>?_
  (try simp only[sZ])
  go_simp
  refine(uU b (o+7) 5 gA _).mono ?_
  rintro e w3 ⟨rfl,g3⟩
  have G3:=Zd g3
  clear g3
  unfold pU
  go_wp2_with fail
  refine hK.out _ _ (bD aj G3.out) (fun aj=>?_)
  (try simp only[sZ])
  replace OA:=Zd (OA.out.aH G3.out)
  clear G3
  refine fI 9 fun K hK=>?_
  (try simp only[sZ])
  go_simp
  go_wp2_with fail
  refine hK.out _ _ (dX aj _) (fun aj=>?_)
  (try simp only[sZ])
  replace OA:=Zd (OA.out.aH (ak w3 (.cells #[.pointer (some ⟨b,o+6,none⟩),.int .i64 4,.int .i64 15,.pointer (some ⟨b,o+7,none⟩),.int .i64 5,.int .i64 31] 84) none))
  refine fI 10 fun K hK=>?_
  (try simp only[sZ])
  refine KS rfl _ _ rfl w.heap.size _ (2+4) (haP b o 4) rfl OA.out _ 2 2 (pU b (o+6) 4 15++pU b (o+7) 5 31) rfl rfl (fun j u hu=>Bq w3 _ j u hu) (fun u hu=>by rcases List.mem_append.1 hu with hu|hu<;>exact zW _ _ _ _ u hu) gA (by have:=aj.size;simpa using this) ?_
  intro v4 w4 o4 g4
  have O4:=Zd o4
  clear o4
  refine hK.out _ _ (gU aj g4 (fun c hc=>(OA.out.lt c hc).1)) (fun aj=>?_)
  (try simp only[sZ])
  clear g4 OA
  refine bV 11 aj ?_
  refine lM ?_
  have FI:=Zs (lH w.heap.size w4 v4 8 (haF b o)∧w.grownBy w4 none) (⟨O4.out,aj⟩)
  clear aj
  go_wp2_with fail
  go_ret
  exact⟨_,rfl,FI.out.1,FI.out.2⟩
theorem afD {base:Nat}{w:World}{v:Value}{n:Nat}{A:List Value}(h:lH base w v n A)(hn:0<n):∃ad c,v=.slice (some ad) n c∧∀j u,A[j]?=some u→w.cell? (ad.add j)=some u:=by
 rcases id h.2 with⟨_,h0⟩|⟨g,cap,cur,hv,hb,hg,_⟩
 ·omega
 subst hv
 refine⟨⟨g,0,none⟩,cap,rfl,fun j u hu=>?_⟩
 have hj:j<n*3:=by
  by_cases hj:j<n*3
  ·exact hj
  rw[List.getElem?_eq_none (by rw[h.1];omega)]at hu;cases hu
 rw[Addr.add_mid,Nat.zero_add,World.ownsRow.cellAt h j hj]
 exact hu
theorem zX (b:Nat)(w:World)(hT:TabA w 3 widq 8) :
 Calls prog 44 #[.pointer (some ⟨b,0,none⟩)] w fun e w'=>∃v,e=.returned v∧lH w.heap.size w' v 25 (Cy b 25)∧w.grownBy w' none:=by
 have HT:=Zd hT
 clear hT
 have M0:=Zs (lH w.heap.size (w.alloc (.cells (Cy b 1).toArray 84)) (.slice (some ⟨w.heap.size,0,none⟩) 1 1) 1 (Cy b 1)∧dM w (w.alloc (.cells (Cy b 1).toArray 84))) (⟨aiO w _ (Nat.le_refl _) (Cy b 1) 1 rfl gA,ak _ _ none⟩)
 rw[show(Cy b 1).toArray=#[.pointer (some ⟨b,0,none⟩),.int .i64 2,.int .i64 2]from rfl]at M0
 go_enter func44,ntmps44
 go_wp2_with fail
 generalize w.alloc _=W1 at *
 generalize Value.slice (some ⟨w.heap.size,0,none⟩) 1 1=v1 at *
 go_loopw [3,11] (fun v i wr=>∃m:Nat,i=.int .i64 m∧m≤8∧Hid (lH w.heap.size wr v (m+1) (Cy b (m+1))∧dM w wr)) (fun _ i _=>8-(intOf i).toNat)
 case atStart=>exact⟨0,rfl,Nat.zero_le _,M0.out⟩
 case round=>
  obtain⟨m,rfl,hm,hN⟩:=hrel
  clear M0
  by_cases vD:m<8
  ·have i1:(m:Int)<8:=gA
   have WM:=Zd (Y8 m vD)
   go_upto_region 5 with fail
   refine wp_region_held_drew (S:=dM w) (by kernel_rfl) (bD hN.out.2 (bW (aQ _ none))) (fun aj=>?_)
   have OA:=Zd (hN.out.1.aH (bW (aQ wr none)))
   clear hN
   generalize wr.drew=wd at *
   refine bV 0 aj ?_
   refine bV 1 aj ?_
   refine bV 2 aj ?_
   refine bV 3 aj ?_
   refine bV 4 aj ?_
   refine bV 5 aj ?_
   refine bV 6 aj ?_
   refine fI 7 fun K hK=>?_
   (try simp only[sZ])
   go_simp
   refine(Wu m vD _ (gF HT.out aj)).mono ?_
   rintro e w1 ⟨rfl,rfl⟩
   go_wp2_with fail
   refine hK.out _ _ aj (fun aj=>?_)
   (try simp only[sZ])
   refine fI 8 fun K hK=>?_
   (try simp only[sZ])
   go_simp
   refine(uU b (1+m) (oQ (m+1)) (by have:=WM.out;omega) _).mono ?_
   rintro e w2 ⟨rfl,g2⟩
   have G2:=Zd g2
   clear g2
   unfold pU
   go_wp2_with fail
   refine hK.out _ _ (bD aj G2.out) (fun aj=>?_)
   (try simp only[sZ])
   replace OA:=Zd (OA.out.aH G2.out)
   clear G2
   refine fI 9 fun K hK=>?_
   (try simp only[sZ])
   go_simp
   go_wp2_with fail
   refine hK.out _ _ (dX aj _) (fun aj=>?_)
   (try simp only[sZ])
   replace OA:=Zd (OA.out.aH (ak w2 (.cells #[.pointer (some ⟨b,1+m,none⟩),.int .i64 (oQ (m+1):Int),.int .i64 (2^oQ (m+1)-1)] 84) none))
   refine fI 10 fun K hK=>?_
   (try simp only[sZ])
   refine KS rfl _ _ rfl w.heap.size _ (m+1) (Cy b (m+1)) rfl OA.out _ 1 1 (pU b (1+m) (oQ (m+1):Int) (2^oQ (m+1)-1)) rfl rfl (fun j u hu=>Bq w2 _ j u hu) (zW _ _ _ _) gA (by have:=aj.size;simpa using this) ?_
   intro v4 w4 o4 g4
   have O4:=Zd o4
   clear o4
   refine hK.out _ _ (gU aj g4 (fun c hc=>(OA.out.lt c hc).1)) (fun aj=>?_)
   (try simp only[sZ])
   clear g4 OA
   refine bV 11 aj ?_
   refine lM ?_
   have NN:=Zs (lH w.heap.size w4 v4 (m+1+1) (Cy b (m+1+1))∧dM w w4) (⟨by have q:=O4.out;rw[←WM.out.2.1,Nat.add_comm 1 m]at q;exact q,aj⟩)
   clear aj
   go_wp2_with fail
   go_roundw
   case rel=>exact⟨m+1,by go_num,gA,NN.out⟩
   case measure=>simp[intOf];omega
  obtain rfl:m=8:=gA
  rw[show((8:Nat):Int)=8 from rfl]
  clear HT
  go_wp2_with fail
  go_loopw [3,26] (fun v i wr=>∃k:Nat,i=.int .i64 k∧k≤2∧Hid (lH w.heap.size wr v (9+8*k) (Cy b (9+8*k))∧dM w wr)) (fun _ i _=>2-(intOf i).toNat)
  case atStart=>exact⟨0,rfl,Nat.zero_le _,hN.out⟩
  case round=>
   obtain⟨k,rfl,hk,hN2⟩:=hrel
   clear hN
   by_cases hk2:k<2
   ·have i2:(k:Int)<2:=gA
    go_wp2_with fail
    refine(Wv b (9+k*8) wr).mono ?_
    rintro e w2 ⟨v2,rfl,o2,g2⟩
    rw[Nat.mul_comm k 8]at o2
    obtain⟨ad,cp,rfl,aK⟩:=afD o2 gA
    have NO:=Zd (hN2.out.1.aH g2)
    have NG:=Zd (bD hN2.out.2 g2)
    have HC:=Zd aK
    clear o2 g2 hN2 aK
    go_wp2_with (refine Cx rfl _ _ rfl w.heap.size _ (9+8*k) (Cy b (9+8*k)) rfl NO.out ad 8 cp (haF b (9+8*k)) rfl rfl HC.out (afC _ _) gA NG.out.size ?_)
    intro v4 w4 o4 g4
    have NN:=Zs (lH w.heap.size w4 v4 (9+8*(k+1)) (Cy b (9+8*(k+1)))∧dM w w4) (⟨by rw[show 9+8*(k+1)=9+8*k+8 by omega,adk b k hk2];exact o4,gU NG.out g4 (fun c hc=>(NO.out.lt c hc).1)⟩)
    clear o4 g4
    go_wp2_with fail
    go_roundw
    case rel=>exact⟨k+1,by go_num,gA,NN.out⟩
    case measure=>simp[intOf];omega
   obtain rfl:k=2:=gA
   rw[show((2:Nat):Int)=2 from rfl]
   go_wp2_with fail
   go_ret
   exact⟨_,rfl,hN2.out.1,hN2.out.2⟩
theorem Gh (x m h l:Nat)(hl:l<256)(hm:m=256*h+l):x &&& m=256*(x / 256 &&& h)+(x % 256 &&& l):=by
 have e1:(x &&& m) / 256=(x / 256 &&& h):=by
  have:=Nat.and_div_two_pow (a:=x) (b:=m) (n:=8)
  rw[show(2:Nat)^8=256 from rfl]at this
  rw[this,hm,show(256*h+l) / 256=h by omega]
 have e2:(x &&& m) % 256=(x % 256 &&& l):=by
  have:=Nat.and_mod_two_pow (a:=x) (b:=m) (n:=8)
  rw[show(2:Nat)^8=256 from rfl]at this
  rw[this,hm,show(256*h+l) % 256=l by omega]
 omega
def Nk (c:Nat):Nat→Nat
 | 0=>0
 | k+1=>256*Nk c k+c
def stA (k x:Nat):Nat:=(x / 2 &&& Nk 85 k)+(x &&& Nk 85 k)
def O_ (k x:Nat):Nat:=(x / 4 &&& Nk 51 k)+(x &&& Nk 51 k)
def stC (k x:Nat):Nat:=x / 16+x &&& Nk 15 k
def a8 (l:Nat):Nat:=(l / 2 &&& 85)+(l &&& 85)
def b8 (l:Nat):Nat:=(l / 4 &&& 51)+(l &&& 51)
def c8 (l:Nat):Nat:=l / 16+l &&& 15
def Rb (l:Nat):Nat:=l % 2+l / 2 % 2+l / 4 % 2+l / 8 % 2+l / 16 % 2+l / 32 % 2+l / 64 % 2+l / 128 % 2
theorem aiP (l:Nat)(h:l<256):a8 l<256:=by
 have:∀l:Fin 256,a8 l.val<256:=by decide +kernel
 exact this ⟨l,h⟩
theorem agT (l:Nat)(h:l<256):b8 l<112∧b8 l % 16≤6:=by
 have:∀l:Fin 256,b8 l.val<112∧b8 l.val % 16≤6:=by decide +kernel
 exact this ⟨l,h⟩
theorem zY (l:Nat)(h:l<256):c8 (b8 (a8 l))=Rb l∧Rb l≤8:=by
 have:∀l:Fin 256,c8 (b8 (a8 l.val))=Rb l.val∧Rb l.val≤8:=by decide +kernel
 exact this ⟨l,h⟩
theorem aiQ (l:Nat)(h:l<256):l &&& 85=l % 128 &&& 85:=by
 have:∀l:Fin 256,l.val &&& 85=l.val % 128 &&& 85:=by decide +kernel
 exact this ⟨l,h⟩
theorem aiR (l:Nat)(h:l<256):l &&& 51=l % 64 &&& 51:=by
 have:∀l:Fin 256,l.val &&& 51=l.val % 64 &&& 51:=by decide +kernel
 exact this ⟨l,h⟩
theorem agU (l:Nat)(h:l<256):l &&& 15=l % 16:=by
 have:∀l:Fin 256,l.val &&& 15=l.val % 16:=by decide +kernel
 exact this ⟨l,h⟩
theorem ado (k x:Nat):stA (k+1) x=256*stA k (x / 256)+a8 (x % 256):=by
 unfold stA a8
 rw[Gh (x / 2) (Nk 85 (k+1)) (Nk 85 k) 85 (by decide) rfl,Gh x (Nk 85 (k+1)) (Nk 85 k) 85 (by decide) rfl]
 rw[show x / 2 / 256=x / 256 / 2 by omega,aiQ (x / 2 % 256) gA,show x / 2 % 256 % 128=x % 256 / 2 by omega]
 omega
theorem Rf (k x:Nat):O_ (k+1) x=256*O_ k (x / 256)+b8 (x % 256):=by
 unfold O_ b8
 rw[Gh (x / 4) (Nk 51 (k+1)) (Nk 51 k) 51 (by decide) rfl,Gh x (Nk 51 (k+1)) (Nk 51 k) 51 (by decide) rfl]
 rw[show x / 4 / 256=x / 256 / 4 by omega,aiR (x / 4 % 256) gA,show x / 4 % 256 % 64=x % 256 / 4 by omega]
 omega
theorem adp (k h l:Nat)(hl:l<112)(h6:l % 16≤6)(hh:h % 16≤6):stC (k+1) (256*h+l)=256*stC k h+c8 l:=by
 unfold stC c8
 rw[Gh _ (Nk 15 (k+1)) (Nk 15 k) 15 (by decide) rfl]
 have e1:((256*h+l) / 16+(256*h+l)) / 256=h / 16+h:=gA
 rw[e1,agU _ gA,agU (l / 16+l) gA]
 have e2:((256*h+l) / 16+(256*h+l)) % 256 % 16=(l / 16+l) % 16:=gA
 omega
def onF:Nat→Nat→Nat
 | 0,_=>0
 | k+1,x=>256*onF k (x / 256)+Rb (x % 256)
theorem ak8 (k x:Nat):O_ k x % 16≤6:=by
 cases k with
 | zero=>show((x / 4 &&& 0)+(x &&& 0)) % 16≤6;simp
 | succ k=>
  rw[Rf]
  have:=agT (x % 256) gA
  omega
theorem adq:∀k x,stC k (O_ k (stA k x))=onF k x
 | 0,x=>by show _ &&& 0=0;simp
 | k+1,x=>by
  have ha:=aiP (x % 256) gA
  have hb:=agT (a8 (x % 256)) ha
  have hc:=zY (x % 256) gA
  rw[ado,Rf]
  rw[show(256*stA k (x / 256)+a8 (x % 256)) / 256=stA k (x / 256) by omega,show(256*stA k (x / 256)+a8 (x % 256)) % 256=a8 (x % 256) by omega]
  rw[adp k _ _ hb.1 hb.2 (ak8 k _),adq k,hc.1]
  rfl
def onS:Nat→Nat→Nat
 | 0,_=>0
 | k+1,x=>onS k (x / 256)+Rb (x % 256)
theorem ahQ (x:Nat):∃z u v,onF 8 x+onF 8 x / 256=z∧z+z / 65536=u∧u+u / 4294967296=v∧onF 8 x<2^62∧z<2^62∧u<2^62∧v<2^62∧v % 128=onS 8 x:=by
 have b0:=(zY (x % 256) gA).2
 have b1:=(zY (x / 256 % 256) gA).2
 have b2:=(zY (x / 256 / 256 % 256) gA).2
 have b3:=(zY (x / 256 / 256 / 256 % 256) gA).2
 have b4:=(zY (x / 256 / 256 / 256 / 256 % 256) gA).2
 have b5:=(zY (x / 256 / 256 / 256 / 256 / 256 % 256) gA).2
 have b6:=(zY (x / 256 / 256 / 256 / 256 / 256 / 256 % 256) gA).2
 have b7:=(zY (x / 256 / 256 / 256 / 256 / 256 / 256 / 256 % 256) gA).2
 simp only[onF,onS]
 generalize Rb (x % 256)=c0 at *
 generalize Rb (x / 256 % 256)=c1 at *
 generalize Rb (x / 256 / 256 % 256)=c2 at *
 generalize Rb (x / 256 / 256 / 256 % 256)=c3 at *
 generalize Rb (x / 256 / 256 / 256 / 256 % 256)=c4 at *
 generalize Rb (x / 256 / 256 / 256 / 256 / 256 % 256)=c5 at *
 generalize Rb (x / 256 / 256 / 256 / 256 / 256 / 256 % 256)=c6 at *
 generalize Rb (x / 256 / 256 / 256 / 256 / 256 / 256 / 256 % 256)=c7 at *
 refine⟨_,_,_,rfl,rfl,rfl,?_⟩
 rw[show(256*(256*(256*(256*(256*(256*(256*(256*0+c7)+c6)+c5)+c4)+c3)+c2)+c1)+c0) / 256=256*(256*(256*(256*(256*(256*c7+c6)+c5)+c4)+c3)+c2)+c1 by omega]
 rw[show(256*(256*(256*(256*(256*(256*(256*(256*0+c7)+c6)+c5)+c4)+c3)+c2)+c1)+c0+(256*(256*(256*(256*(256*(256*c7+c6)+c5)+c4)+c3)+c2)+c1)) / 65536=256*(256*(256*(256*(256*c7+(c6+c7))+(c5+c6))+(c4+c5))+(c3+c4))+(c2+c3) by omega]
 rw[show(256*(256*(256*(256*(256*(256*(256*(256*0+c7)+c6)+c5)+c4)+c3)+c2)+c1)+c0+(256*(256*(256*(256*(256*(256*c7+c6)+c5)+c4)+c3)+c2)+c1)+(256*(256*(256*(256*(256*c7+(c6+c7))+(c5+c6))+(c4+c5))+(c3+c4))+(c2+c3))) / 4294967296=256*(256*(256*c7+(c6+c7))+(c5+c6+c7))+(c4+c5+c6+c7) by omega]
 refine⟨gA,gA,gA,gA,?_⟩
 omega
theorem agV (x:Nat):oU (x:Int) 8=(Rb (x % 256):Int):=by
 show 0+(x:Int) / 1 % 2+(x:Int) / 2 % 2+(x:Int) / 4 % 2+(x:Int) / 8 % 2+(x:Int) / 16 % 2+(x:Int) / 32 % 2+(x:Int) / 64 % 2+(x:Int) / 128 % 2=_
 unfold Rb
 omega
theorem pE (x:Nat):∀n:Nat,oU (x:Int) (n+8)=(Rb (x % 256):Int)+oU ((x / 256:Nat):Int) n
 | 0=>by rw[Nat.zero_add,agV];show _=_+(0:Int);omega
 | n+1=>by
  show oU (x:Int) (n+8)+(x:Int) / 2^(n+8) % 2=_+(oU ((x / 256:Nat):Int) n+((x / 256:Nat):Int) / 2^n % 2)
  rw[pE x n,Nat.add_comm n 8,Int.pow_add,←Int.ediv_ediv_of_nonneg (by decide)]
  rw[show(x:Int) / 2^8=((x / 256:Nat):Int) by rw[show(2:Int)^8=256 by decide];omega]
  omega
theorem afE (x:Nat):oU (x:Int) 64=(onS 8 x:Int):=by
 rw[show 64=56+8 from rfl,pE,show 56=48+8 from rfl,pE,show 48=40+8 from rfl,pE,show 40=32+8 from rfl,pE,show 32=24+8 from rfl,pE,show 24=16+8 from rfl,pE,show 16=8+8 from rfl,pE,agV]
 simp only[onS]
 omega
theorem afF (x:Int)(h0:0≤x)(h1:x<9223372036854775808):oU x 64=oU x 63:=by
 show oU x 63+x / 2^63 % 2=oU x 63
 rw[show(2:Int)^63=9223372036854775808 by decide]
 omega
def Gi (n:Nat)(N:Int)(k:Nat):Int:=if 8*(k+1)≤n then N / 2^(n-8*(k+1)) % 256 else if 8*k≤n then N % 2^(n-8*k)*2^(8-(n-8*k))else 0
def Lay (n:Nat)(N:Int)(B:List Int):Prop:=B.length=15∧∀k,k<15→aC B k=Gi n N k
theorem adr:Lay 0 0 (ay 15):=⟨au 15,fun k hk=>by
 rw[iZ]
 unfold Gi
 rw[if_neg gA]
 split
 ·simp
 rfl⟩
theorem afG (N c:Int)(c0:0≤c)(c1:c<2)(m:Nat):(2*N+c) / 2^(m+1)=N / 2^m:=by
 rw[Int.pow_succ,Int.mul_comm (2^m) 2,←Int.ediv_ediv_of_nonneg (by decide),show(2*N+c) / 2=N by omega]
theorem Y9 (N c:Int)(c0:0≤c)(c1:c<2)(m:Nat):(2*N+c) % 2^(m+1)=2*(N % 2^m)+c:=by
 have hp:=pO m
 have e:=Int.mul_ediv_add_emod N (2^m)
 have b0:=Int.emod_nonneg N (Int.ne_of_gt hp)
 have b1:=Int.emod_lt_of_pos N hp
 rw[Int.pow_succ]
 generalize (2:Int)^m=P at *
 generalize N % P=r at *
 generalize N / P=q at *
 rw[show 2*N+c=2*r+c+(P*2)*q by rw[←e,Int.mul_add,Int.mul_comm P 2,Int.mul_assoc];omega]
 rw[Int.add_mul_emod_self_left]
 exact Int.emod_eq_of_lt gA gA
theorem ahR (n:Nat)(N:Int)(hn:n<120):∃y,Gi n N (n / 8)=y*2^(8-n % 8)∧0≤y∧y<2^(n % 8):=by
 unfold Gi
 rw[if_neg gA,if_pos gA,show n-8*(n / 8)=n % 8 by omega]
 exact⟨_,rfl,Int.emod_nonneg _ (Int.ne_of_gt (pO _)),Int.emod_lt_of_pos _ (pO _)⟩
theorem ads {n:Nat}{N:Int}{B:List Int}(h:Lay n N B)(hn:n<120)(c:Int)(c0:0≤c)(c1:c<2):Lay (n+1) (2*N+c) (B.set (n / 8) (aC B (n / 8)+c*2^(7-n % 8))):=by
 obtain⟨hl,hb⟩:=h
 refine⟨by rw[List.length_set,hl],fun k hk=>?_⟩
 rw[Mk _ _ _ gA]
 by_cases e:k=n / 8
 ·subst e
  rw[if_pos rfl,hb _ hk]
  unfold Gi
  rw[if_neg gA,if_pos gA,show n-8*(n / 8)=n % 8 by omega]
  by_cases e7:n % 8=7
  ·rw[if_pos gA,e7,show n+1-8*(n / 8+1)=0 by omega]
   rw[show(2:Int)^0=1 from rfl,Int.ediv_one,show(256:Int)=2^(7+1)from rfl,Y9 N c c0 c1]
   rw[show(2:Int)^(8-7)=2 from rfl]
   omega
  rw[if_neg gA,if_pos gA,show n+1-8*(n / 8)=n % 8+1 by omega,Y9 N c c0 c1]
  rw[show 8-n % 8=(7-n % 8)+1 by omega,show 8-(n % 8+1)=7-n % 8 by omega,Int.pow_succ,Int.add_mul]
  rw[Int.mul_comm (2^(7-n % 8)) 2,←Int.mul_assoc,Int.mul_comm (N % 2^(n % 8)) 2]
 rw[if_neg e,hb _ hk]
 unfold Gi
 by_cases e1:8*(k+1)≤n
 ·rw[if_pos e1,if_pos gA,show n+1-8*(k+1)=n-8*(k+1)+1 by omega,afG N c c0 c1]
 rw[if_neg e1,if_neg gA,if_neg gA]
 by_cases e2:8*(k+1)≤n+1
 ·omega
 by_cases e3:8*k≤n+1
 ·rw[if_pos e3,show n+1-8*k=0 by omega,show(2:Int)^0=1 from rfl,Int.emod_one,Int.zero_mul]
 rw[if_neg e3]
def Ju (N:Int)(w:Nat)(x:Int)(j:Nat):Int:=N*2^j+x / 2^(w-j)
theorem aaI (N:Int)(w:Nat)(x:Int)(h0:0≤x)(h1:x<2^w):Ju N w x 0=N:=by
 unfold Ju
 rw[show(2:Int)^0=1 from rfl,Nat.sub_zero,Int.ediv_eq_zero_of_lt h0 h1]
 omega
theorem aaJ (N:Int)(w:Nat)(x:Int)(j:Nat)(hj:j<w):Ju N w x (j+1)=2*Ju N w x j+x / 2^(w-1-j) % 2:=by
 unfold Ju
 rw[Int.pow_succ,show w-j=(w-1-j)+1 by omega,show w-(j+1)=w-1-j by omega,Int.pow_succ,←Int.ediv_ediv_of_nonneg (Int.le_of_lt (pO _)),Int.mul_add]
 rw[←Int.mul_assoc,Int.mul_comm (N*2^j) 2,←Int.mul_assoc]
 generalize x / 2^(w-1-j)=y
 omega
theorem adt (N:Int)(w:Nat)(x:Int):Ju N w x w=N*2^w+x:=by
 unfold Ju
 rw[Nat.sub_self,show(2:Int)^0=1 from rfl,Int.ediv_one]
theorem afH (n:Nat)(N:Int)(k:Nat):0≤Gi n N k∧Gi n N k<256:=by
 unfold Gi
 split
 ·omega
 split
 ·next h1 h2=>
  have hp:=pO (n-8*k)
  have b0:=Int.emod_nonneg N (Int.ne_of_gt hp)
  have b1:=Int.emod_lt_of_pos N hp
  have hq:=pO (8-(n-8*k))
  have e:(2:Int)^(n-8*k)*2^(8-(n-8*k))=256:=by
   rw[←Int.pow_add,show n-8*k+(8-(n-8*k))=8 by omega];rfl
  refine⟨Int.mul_nonneg b0 (Int.le_of_lt hq),?_⟩
  rw[←e]
  exact Int.mul_lt_mul_of_pos_right b1 hq
 omega
theorem Lay.bd {n:Nat}{N:Int}{B:List Int}(h:Lay n N B)(k:Nat):0≤aC B k∧aC B k<256:=by
 by_cases hk:k<15
 ·rw[h.2 k hk];exact afH n N k
 rw[dO _ k (by rw[h.1];omega)];omega
theorem orF:∀r:Fin 8,∀x:Fin 256,∀c:Fin 2,(x.val:Int) % 2^(8-r.val)=0→bits BinOp.or IntKind.u8 (x.val:Int) ((c.val:Int)*2^(7-r.val))=(x.val:Int)+(c.val:Int)*2^(7-r.val):=by decide +kernel
theorem adu {n:Nat}{N:Int}{B:List Int}(h:Lay n N B)(hn:n<120)(c:Int)(c0:0≤c)(c1:c<2):bits BinOp.or IntKind.u8 (aC B (n / 8)) (c*2^(7-n % 8))=aC B (n / 8)+c*2^(7-n % 8):=by
 have hb:=h.bd (n / 8)
 have hy:aC B (n / 8) % 2^(8-n % 8)=0:=by
  rw[h.2 _ gA]
  obtain⟨y,e,_,_⟩:=ahR n N hn
  rw[e,Int.mul_emod_left]
 have:=orF ⟨n % 8,gA⟩ ⟨(aC B (n / 8)).toNat,gA⟩ ⟨c.toNat,gA⟩
 simp only[Int.toNat_of_nonneg hb.1,Int.toNat_of_nonneg c0]at this
 exact this hy
theorem ak9:∀r:Fin 8,∀c:Fin 2,(c.val:Int)*2^r.val % 256=(c.val:Int)*2^r.val∧(c.val:Int)*2^r.val≤128:=by decide +kernel
theorem afI (r:Nat)(hr:r<8)(c:Int)(c0:0≤c)(c1:c<2):c*2^r % 256=c*2^r∧0≤c*2^r∧c*2^r≤128:=by
 have:=ak9 ⟨r,hr⟩ ⟨c.toNat,gA⟩
 simp only[Int.toNat_of_nonneg c0]at this
 exact⟨this.1,Int.mul_nonneg c0 (Int.le_of_lt (pO r)),this.2⟩
theorem aiS:∀q:Fin 256,bits BinOp.and IntKind.i64 (q.val:Int) 1=(q.val:Int) % 2:=by decide +kernel
theorem afJ:∀h:Fin 16,∀q:Fin 256,bits BinOp.and IntKind.i64 (256*(h.val:Int)+(q.val:Int)) 255=(q.val:Int):=by decide +kernel
theorem aiT (x:Int)(h0:0≤x)(h1:x<256):bits BinOp.and IntKind.i64 x 1=x % 2:=by
 have:=aiS ⟨x.toNat,gA⟩
 simpa only[Int.toNat_of_nonneg h0] using this
theorem afK (x:Int)(h0:0≤x)(h1:x<4096):bits BinOp.and IntKind.i64 x 255=x % 256:=by
 have:=afJ ⟨(x / 256).toNat,gA⟩ ⟨(x % 256).toNat,gA⟩
 simp only[Int.toNat_of_nonneg (show 0≤x / 256 by omega),Int.toNat_of_nonneg (show 0≤x % 256 by omega)]at this
 rw[show 256*(x / 256)+x % 256=x by omega]at this
 exact this
theorem ahS (x:Int)(h0:0≤x)(h1:x<256)(m:Nat):0≤x / 2^m∧x / 2^m<256:=by
 have hp:=pO m
 refine⟨Int.ediv_nonneg h0 (Int.le_of_lt hp),?_⟩
 have:=Int.ediv_le_self (2^m) h0
 omega
theorem ahT {N:Int}{B:List Int}(h:Lay 112 N B)(k:Nat)(hk:k<14):aC B k=byN N k:=by
 rw[h.2 k gA]
 unfold Gi byN
 rw[if_pos gA,show(256:Int)=2^8 from rfl,←Int.pow_mul,show 112-8*(k+1)=8*(13-k) by omega]
theorem afL {N:Int}{B:List Int}(h:Lay 112 N B):zD B 14=zD (zF N) 14:=by
 unfold zD
 rw[qV B (zF N) 14 (fun i hi=>by rw[ahT h i hi,zG _ _ hi])]
theorem afM {l:List Int}{B:List Int}(h:Lay 120 (mP l*2^8+zD (zF (mP l)) 14) B):B=Cg l:=by
 have s0:0≤zD (zF (mP l)) 14∧zD (zF (mP l)) 14<256:=by unfold zD;omega
 have t1:=dJ (p:=aC (Cg l)) h.1 (fun k hk=>by
  rw[h.2 k hk]
  unfold Gi
  rw[if_pos gA]
  by_cases e:k=14
  ·subst e
   rw[show 120-8*(14+1)=0 from rfl,show(2:Int)^0=1 from rfl,Int.ediv_one,show(2:Int)^8=256 from rfl,ahC]
   have e2:zD (Cg l) 14=zD (zF (mP l)) 14:=by
    unfold zD
    rw[qV (Cg l) (zF (mP l)) 14 (fun i hi=>by rw[Vg l i hi,zG _ _ hi])]
   rw[e2]
   omega
  rw[Vg l k gA,show 120-8*(k+1)=8+8*(13-k) by omega,Int.pow_add,←Int.ediv_ediv_of_nonneg (by decide),show(2:Int)^8=256 from rfl,show(mP l*256+zD (zF (mP l)) 14) / 256=mP l by omega]
  unfold byN
  rw[show(256:Int)=2^8 from rfl,←Int.pow_mul])
 have t2:=dJ (p:=aC (Cg l)) (ae3 l) (fun i _=>rfl)
 rw[t1,←t2]
theorem afN (i:Nat):sW (i+1)=sW i+oQ i:=rfl
theorem afO (x:Int)(h0:0≤x)(h1:x<9223372036854775808):∃a b y z u v:Int,
 bits BinOp.and IntKind.u64 (x / 2) 6148914691236517205+bits BinOp.and IntKind.u64 x 6148914691236517205=a∧0≤a∧a<18446744073709551616∧
 bits BinOp.and IntKind.u64 (a / 4) 3689348814741910323+bits BinOp.and IntKind.u64 a 3689348814741910323=b∧0≤b∧b<18446744073709551616∧
 b / 16+b<18446744073709551616∧bits BinOp.and IntKind.u64 (b / 16+b) 1085102592571150095=y∧y+y / 256=z∧z+z / 65536=u∧u+u / 4294967296=v∧0≤y∧y<4611686018427387904∧0≤z∧z<4611686018427387904∧0≤u∧u<4611686018427387904∧0≤v∧v<4611686018427387904∧v % 128=oU x 63:=by
 obtain⟨X,rfl⟩:=Int.eq_ofNat_of_zero_le h0
 have m0:Nk 85 8=6148914691236517205:=by decide
 have m1:Nk 51 8=3689348814741910323:=by decide
 have m2:Nk 15 8=1085102592571150095:=by decide
 have A1:(X / 2 &&& 6148914691236517205)≤6148914691236517205:=Nat.and_le_right
 have A2:(X &&& 6148914691236517205)≤6148914691236517205:=Nat.and_le_right
 have eA:stA 8 X=(X / 2 &&& 6148914691236517205)+(X &&& 6148914691236517205):=by unfold stA;rw[m0]
 have B1:(stA 8 X / 4 &&& 3689348814741910323)≤3689348814741910323:=Nat.and_le_right
 have B2:(stA 8 X &&& 3689348814741910323)≤3689348814741910323:=Nat.and_le_right
 have eB:O_ 8 (stA 8 X)=(stA 8 X / 4 &&& 3689348814741910323)+(stA 8 X &&& 3689348814741910323):=by unfold O_;rw[m1]
 have eC:stC 8 (O_ 8 (stA 8 X))=(O_ 8 (stA 8 X) / 16+O_ 8 (stA 8 X) &&& 1085102592571150095):=by unfold stC;rw[m2]
 obtain⟨z,u,v,e1,e2,e3,b0,b1,b2,b3,e4⟩:=ahQ X
 rw[←afF _ h0 h1,afE,←e4]
 rw[←adq]at e1 b0
 refine⟨(stA 8 X:Int),(O_ 8 (stA 8 X):Int),(stC 8 (O_ 8 (stA 8 X)):Int),(z:Int),(u:Int),(v:Int),?_,gA,gA,?_,gA,gA,gA,?_,gA,gA,gA,gA,gA,gA,gA,gA,gA,gA,gA,gA⟩
 ·have p:=u64_and_nat (X / 2) 6148914691236517205 gA (by decide)
  have q:=u64_and_nat X 6148914691236517205 gA (by decide)
  rw[eA]
  rw[show((X / 2:Nat):Int)=(X:Int) / 2 by omega]at p
  show bits BinOp.and IntKind.u64 ((X:Int) / 2) ((6148914691236517205:Nat):Int)+bits BinOp.and IntKind.u64 (X:Int) ((6148914691236517205:Nat):Int)=_
  rw[p,q]
  omega
 ·have p:=u64_and_nat (stA 8 X / 4) 3689348814741910323 gA (by decide)
  have q:=u64_and_nat (stA 8 X) 3689348814741910323 gA (by decide)
  rw[eB]
  rw[show((stA 8 X / 4:Nat):Int)=(stA 8 X:Int) / 4 by omega]at p
  show bits BinOp.and IntKind.u64 ((stA 8 X:Int) / 4) ((3689348814741910323:Nat):Int)+bits BinOp.and IntKind.u64 (stA 8 X:Int) ((3689348814741910323:Nat):Int)=_
  rw[p,q]
  omega
 have p:=u64_and_nat (O_ 8 (stA 8 X) / 16+O_ 8 (stA 8 X)) 1085102592571150095 gA (by decide)
 rw[eC]
 rw[show((O_ 8 (stA 8 X) / 16+O_ 8 (stA 8 X):Nat):Int)=(O_ 8 (stA 8 X):Int) / 16+(O_ 8 (stA 8 X):Int) by omega]at p
 exact p
structure Da (f:Nat→Prop) (w w':World):Prop where
 os:w'.os=w.os
 tape:w'.tape=w.tape
 output:w'.output=w.output
 size:w.heap.size≤w'.heap.size
 block:∀k,k<w.heap.size→¬f k→w'.heap[k]?=w.heap[k]?
theorem Da.refl (f:Nat→Prop)(w:World):Da f w w:=⟨rfl,rfl,rfl,Nat.le_refl _,fun _ _ _=>rfl⟩
theorem Da.of {w w':World}{r:Option Nat}{f:Nat→Prop}(h:w.grownBy w' r)(hf:∀k,r=some k→k<w.heap.size→f k):Da f w w':=
 ⟨h.os,h.tape,h.output,h.size,fun k hk hn=>h.block k hk (fun e=>hn (hf k e.symm hk))⟩
theorem Da.trans {a b c:World}{f:Nat→Prop}(h:Da f a b)(k:Da f b c):Da f a c:=
 ⟨k.os.trans h.os,k.tape.trans h.tape,k.output.trans h.output,Nat.le_trans h.size k.size,fun i hi hn=>by
  rw[k.block i (Nat.lt_of_lt_of_le hi h.size) hn,h.block i hi hn]⟩
theorem Da.none {w a b:World}{f:Nat→Prop}(h:w.grownBy a none)(k:Da f a b)(hf:∀i,f i→w.heap.size≤i):w.grownBy b none:=
 ⟨k.os.trans h.os,k.tape.trans h.tape,k.output.trans h.output,Nat.le_trans h.size k.size,fun i hi _=>by
  rw[k.block i (Nat.lt_of_lt_of_le hi h.size) (fun e=>by have:=hf i e;omega),h.block i hi (by simp)]⟩
def Rh (w:World)(b:Nat)(rs:List Int):Prop:=w.heap[b]?=some (.cells (lX rs) 5 (0,0))
theorem Rh.cell {w:World}{b:Nat}{rs:List Int}(h:Rh w b rs)(i:Nat)(hi:i<rs.length):w.cell? ⟨b,i,none⟩=some (.int .u8 (aC rs i)):=(aI h i).trans (Q_ rs i hi)
theorem Rh.free {w:World}{b:Nat}{rs:List Int}(h:Rh w b rs)(i:Nat):w.frozen? ⟨b,i,none⟩=false:=aT h i
theorem Rh.set {w:World}{b:Nat}{rs:List Int}(h:Rh w b rs)(k:Nat)(z:Int):Rh (w.setCell ⟨b,k,none⟩ (.int .u8 z)) b (rs.set k z):=by
 unfold Rh
 rw[heap_setCell h,Ra]
theorem Rh.aH {w w':World}{b:Nat}{rs:List Int}(h:Rh w b rs)(g:w.grownBy w' none):Rh w' b rs:=(g.block _ (aN h) (by simp)).trans h
theorem Rh.aaF {w:World}{b:Nat}{rs:List Int}(h:Rh w b rs)(n:Nat)(hn:n≤rs.length)(c:Nat)(hc:n≤c):Gf w (.slice (some ⟨b,0,none⟩) n c) (rs.take n):=by
 have e:(rs.take n).length=n:=by simp;omega
 refine⟨some ⟨b,0,none⟩,c,by rw[e],gA,fun _=>⟨_,rfl,fun i hi=>?_⟩⟩
 rw[e]at hi
 rw[Addr.add_mid,Nat.zero_add,h.cell i gA]
 simp[aC,List.getD,List.getElem?_take,hi]
theorem Gj {w:World}{b o:Nat}{v:Value}(h:w.cell? ⟨b,o,none⟩=some v):b<w.heap.size:=by
 rcases Nat.lt_or_ge b w.heap.size with q|q
 ·exact q
 simp[World.cell?,Array.getElem?_eq_none q]at h
theorem Br {w w':World}{b o:Nat}{r:Option Nat}{v:Value}(h:w.cell? ⟨b,o,none⟩=some v)(g:w.grownBy w' r)(hb:r≠some b):w'.cell? ⟨b,o,none⟩=some v:=by
 have hlt:=Gj h
 have e:=g.block b hlt (fun e=>hb e.symm)
 simp only[World.cell?]at h ⊢
 rw[e];exact h
structure uV (cb ca bb n:Nat) (B:List Int) (w:World):Prop where
 var:w.cell? ⟨cb,0,none⟩=some (.slice (some ⟨bb,0,none⟩) 15 15)
 at':w.heap[ca]?=some (.cells #[.int .i64 (n:Int)] 3 (0,0))
 byt:Rh w bb B
 ne1:ca≠bb
 ne2:cb≠bb
 ne3:cb≠ca
theorem uV.aH {cb ca bb n:Nat}{B:List Int}{w w':World}(h:uV cb ca bb n B w)(g:w.grownBy w' none):uV cb ca bb n B w':=
 ⟨bA g h.var,(g.block _ (aN h.at') (by simp)).trans h.at',h.byt.aH g,h.ne1,h.ne2,h.ne3⟩
theorem uV.set {cb ca bb n:Nat}{B:List Int}{w:World}(h:uV cb ca bb n B w)(k:Nat)(z:Int):uV cb ca bb n (B.set k z) (w.setCell ⟨bb,k,none⟩ (.int .u8 z)):=by
 have g:=aF w ⟨bb,k,none⟩ (.int .u8 z)
 exact⟨Br h.var g (fun e=>h.ne2 (by cases e;rfl)),(g.block _ (aN h.at') (fun e=>h.ne1 (by cases e;rfl))).trans h.at',h.byt.set k z,h.ne1,h.ne2,h.ne3⟩
theorem uV.next {cb ca bb n:Nat}{B:List Int}{w:World}(h:uV cb ca bb n B w)(m:Nat):uV cb ca bb m B (w.setCell ⟨ca,0,none⟩ (.int .i64 (m:Int))):=by
 have g:=aF w ⟨ca,0,none⟩ (.int .i64 (m:Int))
 exact⟨Br h.var g (fun e=>h.ne3 (by cases e;rfl)),by rw[heap_setCell h.at'];rfl,(g.block _ (aN h.byt) (fun e=>h.ne1 (by cases e;rfl))).trans h.byt,h.ne1,h.ne2,h.ne3⟩
theorem uV.cat {cb ca bb n:Nat}{B:List Int}{w:World}(h:uV cb ca bb n B w):w.cell? ⟨ca,0,none⟩=some (.int .i64 (n:Int)):=by rw[aI h.at'];rfl
theorem Ri (n:Nat)(hn:n<1000)(w:World) :
 Calls prog 126 #[.int .i64 (n:Int)] w fun e w'=>e=.returned (.int .i64 ((7-n % 8:Nat):Int))∧w'=w:=by
 have h1:(n:Int).tmod 8=((n % 8:Nat):Int):=by rw[Int.tmod_eq_emod_of_nonneg gA];omega
 have h2:(n:Int) % 8=((n % 8:Nat):Int):=gA
 have h3:((7-n % 8:Nat):Int)=7-((n % 8:Nat):Int):=gA
 have h4:n % 8<8:=gA
 rw[h3]
 clear h3
 generalize n % 8=r at *
 go_enter func126,ntmps126
 go_wp2_with fail
 go_ret
 first|exact⟨rfl,rfl⟩|(constructor<;>first|rfl|(congr 2;omega)|simp_all)
theorem xL (cb ca bb n k:Nat)(N x:Int)(B:List Int)(w:World)(hk:k≤8)(hn:n+k≤120)(h0:0≤x)(h1:x<2^k)(hx:x<256)(hS:uV cb ca bb n B w)(hL:Lay n N B) :
 Calls prog 125 #[.int .i64 x,.int .i64 (k:Int),.pointer (some ⟨cb,0,none⟩),.pointer (some ⟨ca,0,none⟩)] w fun e w'=>e=.returned (.tuple #[])∧∃B',Lay (n+k) (N*2^k+x) B'∧uV cb ca bb (n+k) B' w'∧Da (fun i=>i=ca∨i=bb) w w':=by
 have M0:=Zs (Lay (n+0) (Ju N k x 0) B∧uV cb ca bb (n+0) B w∧Da (fun i=>i=ca∨i=bb) w w) (⟨by rw[aaI N k x h0 h1];exact hL,hS,Da.refl _ _⟩)
 have H2:=Zd h1
 clear hL hS h1
 go_enter func125,ntmps125
 go_wp2_with fail
 go_loopw [6] (fun i wr=>∃(j:Nat) (B:List Int),i=.int .i64 ((k:Int)-1-(j:Int))∧j≤k∧Hid (Lay (n+j) (Ju N k x j) B∧uV cb ca bb (n+j) B wr∧Da (fun i=>i=ca∨i=bb) w wr)) (fun i _=>(intOf i+1).toNat)
 case atStart=>exact⟨0,B,by simp,Nat.zero_le _,M0.out⟩
 case round=>
  obtain⟨j,B,rfl,hj,hM⟩:=hrel
  clear M0
  by_cases hjk:j<k
  ·obtain⟨I,hI⟩:∃I:Nat,k-1-j=I:=⟨_,rfl⟩
   rw[show(k:Int)-1-(j:Int)=(I:Int) by omega]
   have hI8:(I:Int)<8:=gA
   have HI:=Zd hI
   have PL:=Zd (Ri (n+j) gA)
   have NS:=Zd (show Lay (n+(j+1)) (Ju N k x (j+1)) (B.set ((n+j) / 8) (aC B ((n+j) / 8)+x / 2^I % 2*2^(7-(n+j) % 8)))from by
    have:=ads hM.out.1 gA (x / 2^I % 2) gA gA
    rw[aaJ N k x j hjk,hI]
    exact this)
   have NB:=hM.out.1.bd ((n+j) / 8)
   have hz:=adu hM.out.1 gA (x / 2^I % 2) gA gA
   have hdq:=afI (7-(n+j) % 8) gA (x / 2^I % 2) gA gA
   have hxb:=ahS x h0 hx I
   have hc:=aiT (x / 2^I) hxb.1 hxb.2
   have hcb:0≤x / 2^I % 2∧x / 2^I % 2<2:=gA
   have hBl:=hM.out.1.1
   have cv:=hM.out.2.1.var
   have cat:=hM.out.2.1.cat
   have cy:=hM.out.2.1.byt.cell ((n+j) / 8) gA
   have fy:=hM.out.2.1.byt.free ((n+j) / 8)
   have hq1:((n+j:Nat):Int).tdiv 8=(((n+j) / 8:Nat):Int):=by rw[Int.tdiv_eq_ediv_of_nonneg gA];omega
   have hq2:((n+j:Nat):Int) / 8=(((n+j) / 8:Nat):Int):=gA
   have an5:(((n+j) / 8:Nat):Int)<15:=gA
   have SS:=Zd (fun(z:Int)=>hM.out.2.1.set ((n+j) / 8) z)
   have TT:=Zd (fun(z:Int)=>Da.trans hM.out.2.2 (Da.of (aF wr ⟨bb,(n+j) / 8,none⟩ (.int .u8 z)) (fun k e _=>by cases e;exact .inr rfl)))
   have hnj:n+j≤120:=gA
   rw[show n+(j+1)=n+j+1 by omega]at NS
   clear hM hBl
   generalize aC B ((n+j) / 8)=y at *
   generalize (n+j) / 8=q at *
   generalize hp:7-(n+j) % 8=p at *
   generalize hm:n+j=m at *
   have HM:=Zd hm
   clear hm
   generalize x / 2^I % 2=c at *
   have hp7:p≤7:=gA
   clear hp
   generalize hdd:c*2^p=d at *
   generalize hzz:y+d=z at *
   have WQ:=fH (q:Int) gA gA
   have hu:IntKind.u8.wrap c=c:=by rw[IntKind.wrap_u8];omega
   have hd:IntKind.u8.wrap d=d:=by rw[IntKind.wrap_u8];omega
   go_upto_region 3 with fail
   generalize hwy:wr=wy at *
   clear hwy
   refine b_ 15 (fun w'=>w'=wy.drew) 16 (by rfl) _ rfl (by kernel_rfl) (fun aK=>?_)
   refine eF 0 rfl aK fun aK=>?_
   refine eF (v:=.int .i64 (m:Int)) 1 rfl aK fun aK=>?_
   refine jq (hy:=by intro w' bL;subst bL;go_simp;try simp only[hq1,hq2,WQ]) (v:=.int .i64 (q:Int)) 2 rfl aK fun aK=>?_
   refine eF 3 rfl aK fun aK=>?_
   refine eF (v:=.int .u8 y) 4 rfl aK fun aK=>?_
   refine eF 5 rfl aK fun aK=>?_
   refine eF 6 rfl aK fun aK=>?_
   refine eF (v:=.int .i64 (x / 2^I)) 7 rfl aK fun aK=>?_
   refine jq (hy:=by intro w' bL;subst bL;go_simp;try simp only[hc]) (v:=.int .i64 c) 8 rfl aK fun aK=>?_
   refine jq (hy:=by intro w' bL;subst bL;go_simp;try simp only[hu]) (v:=.int .u8 c) 9 rfl aK fun aK=>?_
   refine eF (v:=.int .i64 (m:Int)) 10 rfl aK fun aK=>?_
   refine kT 11 aK fun K hK=>?_
   (try simp only[sZ])
   go_simp
   refine(PL.out _).mono ?_
   rintro e w1 ⟨rfl,rfl⟩
   go_wp2_with fail
   refine hK.out _ _ (fun _=>rfl) (fun aK=>?_)
   (try simp only[sZ])
   refine jq (hy:=by intro w' bL;subst bL;go_simp;try simp only[hd]) (v:=.int .u8 d) 12 rfl aK fun aK=>?_
   refine jq (hy:=by intro w' bL;subst bL;go_simp;try simp only[hz]) (v:=.int .u8 z) 13 rfl aK fun aK=>?_
   refine eF 14 rfl aK fun aK=>?_
   refine kT 15 aK fun K hK=>?_
   (try simp only[sZ])
   go_simp
   go_wp2_with fail
   refine hK.out _ _ (fun h=>by cases h) (fun aK=>?_)
   (try simp only[sZ])
   refine bI _ _ _ _ (by rfl) ?_
   refine xP ?_
   have N1:=Zd ((SS.out z).aH (aZ _))
   have T1:=Zd (Da.trans (TT.out z) (Da.of (aZ _) (fun k e _=>by cases e)))
   generalize (wy.setCell ⟨bb,q,none⟩ (.int .u8 z)).drew=wz at *
   have an6:=N1.out.cat
   have an7:wz.frozen? ⟨ca,0,none⟩=false:=aT N1.out.at' 0
   have N2:=Zs (uV cb ca bb (m+1) (B.set q z) (wz.setCell ⟨ca,0,none⟩ (.int .i64 ((m:Int)+1)))) (N1.out.next (m+1))
   have T2:=Zd (Da.trans T1.out (Da.of (aF wz ⟨ca,0,none⟩ (.int .i64 ((m:Int)+1))) (fun k e _=>by cases e;exact .inl rfl)))
   clear cv cat cy fy PL
   go_wp2_with fail
   go_roundw
   case rel=>exact⟨j+1,B.set q z,by rw[show(k:Int)-1-((j+1:Nat):Int)=(I:Int)-1 by have:=HI.out;omega],gA,by rw[show n+(j+1)=m+1 by have:=HM.out;omega];exact⟨NS.out,N2.out,T2.out⟩⟩
   case measure=>first|(simp[intOf];done)|(simp[intOf];omega)
  obtain rfl:j=k:=gA
  rw[show(j:Int)-1-(j:Int)=-1 by omega]
  go_wp2_with fail
  go_end0
  exact⟨rfl,B,by have:=hM.out.1;rw[adt]at this;exact this,hM.out.2⟩
structure Rj (w0:World) (cb ca n:Nat) (v:Value) (w:World):Prop where
 var:w.cell? ⟨cb,0,none⟩=some v
 at':w.heap[ca]?=some (.cells #[.int .i64 (n:Int)] 3 (0,0))
 Uz:w0.grownBy w none
 le:w0.heap.size≤ca
 ne:cb≠ca
theorem Rj.cat {w0:World}{cb ca n:Nat}{v:Value}{w:World}(h:Rj w0 cb ca n v w):w.cell? ⟨ca,0,none⟩=some (.int .i64 (n:Int)):=by rw[aI h.at'];rfl
theorem Rj.aH {w0:World}{cb ca n:Nat}{v:Value}{w w':World}(h:Rj w0 cb ca n v w)(g:w.grownBy w' none):Rj w0 cb ca n v w':=
 ⟨bA g h.var,(g.block _ (aN h.at') (by simp)).trans h.at',aB h.Uz g,h.le,h.ne⟩
theorem Rj.next {w0:World}{cb ca n:Nat}{v:Value}{w:World}(h:Rj w0 cb ca n v w)(m:Nat):Rj w0 cb ca m v (w.setCell ⟨ca,0,none⟩ (.int .i64 (m:Int))):=by
 have g:=aF w ⟨ca,0,none⟩ (.int .i64 (m:Int))
 exact⟨Br h.var g (fun e=>h.ne (by cases e;rfl)),by rw[heap_setCell h.at'];rfl,aG h.Uz g h.le,h.le,h.ne⟩
theorem aaK (ad:Addr)(cp:Nat)(b:List Int)(w:World)(hB:Gf w (.slice (some ad) 14 cp) b)(hby:byB b) :
 Calls prog 46 #[.slice (some ad) 14 cp] w fun e w'=>e=.returned (.int .i64 (zD b 14))∧w'=w:=by
 obtain⟨e14,hc,aK⟩:=KQ hB
 have HC:=Zd aK
 have HY:=Zd hby
 have HE:=Zd e14
 clear hB hby aK e14
 go_enter func46,ntmps46
 go_wp2_with fail
 go_loopw [3,8] (fun s i wr=>∃m:Nat,i=.int .i64 (m:Int)∧m≤14∧s=.int .i64 (90+rM b m)∧wr=w) (fun _ i _=>14-(intOf i).toNat)
 case atStart=>exact⟨0,rfl,Nat.zero_le _,rfl,rfl⟩
 case round=>
  obtain⟨m,rfl,hm,rfl,rfl⟩:=hrel
  obtain⟨s0,s1⟩:=Mj b HY.out m
  by_cases aiU:m<14
  ·have i1:(m:Int)<14:=gA
   have cx:=HC.out m (by have:=HE.out;omega)
   obtain⟨y0,y1⟩:=HY.out m
   have NX:=Zs (rM b (m+1)=rM b m+aC b m) (rfl)
   generalize rM b m=S at *
   generalize aC b m=y at *
   have hu:=fH y gA gA
   go_wp2_with fail
   go_roundw
   case rel=>exact⟨m+1,by go_num,gA,by rw[NX.out,Int.add_assoc],trivial⟩
   case measure=>first|(simp[intOf];done)|(simp[intOf];omega)
  obtain rfl:m=14:=gA
  rw[show((14:Nat):Int)=14 from rfl]
  have ha:=afK (90+rM b 14) gA gA
  have CE:=Zs (zD b 14=(90+rM b 14) % 256) (rfl)
  go_wp2_with fail
  go_ret
  rw[CE.out]
  first|exact⟨rfl,rfl⟩|(rw[←ha];exact⟨rfl,rfl⟩)
theorem Rk (n:Int)(h0:0≤n)(h1:n<18446744073709551616):IntKind.u64.wrap n=n:=by rw[IntKind.wrap_u64];omega
theorem Gl (x:Int)(h0:0≤x)(h1:x<9223372036854775808)(w:World) :
 Calls prog 130 #[.int .u64 x] w fun e w'=>e=.returned (.int .i64 (oU x 63))∧w'=w:=by
 obtain⟨a,b,y,z,u,v,e1,a0,a1,e2,b0,b1,b2,e3,e4,e5,e6,y0,y1,z0,z1,u0,u1,v0,v1,e7⟩:=afO x h0 h1
 rw[←e7]
 go_enter func130,ntmps130
 go_wp2_with fail
 go_ret
 rw[←i64_and127]
 exact⟨rfl,rfl⟩
def uo (l:List Int):List Int:=[aC l 0,aC l 9,aC l 17]
def Bt (l:List Int):Nat→Int
 | 0=>0
 | m+1=>Bt l m+pS (aC (uo l) m)
theorem Y_ (l:List Int):∀m:Nat,0≤Bt l m∧Bt l m≤63*(m:Int)
 | 0=>⟨Int.le_refl _,Int.le_refl _⟩
 | m+1=>by
  have h1:=Y_ l m
  have h2:=acu (aC (uo l) m)
  show 0≤Bt l m+pS (aC (uo l) m)∧Bt l m+pS (aC (uo l) m)≤63*((m+1:Nat):Int)
  omega
theorem aiV (l:List Int):Bt l 3 % 2=uP l:=by
 show(0+pS (aC l 0)+pS (aC l 9)+pS (aC l 17)) % 2=_
 unfold uP
 rw[Int.zero_add]
theorem Nl (l:List Int)(hl:l.length=25)(iQ:jv l)(w:World):Calls prog 45 #[.agg (aD l)] w (afA w (.int .i64 (uP l))):=by
 have c0:=(bO.new w 49 l).cell 0 gA
 have c9:=(bO.new w 49 l).cell 9 gA
 have c17:=(bO.new w 49 l).cell 17 gA
 have G0:=Zd (ak w (.cells (aD l) 49) none)
 have PX:=Zd (show ∀m,aC (uo l) m≤9223372036854775807 from fun m=>by
  match m with
  | 0=>exact(iQ 0).2
  | 1=>exact(iQ 9).2
  | 2=>exact(iQ 17).2
  | m+3=>show(0:Int)≤_;omega)
 have IX:=Zd (fun(m:Nat) (hm:m<3) (u:World)=>fQ (T:=146) (uo l) underlying146 m hm rfl u)
 have PE:=Zd (aiV l)
 have PB:=Zd (Y_ l)
 obtain⟨T,hT⟩:∃T:Ending→World→Prop,afA w (.int .i64 (uP l))=T:=⟨_,rfl⟩
 rw[hT]
 have HT:=Zd hT
 clear hT hl iQ
 rw[show aD (uo l)=#[.int .i64 (aC l 0),.int .i64 (aC l 9),.int .i64 (aC l 17)]from rfl]at IX
 go_enter func45,ntmps45
 go_upto_region 2 with fail
 generalize w.alloc (.cells (aD l) 49)=W0 at *
 go_wp2_with fail
 generalize Value.agg #[.int .i64 (aC l 0),.int .i64 (aC l 9),.int .i64 (aC l 17)]=AV at *
 clear c0 c9 c17
 go_loopw [3,17] (fun s i wr=>∃m:Nat,i=.int .i64 (m:Int)∧m≤3∧s=.int .i64 (Bt l m)∧wr=W0) (fun _ i _=>3-(intOf i).toNat)
 case atStart=>exact⟨0,rfl,Nat.zero_le _,rfl,rfl⟩
 case round=>
  obtain⟨m,rfl,hm,rfl,rfl⟩:=hrel
  obtain⟨s0,s1⟩:=PB.out m
  by_cases hm3:m<3
  ·have i1:(m:Int)<3:=gA
   have ix:=IX.out m hm3
   have NX:=Zs (Bt l (m+1)=Bt l m+pS (aC (uo l) m)) (rfl)
   obtain⟨q0,q1⟩:=acu (aC (uo l) m)
   have hxm:=PX.out m
   by_cases hx:aC (uo l) m<0
   ·have ON:=Zd (Gl 0 gA gA)
    rw[show oU 0 63=pS (aC (uo l) m) by unfold pS;rw[if_neg gA];decide +kernel]at ON
    generalize pS (aC (uo l) m)=q at *
    generalize Bt l m=S at *
    generalize aC (uo l) m=x at *
    go_wp2_with fail
    refine(ON.out _).mono ?_
    rintro e w1 ⟨rfl,rfl⟩
    clear ON
    go_wp2_with fail
    go_roundw
    case rel=>exact⟨m+1,by go_num,gA,by rw[NX.out],trivial⟩
    case measure=>first|(simp[intOf];done)|(simp[intOf];omega)
   have ON:=Zd (Gl (aC (uo l) m) gA gA)
   rw[show oU (aC (uo l) m) 63=pS (aC (uo l) m) by
    unfold pS
    split
    ·rfl
    obtain e:aC (uo l) m=0:=gA
    rw[e];decide +kernel]at ON
   have hu:=Rk (aC (uo l) m) gA gA
   generalize pS (aC (uo l) m)=q at *
   generalize Bt l m=S at *
   generalize aC (uo l) m=x at *
   go_wp2_with fail
   refine(ON.out _).mono ?_
   rintro e w1 ⟨rfl,rfl⟩
   clear ON
   go_wp2_with fail
   go_roundw
   case rel=>exact⟨m+1,by go_num,gA,by rw[NX.out],trivial⟩
   case measure=>first|(simp[intOf];done)|(simp[intOf];omega)
  obtain rfl:m=3:=gA
  rw[show((3:Nat):Int)=3 from rfl]
  have PM:=Zs ((Bt l 3).tmod 2=uP l) (by rw[Int.tmod_eq_emod_of_nonneg s0];exact PE.out)
  have PN:=Zs ((Bt l 3) % 2=uP l) (PE.out)
  go_wp2_with fail
  rw[←HT.out]
  first|exact⟨rfl,G0.out⟩|exact⟨by(rw[PM.out];rfl),G0.out⟩|exact⟨by(rw[PN.out];rfl),G0.out⟩
theorem lH.trp {base:Nat}{w w':World}{v:Value}{n:Nat}{A:List Value}{f:Nat→Prop}(h:lH base w v n A)(t:Da f w w')(hf:∀g,base≤g→¬f g):lH base w' v n A:=by
 refine⟨h.1,?_⟩
 rcases h.2 with h|⟨g,cap,cur,e,h1,h2,h3⟩
 ·exact .inl h
 exact .inr ⟨g,cap,cur,e,h1,(t.block g (aN h2) (hf g h1)).trans h2,h3⟩
theorem bO.trp {w w':World}{b:Nat}{T:TypeId}{rs:List Int}{f:Nat→Prop}(h:bO w b T rs)(t:Da f w w')(hf:¬f b):bO w' b T rs:=(t.block b h.lt hf).trans h
theorem Gm {w w':World}{f:Nat→Prop}(t:Da f w w'){b o:Nat}{v:Value}(h:w.cell? ⟨b,o,none⟩=some v)(hf:¬f b):w'.cell? ⟨b,o,none⟩=some v:=by
 have e:=t.block b (Gj h) hf
 simp only[World.cell?]at h ⊢
 rw[e];exact h
theorem lH.form {base:Nat}{w:World}{v:Value}{n:Nat}{A:List Value}(h:lH base w v n A)(hn:0<n):∃g cap,v=.slice (some ⟨g,0,none⟩) n cap∧base≤g∧g<w.heap.size:=by
 rcases id h.2 with⟨_,h0⟩|⟨g,cap,cur,hv,hb,hg,_⟩
 ·omega
 exact⟨g,cap,hv,hb,aN hg⟩
theorem lH.fld {base:Nat}{w:World}{g cap b:Nat}(h:lH base w (.slice (some ⟨g,0,none⟩) 25 cap) 25 (Cy b 25))(i:Nat)(hi:i<25) :
 w.cell? ⟨g,i*3,none⟩=some (.pointer (some ⟨b,i,none⟩))∧w.cell? ⟨g,i*3+1,none⟩=some (.int .i64 (oQ i:Int))∧w.cell? ⟨g,i*3+2,none⟩=some (.int .i64 (uO i)):=by
 have q0:=World.ownsRow.cellAt h (i*3+0) gA
 have q1:=World.ownsRow.cellAt h (i*3+1) gA
 have q2:=World.ownsRow.cellAt h (i*3+2) gA
 rw[Y7 b 25 i _ hi gA]at q0 q1 q2
 exact⟨q0,q1,q2⟩
theorem Gn (l:List Int)(hl:l.length=25)(iQ:jv l)(w:World)(hT:TabA w 3 widq 8):Calls prog 42 #[.agg (aD l)] w (afA w (.bool (j4 l))):=by
 have HL:=Zd hl
 have DY:=Zd iQ
 have P0:=Zd (bO.new w 49 l)
 have G0:=Zd (ak w (.cells (aD l) 49) none)
 have HT:=Zd hT
 obtain⟨T,hTT⟩:∃T:Ending→World→Prop,afA w (.bool (j4 l))=T:=⟨_,rfl⟩
 rw[hTT]
 have HTT:=Zd hTT
 clear hTT hl iQ hT
 go_enter func42,ntmps42
 go_upto_region 1 with fail
 generalize w.alloc (.cells (aD l) 49)=W0 at *
 go_wp2_with fail
 refine(zX w.heap.size W0 (gF HT.out G0.out)).mono ?_
 rintro e W1 ⟨v,rfl,o1,g1⟩
 obtain⟨g,cap,rfl,_,_⟩:=o1.form gA
 have M0:=Zs (bO W1 w.heap.size 49 l∧lH W0.heap.size W1 (.slice (some ⟨g,0,none⟩) 25 cap) 25 (Cy w.heap.size 25)∧w.grownBy W1 none) (⟨P0.out.aH g1,o1,aB G0.out g1⟩)
 clear G0 HT o1 g1
 go_wp2_with fail
 go_loopw [7] (fun i wr=>∃m:Nat,i=.int .i64 (m:Int)∧m≤25∧Hid (∀j,j<m→0≤aC l j∧aC l j≤uO j)∧Hid (W1.grownBy wr none)) (fun i _=>25-(intOf i).toNat)
 case atStart=>exact⟨0,rfl,Nat.zero_le _,fun j hj=>gA,aQ _ _⟩
 case round=>
  obtain⟨m,rfl,hm,hA,hG⟩:=hrel
  by_cases wB:m<25
  ·have i1:(m:Int)<25:=gA
   obtain⟨c0,c1,c2⟩:=(M0.out.2.1.aH hG.out).fld m wB
   have cx:=(M0.out.1.aH hG.out).cell m (by rw[HL.out];exact wB)
   have gx:=DY.out m
   have F0:=Zd (cK wr (.cells #[.pointer (some ⟨w.heap.size,m,none⟩),.int .i64 (oQ m:Int),.int .i64 (uO m)] 84))
   have GA:=Zd (ak wr (.cells #[.pointer (some ⟨w.heap.size,m,none⟩),.int .i64 (oQ m:Int),.int .i64 (uO m)] 84) none)
   have cx2:=bA GA.out cx
   have GR:=Zd (aB hG.out GA.out)
   have hI:=hA.out
   have NO:=Zd (YA l m wB)
   have YES:=Zd (fun(h:0≤aC l m∧aC l m≤uO m)=>(show ∀j,j<m+1→0≤aC l j∧aC l j≤uO j from fun j hj=>by
    by_cases e:j=m
    ·subst e;exact h
    exact hA.out j gA))
   go_upto_region 4 with fail
   generalize wr.alloc (.cells #[.pointer (some ⟨w.heap.size,m,none⟩),.int .i64 (oQ m:Int),.int .i64 (uO m)] 84)=W2 at *
   have f0:W2.cell? ⟨wr.heap.size,0,none⟩=some (.pointer (some ⟨w.heap.size,m,none⟩)):=aI F0.out 0
   have f2:W2.cell? ⟨wr.heap.size,2,none⟩=some (.int .i64 (uO m)):=aI F0.out 2
   have GD:=Zd (bW GR.out)
   have MG:=Zd (aB M0.out.2.2 GD.out)
   clear c0 c1 c2 cx hI hA hG
   generalize wr.heap.size=fb at *
   generalize aC l m=x at *
   generalize uO m=y at *
   refine wp_region_held_drew (S:=fun u=>u=W2.drew) (by kernel_rfl) rfl (fun aj=>?_)
   by_cases hx:x<0
   ·have hx1:decide (x<0)=true:=decide_eq_true hx
    have GN:=Zd (NO.out gA)
    refine ng 0 aj ?_
    refine ng (v:=.pointer (some ⟨w.heap.size,m,none⟩)) 1 aj ?_
    refine ng 2 aj ?_
    refine ng (v:=.int .i64 x) 3 aj ?_
    refine bV (hy:=by intro w' bL;subst bL;go_simp;(try simp only[hx1])) (v:=.bool true) 4 aj ?_
    refine ng 5 aj ?_
    refine wpAnyH_take (i:=6) (v:=undef) rfl (by kernel_rfl) (by kernel_rfl) (by kernel_rfl) (fun _ _ _ h=>h) (Or.inr ⟨by rfl,rfl⟩) aj ?_
    (try simp only[sZ])
    refine wpAnyH_take (i:=7) (v:=undef) rfl (by kernel_rfl) (by kernel_rfl) (by kernel_rfl) (fun _ _ _ h=>h) (Or.inr ⟨by rfl,rfl⟩) aj ?_
    (try simp only[sZ])
    refine wpAnyH_take (i:=8) (v:=undef) rfl (by kernel_rfl) (by kernel_rfl) (by kernel_rfl) (fun _ _ _ h=>h) (Or.inr ⟨by rfl,rfl⟩) aj ?_
    (try simp only[sZ])
    refine wpAnyH_take (i:=9) (v:=undef) rfl (by kernel_rfl) (by kernel_rfl) (by kernel_rfl) (fun _ _ _ h=>h) (Or.inr ⟨by rfl,rfl⟩) aj ?_
    (try simp only[sZ])
    refine wpAnyH_take (i:=10) (v:=undef) rfl (by kernel_rfl) (by kernel_rfl) (by kernel_rfl) (fun _ _ _ h=>h) (Or.inr ⟨by rfl,rfl⟩) aj ?_
    (try simp only[sZ])
    refine wpAnyH_take (i:=11) (v:=undef) rfl (by kernel_rfl) (by kernel_rfl) (by kernel_rfl) (fun _ _ _ h=>h) (Or.inr ⟨by rfl,rfl⟩) aj ?_
    (try simp only[sZ])
    refine wpAnyH_take (i:=12) (v:=undef) rfl (by kernel_rfl) (by kernel_rfl) (by kernel_rfl) (fun _ _ _ h=>h) (Or.inr ⟨by rfl,rfl⟩) aj ?_
    (try simp only[sZ])
    refine ng (v:=.bool true) 13 aj ?_
    refine lM ?_
    clear aj
    generalize W2.drew=W3 at *
    go_wp2_with fail
    rw[←HTT.out]
    exact⟨by first|(rw[GN.out];done)|(rw[GN.out];rfl),MG.out⟩
   have hx1:decide (x<0)=false:=decide_eq_false hx
   by_cases hy:y<x
   ·have hy1:decide (y<x)=true:=decide_eq_true hy
    have GN:=Zd (NO.out gA)
    refine ng 0 aj ?_
    refine ng (v:=.pointer (some ⟨w.heap.size,m,none⟩)) 1 aj ?_
    refine ng 2 aj ?_
    refine ng (v:=.int .i64 x) 3 aj ?_
    refine bV (hy:=by intro w' bL;subst bL;go_simp;(try simp only[hx1])) (v:=.bool false) 4 aj ?_
    refine ng 5 aj ?_
    refine ng 6 aj ?_
    refine ng (v:=.pointer (some ⟨w.heap.size,m,none⟩)) 7 aj ?_
    refine ng 8 aj ?_
    refine ng (v:=.int .i64 x) 9 aj ?_
    refine ng 10 aj ?_
    refine ng (v:=.int .i64 y) 11 aj ?_
    refine bV (hy:=by intro w' bL;subst bL;go_simp;(try simp only[hy1])) (v:=.bool true) 12 aj ?_
    refine ng (v:=.bool true) 13 aj ?_
    refine lM ?_
    clear aj
    generalize W2.drew=W3 at *
    go_wp2_with fail
    rw[←HTT.out]
    exact⟨by first|(rw[GN.out];done)|(rw[GN.out];rfl),MG.out⟩
   have hy1:decide (y<x)=false:=decide_eq_false hy
   have GN:=Zd (YES.out gA)
   refine ng 0 aj ?_
   refine ng (v:=.pointer (some ⟨w.heap.size,m,none⟩)) 1 aj ?_
   refine ng 2 aj ?_
   refine ng (v:=.int .i64 x) 3 aj ?_
   refine bV (hy:=by intro w' bL;subst bL;go_simp;(try simp only[hx1])) (v:=.bool false) 4 aj ?_
   refine ng 5 aj ?_
   refine ng 6 aj ?_
   refine ng (v:=.pointer (some ⟨w.heap.size,m,none⟩)) 7 aj ?_
   refine ng 8 aj ?_
   refine ng (v:=.int .i64 x) 9 aj ?_
   refine ng 10 aj ?_
   refine ng (v:=.int .i64 y) 11 aj ?_
   refine bV (hy:=by intro w' bL;subst bL;go_simp;(try simp only[hy1])) (v:=.bool false) 12 aj ?_
   refine ng (v:=.bool false) 13 aj ?_
   refine lM ?_
   clear aj
   generalize W2.drew=W3 at *
   go_wp2_with fail
   go_roundw
   case rel=>exact⟨m+1,by go_num,gA,GN.out,GD.out⟩
   case measure=>first|(simp[intOf];done)|(simp[intOf];omega)
  obtain rfl:m=25:=gA
  rw[show((25:Nat):Int)=25 from rfl]
  have GN:=Zd ((kF l).2 hA.out)
  have MG:=Zd (aB M0.out.2.2 hG.out)
  clear hA hG
  go_wp2_with fail
  rw[←HTT.out]
  exact⟨by first|(rw[GN.out];done)|(rw[GN.out];rfl),MG.out⟩

theorem wC {T:TypeId}{d:TypeDesc}{n:Nat}(hu:prog.underlying T=some d)(hd:(match d with|.struct _|.array _ _=>true|_=>false)=true)(hs:(prog.info? T).map (·.size)=some n)(cs:List Value)(k:Nat)(vs:List Value)(hv:(cs.drop k).take n=vs)(w:World) :
 Sem.run prog (part T cs.toArray k) w=.ok (.agg vs.toArray) w:=by
 obtain⟨i0,hi,hz1⟩:∃i0,prog.info? T=some i0∧i0.size=n:=by
  cases hq:prog.info? T with
  | none=>rw[hq]at hs;cases hs
  | some i=>exact⟨i,rfl,by rw[hq]at hs;simpa using hs⟩
 have e:cs.toArray.extract k (k+n)=vs.toArray:=by
  rw[List.extract_toArray,←hv]
  congr 1
  simp[List.extract_eq_take_drop,List.drop_take]
 rw[←e]
 cases d<;>simp_all [part,isAgg,run_underlying hu,sizeOf,typeInfo,go_sem]
theorem Gp (cs:List Value)(k:Nat)(x:Int)(h:cs[k]?=some (.int .i64 x))(w:World):Sem.run prog (part 3 cs.toArray k) w=.ok (.int .i64 x) w:=by
 simp[part,isAgg,run_underlying underlying3,h]
theorem ahU (cs:List Value)(k:Nat)(x:Bool)(h:cs[k]?=some (.bool x))(w:World):Sem.run prog (part 4 cs.toArray k) w=.ok (.bool x) w:=by
 simp[part,isAgg,run_underlying underlying4,h]
theorem zZ (d:Nat)(a:Int)(w:World):Sem.run prog (Op.equalIn (d+1) 3 (.int .i64 a) (.int .i64 a)) w=.ok true w:=by
 rw[run_equalIn_int w d 3 .i64 .i64 a a underlying3];simp
theorem adv (d:Nat)(a:Bool)(w:World):Sem.run prog (Op.equalIn (d+1) 4 (.bool a) (.bool a)) w=.ok true w:=by
 rw[Op.equalIn]
 cases a<;>simp[run_underlying underlying4,go_sem]
theorem jL {d:Nat}{cs:Array Value}{f:Field}{fs:List Field}{v:Value}{w:World}(hn:f.name≠ "_")(hp:Sem.run prog (part f.type cs f.offset) w=.ok v w)(he:Sem.run prog (Op.equalIn d f.type v v) w=.ok true w)(h:Sem.run prog (Op.eqFields d cs cs fs) w=.ok true w) :
 Sem.run prog (Op.eqFields d cs cs (f::fs)) w=.ok true w:=by
 unfold Op.eqFields
 rw[if_pos hn]
 simp only[Sem.run_bind,hp,Result.andThen_ok,he,Bool.not_true,Bool.false_eq_true,if_false]
 exact h
theorem Nn {d:Nat}{cs:Array Value}{w:World}:Sem.run prog (Op.eqFields d cs cs []) w=.ok true w:=by
 unfold Op.eqFields
 exact Sem.run_pure ..
theorem ak_:∃n0 n1 n2 n3 n4 n5 n6 n7 n8:Field,(prog.fieldsOf 29).toList=[n0,n1,n2,n3,n4,n5,n6,n7,n8]∧
 (n0.name≠ "_"∧n0.type=26∧n0.offset=0)∧(n1.name≠ "_"∧n1.type=26∧n1.offset=8)∧(n2.name≠ "_"∧n2.type=27∧n2.offset=16)∧(n3.name≠ "_"∧n3.type=3∧n3.offset=96)∧(n4.name≠ "_"∧n4.type=3∧n4.offset=97)∧
 (n5.name≠ "_"∧n5.type=3∧n5.offset=98)∧(n6.name≠ "_"∧n6.type=3∧n6.offset=99)∧(n7.name≠ "_"∧n7.type=3∧n7.offset=100)∧(n8.name≠ "_"∧n8.type=4∧n8.offset=101):=by
 unfold Program.fieldsOf
 rw[underlying29]
 exact⟨_,_,_,_,_,_,_,_,_,rfl,⟨by decide,rfl,rfl⟩,⟨by decide,rfl,rfl⟩,⟨by decide,rfl,rfl⟩,⟨by decide,rfl,rfl⟩,⟨by decide,rfl,rfl⟩,⟨by decide,rfl,rfl⟩,⟨by decide,rfl,rfl⟩,⟨by decide,rfl,rfl⟩,⟨by decide,rfl,rfl⟩⟩
theorem afP (d:Nat)(l:List Int)(s:Bool)(hl:l.length=101)(w:World):Sem.run prog (Op.equalIn (d+1+1+1) 29 (dI l s) (dI l s)) w=.ok true w:=by
 obtain⟨n0,n1,n2,n3,n4,n5,n6,n7,n8,hf,⟨a0,b0,c0⟩,⟨a1,b1,c1⟩,⟨a2,b2,c2⟩,⟨a3,b3,c3⟩,⟨a4,b4,c4⟩,⟨a5,b5,c5⟩,⟨a6,b6,c6⟩,⟨a7,b7,c7⟩,⟨a8,b8,c8⟩⟩:=ak_
 unfold dI
 rw[run_equalIn_struct w (d+1+1) 29 _ _ (by kernel_rfl) (by kernel_rfl),hf]
 refine jL a0 (v:=.agg (aD (bP l 0 8))) (by rw[b0,c0];exact wC underlying26 rfl dV (aU l s) 0 _ (dA.part s 0 8 gA) w) (by rw[b0];exact Aw (bP l 0 8) underlying26 (aR _ _ _) d w) ?_
 refine jL a1 (v:=.agg (aD (bP l 8 8))) (by rw[b1,c1];exact wC underlying26 rfl dV (aU l s) 8 _ (dA.part s 8 8 gA) w) (by rw[b1];exact Aw (bP l 8 8) underlying26 (aR _ _ _) d w) ?_
 refine jL a2 (v:=.agg (aD (bP l 16 80))) (by rw[b2,c2];exact wC underlying27 rfl fP (aU l s) 16 _ (dA.part s 16 80 gA) w) (by rw[b2];exact Aw (bP l 16 80) underlying27 (aR _ _ _) d w) ?_
 refine jL a3 (by rw[b3,c3];exact Gp (aU l s) 96 _ (jU _ _ _ gA) w) (by rw[b3];exact zZ (d+1) _ w) ?_
 refine jL a4 (by rw[b4,c4];exact Gp (aU l s) 97 _ (jU _ _ _ gA) w) (by rw[b4];exact zZ (d+1) _ w) ?_
 refine jL a5 (by rw[b5,c5];exact Gp (aU l s) 98 _ (jU _ _ _ gA) w) (by rw[b5];exact zZ (d+1) _ w) ?_
 refine jL a6 (by rw[b6,c6];exact Gp (aU l s) 99 _ (jU _ _ _ gA) w) (by rw[b6];exact zZ (d+1) _ w) ?_
 refine jL a7 (by rw[b7,c7];exact Gp (aU l s) 100 _ (jU _ _ _ gA) w) (by rw[b7];exact zZ (d+1) _ w) ?_
 refine jL a8 (by rw[b8,c8];exact ahU (aU l s) 101 s (by unfold aU kE;rw[List.getElem?_append_right (by rw[aM];omega),aM,hl];rfl) w) (by rw[b8];exact adv (d+1) _ w) ?_
 exact Nn
def Rl (a b:List Int)(n k:Nat)(c:Int)(rs:List Int):Prop:=
 rs.length=n∧WF rs∧cZ rs k-c*P k=cZ a k-cZ b k∧0≤c∧c≤1∧∀j,k≤j→aC rs j=0
theorem aaL (a b:List Int)(n:Nat):Rl a b n 0 0 (List.replicate n 0):=
 ⟨by simp,tq _,by simp[cZ],gA,gA,fun j _=>kV _ _⟩
theorem KT (a b:List Int)(n k:Nat)(c d r q:Int)(rs:List Int)(wa:WF a)(wb:WF b)(hk:k<n)(h:Rl a b n k c rs)(hd:d=aC a k-c-aC b k)(hr:r=d % 4294967296)(hq:q=if d<0 then 1 else 0) :
 Rl a b n (k+1) q (rs.set k r):=by
 obtain⟨h1,h2,h3,h4,h5,h6⟩:=h
 have x1:=wa k;have x2:=wb k
 have nn:∀i,aC (rs.set k r) i=if i=k then r else aC rs i:=fun i=>kU _ _ _ _ gA
 have hq':r=d+q*4294967296:=by rw[hr,hq];split<;>omega
 refine⟨by simp;omega,uI _ _ _ h2 gA gA gA,?_,by rw[hq];split<;>omega,by rw[hq];split<;>omega,fun j hj=>by rw[nn,if_neg gA];exact h6 j gA⟩
 rw[cZ,cZ,cZ,nn,if_pos rfl,iY _ rs k (fun i hi=>by rw[nn,if_neg gA]),uG]
 have e3:r*P k=d*P k+q*(P k*4294967296):=by
  rw[hq',Int.add_mul,Int.mul_assoc,Int.mul_comm 4294967296]
 have e4:d*P k=aC a k*P k-c*P k-aC b k*P k:=by rw[hd,Int.sub_mul,Int.sub_mul]
 omega
theorem afQ (a b:List Int)(c:Int)(rs:List Int)(wa:WF a)(wb:WF b)(hl:b.length≤a.length)(hv:val b≤val a)(h:Rl a b a.length a.length c rs) :
 WF rs∧val rs=val a-val b∧rs.length=a.length:=by
 obtain⟨h1,h2,h3,h4,h5,h6⟩:=h
 rw[lD b _ hl,show cZ a a.length=val a from rfl]at h3
 have hb:=oM rs h2 a.length
 have hc:c=0∨c=1:=gA
 rcases hc with rfl|rfl
 ·refine⟨h2,?_,h1⟩
  rw[←lD rs a.length gA];omega
 omega
theorem adw (x y:Int)(hx:-4294967296≤x)(hx':x<4294967296)(hy:0≤y)(hy':y<4294967296) :
 IntKind.u64.wrap (IntKind.u64.wrap x-y) % 4294967296=(x-y) % 4294967296∧IntKind.u64.wrap (IntKind.u64.wrap x-y) / 9223372036854775808=if x-y<0 then 1 else 0:=by
 rw[IntKind.wrap_u64,IntKind.wrap_u64]
 refine⟨gA,by split<;>omega⟩
theorem aaM (x:Int)(hx:-4294967296≤x)(hx':x<4294967296) :
 IntKind.u64.wrap x % 4294967296=x % 4294967296∧IntKind.u64.wrap x / 9223372036854775808=if x<0 then 1 else 0:=by
 rw[IntKind.wrap_u64]
 refine⟨gA,by split<;>omega⟩
theorem Gq (va vb:Value)(a b:List Int)(w:World)(ha:Sl w va a)(hb:Sl w vb b)(wa:WF a)(wb:WF b)(la:a.length≤40)(hl:b.length≤a.length)(hle:val b≤val a) :
 Calls prog 138 #[va,vb] w (gT w (val a-val b) a.length):=by
 obtain⟨ada,ca,rfl,qZ⟩:=iK ha
 obtain⟨adb,cb,rfl,qc⟩:=iK hb
 clear ha hb
 have HLE:=Zd hle
 have jg:=fun u=>qY (a.length:Int) gA gA u
 rw[Int.toNat_natCast]at jg
 clear hle
 go_enter func138,ntmps138
 go_wp2_with fail
 go_loopw [6,7] (fun c i wr=>∃(k:Nat) (z:Int) (rs:List Int),c=.int .u64 z∧i=.int .i64 k∧k≤a.length∧Hid (Rl a b a.length k z rs)∧wr=w.alloc (.cells (arr rs) 157)) (fun _ i _=>a.length-(intOf i).toNat)
 case atStart=>exact⟨0,0,_,rfl,rfl,Nat.zero_le _,aaL a b _,rfl⟩
 case round=>
  obtain⟨k,z,rs,rfl,rfl,hk,hA,rfl⟩:=hrel
  obtain⟨z0,z1⟩:0≤z∧z≤1:=⟨hA.out.2.2.2.1,hA.out.2.2.2.2.1⟩
  have hlen:Hid (rs.length=a.length):=hA.out.1
  by_cases hka:k<a.length
  ·obtain⟨ba,rfl,hba,hca⟩:=qZ gA
   have c1:=hca k hka
   obtain⟨x0,x1⟩:=wa k
   have g1:=mF rs k (by rw[hlen.out];omega)
   by_cases hkb:k<b.length
   ·obtain⟨bb,rfl,hbb,hcb⟩:=qc gA
    have c2:=hcb k hkb
    obtain⟨y0,y1⟩:=wb k
    have W:=Zd (adw (aC a k-z) (aC b k) gA gA y0 y1)
    have hA':=Zd (KT a b a.length k z (aC a k-z-aC b k) _ _ rs wa wb gA hA.out rfl W.out.1 W.out.2)
    clear hca hcb qZ qc jg
    go_wp2_with fail
    go_roundw
    case rel=>exact⟨k+1,_,_,rfl,by go_num,gA,hA'.out,by rw[kQ]⟩
    case measure=>simp[intOf];omega
   have W:=Zd (aaM (aC a k-z) gA gA)
   have hA':=Zd (KT a b a.length k z (aC a k-z) _ _ rs wa wb gA hA.out (by rw[dO b k gA];omega) W.out.1 W.out.2)
   clear qZ qc hca jg
   go_wp2_with fail
   go_roundw
   case rel=>exact⟨k+1,_,_,rfl,by go_num,gA,hA'.out,by rw[kQ]⟩
   case measure=>simp[intOf];omega
  have hkk:k=a.length:=gA
  subst hkk
  have F:=Zd (afQ a b z rs wa wb hl HLE.out hA.out)
  have tZ:=Zd (sN w rs a.length hlen.out)
  clear hA qZ qc jg
  go_wp2_with fail
  refine(nO _ rs _ tZ.out F.out.1 (by rw[hlen.out];omega)).mono ?_
  rintro e w1 ⟨v',l',rfl,s1,s2,s3,s4,s5,rfl⟩
  have G:=Zs (gT w (val a-val b) a.length (.returned v') _) (⟨v',l',rfl,s1,s2,s3,s4.trans F.out.2.1,by rw[hlen.out]at s5;exact s5,ak _ _ _⟩)
  clear s1 s2 s3 s4 s5 tZ hlen F
  generalize gT w (val a-val b) a.length=T at *
  go_wp2_with fail
  exact G.out
def kS (neg:Bool)(z:Int):Int:=if neg then -z else z
def Ww (w:World)(s:Int)(n:Nat)(e:Ending)(w':World):Prop:=
 ∃neg v' l',e=.returned (.tuple #[.bool neg,v'])∧Sl w' v' l'∧WF l'∧Top l'∧kS neg (val l')=s∧l'.length≤n∧w.grownBy w' none
theorem dh (w:World)(n:Nat)(r:Option Nat):w.grownBy (w.drewN n) r:=⟨rfl,rfl,rfl,Nat.le_refl _,fun _ _ _=>rfl⟩
theorem wD (a b:List Int)(wa:WF a)(wb:WF b)(tb:Top b)(h:val b≤val a):b.length≤a.length:=by
 by_cases hl:b.length≤a.length
 ·exact hl
 have:=Av a b wa wb tb gA;omega
theorem Za (xn yn:Bool)(va vb:Value)(a b:List Int)(w:World)(ha:Sl w va a)(hb:Sl w vb b)(wa:WF a)(wb:WF b)(ta:Top a)(tb:Top b)(la:a.length≤40)(lb:b.length≤40) :
 Calls prog 133 #[.bool xn,va,.bool yn,vb] w (Ww w (kS xn (val a)+kS yn (val b)) (max a.length b.length+1)):=by
 by_cases hs:xn=yn
 ·subst hs
  have h_:=Zd (show ∀v' w1,gT w (val a+val b) (max a.length b.length+1) (.returned v') w1→Ww w (kS xn (val a)+kS xn (val b)) (max a.length b.length+1) (.returned (.tuple #[.bool xn,v'])) w1 from by
   rintro v' w1 ⟨v2,l',h1,s1,s2,s3,s4,s5,s6⟩
   cases h1
   exact⟨xn,v',l',rfl,s1,s2,s3,by rw[s4];cases xn<;>simp[kS]<;>omega,s5,s6⟩)
  generalize Ww w _ _=T at *
  go_enter func133,ntmps133
  go_wp2_with fail
  refine(Qt va vb a b w ha hb wa wb la lb).mono ?_
  intro e w1 hg
  obtain⟨v',l',rfl,-⟩:=id hg
  have F:=Zd (h_.out v' w1 hg)
  clear hg ha hb
  go_wp2_with fail
  exact F.out
 have hb0:(xn==yn)=false:=by simp[hs]
 by_cases hle:val b≤val a
 ·have hc:decide (0≤fJ (val a) (val b))=true:=by unfold fJ;apply decide_eq_true;split<;>(try split)<;>omega
  have hsh:=wD a b wa wb tb hle
  have h_:=Zd (show ∀v' n w1,gT (w.drewN n) (val a-val b) a.length (.returned v') w1→Ww w (kS xn (val a)+kS yn (val b)) (max a.length b.length+1) (.returned (.tuple #[.bool xn,v'])) w1 from by
   rintro v' n w1 ⟨v2,l',h1,s1,s2,s3,s4,s5,s6⟩
   cases h1
   refine⟨xn,v',l',rfl,s1,s2,s3,?_,gA,aB (dh w n none) s6⟩
   rw[s4]
   cases xn<;>cases yn<;>simp[kS]at hs ⊢<;>omega)
  have HLE:=Zd hle
  clear hs hle
  generalize Ww w _ _=T at *
  go_enter func133,ntmps133
  go_wp2_with fail
  refine(t_ va vb a b w ha hb wa wb ta tb gA gA).mono ?_
  rintro e w1 ⟨rfl,n,rfl⟩
  go_wp2_with fail
  refine(Gq va vb a b (w.drewN n) (jF ha (dh w n none)) (jF hb (dh w n none)) wa wb la hsh HLE.out).mono ?_
  intro e w1 hg
  obtain⟨v',l',rfl,-⟩:=id hg
  have F:=Zd (h_.out v' n w1 hg)
  clear hg ha hb hc
  go_wp2_with fail
  exact F.out
 have hc:decide (0≤fJ (val a) (val b))=false:=by unfold fJ;apply decide_eq_false;split<;>(try split)<;>omega
 have hsh:=wD b a wb wa ta gA
 have h_:=Zd (show ∀v' n w1,gT (w.drewN n) (val b-val a) b.length (.returned v') w1→Ww w (kS xn (val a)+kS yn (val b)) (max a.length b.length+1) (.returned (.tuple #[.bool yn,v'])) w1 from by
  rintro v' n w1 ⟨v2,l',h1,s1,s2,s3,s4,s5,s6⟩
  cases h1
  refine⟨yn,v',l',rfl,s1,s2,s3,?_,gA,aB (dh w n none) s6⟩
  rw[s4]
  cases xn<;>cases yn<;>simp[kS]at hs ⊢<;>omega)
 have HLE:Hid (val a≤val b):=by unfold Hid;omega
 clear hs hle
 generalize Ww w _ _=T at *
 go_enter func133,ntmps133
 go_wp2_with fail
 refine(t_ va vb a b w ha hb wa wb ta tb gA gA).mono ?_
 rintro e w1 ⟨rfl,n,rfl⟩
 go_wp2_with fail
 refine(Gq vb va b a (w.drewN n) (jF hb (dh w n none)) (jF ha (dh w n none)) wb wa lb hsh HLE.out).mono ?_
 intro e w1 hg
 obtain⟨v',l',rfl,-⟩:=id hg
 have F:=Zd (h_.out v' n w1 hg)
 clear hg ha hb hc
 go_wp2_with fail
 exact F.out
theorem Wx {w:World}{base:Nat}{v:Value}{l:List Int}(h:w.ownsRow base 157 1 v l.length (l.map (Value.int .u32))):Sl w v l:=by
 obtain⟨h1,h2⟩:=h
 rcases h2 with⟨h2,h3⟩|⟨g,cap,cur,h2,_,h4,h5,_,h7,h8⟩
 ·exact Or.inl ⟨h2,List.length_eq_zero_iff.1 h3⟩
 refine Or.inr ⟨g,cap,cur,h2,h5,h4,fun i hi=>?_⟩
 have e:(cur.toList.take (l.length*1))[i]?=(l.map (Value.int .u32))[i]?:=by rw[h8]
 rw[List.getElem?_take,if_pos gA,Array.getElem?_toList]at e
 rw[e]
 simp[aC,List.getD,hi]
theorem Gs (v:Value)(l:List Int)(w:World)(hs:Sl w v l)(hw:WF l)(ht:Top l)(hl:l.length≤100) :
 Calls prog 219 #[v] w (gT w (val l) l.length):=by
 rcases hs with⟨rfl,rfl⟩|⟨b,c,cs,rfl,hc,hb,hcs⟩
 ·have F:=Zs (gT w (val []) 0 (.returned (.slice none 0 0)) w) (⟨_,[],rfl,qX _,hw,ht,rfl,Nat.le_refl _,aQ _ _⟩)
  show Calls prog 219 _ w (gT w (val []) 0)
  generalize gT w (val []) 0=T at *
  obtain⟨i0,hi,hz0,hz1,hz2⟩:=info_parts MJ
  go_enter func219,ntmps219
  go_wp2_with (at_builtin;refine wpList_append_own_none rfl _ _ 94 rfl 0 157 i0 1 underlying94 hi _ 0 [] rfl (World.ownsRow_nil _ _ _ _) rfl ?_)
  exact F.out
 obtain⟨i0,hi,hz0,hz1,hz2⟩:=info_parts MJ
 have bH:∀i,i<l.length→w.cell? ⟨b,i,none⟩=some (.int .u32 (aC l i)):=fun i hi=>by rw[aI hb];exact hcs i hi
 have hnews:Hid (∀j u,(l.map (Value.int .u32))[j]?=some u→w.cell? ((⟨b,0,none⟩:Addr).add j)=some u):=by
  intro j u h
  have hj:j<l.length:=by
   by_cases hj:j<l.length
   ·exact hj
   rw[List.getElem?_eq_none (by simp;omega)]at h;cases h
  have e:(⟨b,0,none⟩:Addr).add j=⟨b,j,none⟩:=by unfold Addr.add;split<;>simp_all
  rw[e,bH j hj]
  simpa [aC,List.getD,hj] using h
 have hone:Hid (∀u∈l.map (Value.int .u32),u.oneCell'=true):=by
  intro u hu
  obtain⟨x,_,rfl⟩:=List.mem_map.1 hu
  rfl
 have h_:=Zd (show ∀v' w1,w1.ownsRow w.heap.size 157 1 v' l.length (l.map (Value.int .u32))→w.grownBy w1 none→gT w (val l) l.length (.returned v') w1 from fun v' w1 h1 h2=>
  ⟨v',l,rfl,Wx h1,hw,ht,rfl,Nat.le_refl _,h2⟩)
 clear bH hcs hb hw ht
 generalize gT w (val l) l.length=T at *
 go_enter func219,ntmps219
 go_wp2_with (at_builtin;refine wpList_append_own _ rfl _ _ 94 rfl w.heap.size 157 i0 (.int .u32 0) 1 4 underlying94 hi hz0 hz1 hz2 rfl (by decide) _ 0 [] rfl (World.ownsRow_nil _ _ _ _) ⟨b,0,none⟩ l.length c (l.map (Value.int .u32)) rfl ?c1 hnews.out hone.out ?c2 ?c3 (Nat.le_refl _) ?_)
 case c1=>simp
 case c2=>unfold maxLen;omega
 case c3=>omega
 intro v' w1 h1 h2 h3
 have F:=Zd (h_.out v' w1 h1 h2)
 clear h1 h2 h3 hnews hone
 go_wp2_with fail
 exact F.out
theorem fC {w:World}{b:Nat}{z:Int}(h:jJ w b z):∃v l,w.cell? ⟨b,0,none⟩=some (.bool (decide (z<0)))∧w.cell? ⟨b,1,none⟩=some v∧b<w.heap.size∧Sl w v l∧WF l∧Top l∧val l=z.natAbs∧l.length≤8:=by
 obtain⟨v,l,h1,h2,h3,h4,h5,h6⟩:=h
 exact⟨v,l,by rw[aI h1];rfl,by rw[aI h1];rfl,aN h1,h2,h3,h4,h5,h6⟩
theorem qw (z:Int):kS (decide (z<0)) (z.natAbs:Int)=z:=by
 unfold kS
 by_cases h:z<0<;>simp[h]<;>omega
theorem eY {w w':World}(h:w.grownBy w' none){b o:Nat}(hb:b<w.heap.size):w'.cell? ⟨b,o,none⟩=w.cell? ⟨b,o,none⟩:=World.cell?_of_block (h.block b hb (by simp))
theorem len8 {l:List Int}(hw:WF l)(ht:Top l){n:Bool}{z:Int}(h:kS n (val l)=z)(h1:-P 8<z)(h2:z<P 8):l.length≤8:=by
 have h0:=(pI l hw).1
 refine Ed l hw ht 8 ?_
 cases n<;>simp[kS]at h<;>omega
theorem jP (bz bx iP:Nat)(x y:Int)(w:World)(hz:Struct w bz)(hx:jJ w bx x)(hy:jJ w iP y)(h1:-P 8<x+y)(h2:x+y<P 8) :
 Calls prog 52 #[.pointer (some ⟨bz,0,none⟩),.pointer (some ⟨bx,0,none⟩),.pointer (some ⟨iP,0,none⟩)] w (fT w bz (x+y)):=by
 obtain⟨vx,lx,x0,x1,xb,xs,xw,xt,xv,xl⟩:=fC hx
 obtain⟨vy,ly,y0,y1,yb,ys,yw,yt,yv,yl⟩:=fC hy
 have ex:kS (decide (x<0)) (val lx)=x:=by rw[xv];exact qw x
 have ey:kS (decide (y<0)) (val ly)=y:=by rw[yv];exact qw y
 clear hx hy xv yv
 generalize decide (x<0)=nx at *
 generalize decide (y<0)=ny at *
 have SUM:=Zd (Za nx ny vx vy lx ly w.drew xs ys xw yw xt yt gA gA)
 have HE:Hid (kS nx (val lx)+kS ny (val ly)=x+y):=by unfold Hid;rw[ex,ey]
 have h_:=Zd (show ∀neg v' l' w1,Sl w1 v' l'→WF l'→Top l'→kS neg (val l')=kS nx (val lx)+kS ny (val ly)→w.drew.grownBy w1 none→
  (w1.cell? ⟨bx,0,none⟩=some (.bool nx)∧w1.cell? ⟨bx,1,none⟩=some vx∧w1.cell? ⟨iP,0,none⟩=some (.bool ny)∧w1.cell? ⟨iP,1,none⟩=some vy)∧Calls prog 132 #[.pointer (some ⟨bz,0,none⟩),.bool neg,v'] w1 (fun e w2=>e=.returned (.pointer (some ⟨bz,0,none⟩))∧fT w bz (x+y) e w2)from by
  intro neg v' l' w1 s1 s2 s3 s4 s6
  have g:w.grownBy w1 none:=⟨s6.os,s6.tape,s6.output,s6.size,s6.block⟩
  refine⟨⟨by rw[eY g xb];exact x0,by rw[eY g xb];exact x1,by rw[eY g yb];exact y0,by rw[eY g yb];exact y1⟩,?_⟩
  refine(jK bz neg v' l' w1 (bG hz g (by simp)) s1 s2 s3 (len8 s2 s3 (s4.trans HE.out) h1 h2)).mono ?_
  intro e w2 hm
  exact⟨hm.1,lW hm g (s4.trans HE.out)⟩)
 have hS:w.drew.cell? ⟨bx,0,none⟩=some (.bool nx)∧w.drew.cell? ⟨bx,1,none⟩=some vx∧w.drew.cell? ⟨iP,0,none⟩=some (.bool ny)∧w.drew.cell? ⟨iP,1,none⟩=some vy:=⟨x0,x1,y0,y1⟩
 clear ex ey xs ys xw yw xt yt xl yl HE hz h1 h2 xb yb x0 x1 y0 y1
 generalize fT w bz (x+y)=T at *
 go_enter func52,ntmps52
 go_wp2_with fail
 refine b_ 20 (fun w'=>w'.cell? ⟨bx,0,none⟩=some (.bool nx)∧w'.cell? ⟨bx,1,none⟩=some vx∧w'.cell? ⟨iP,0,none⟩=some (.bool ny)∧w'.cell? ⟨iP,1,none⟩=some vy) 22 (by rfl) _ rfl (by kernel_rfl) (fun aK=>?_)
 refine bF 0 hS aK fun aK=>?_
 refine bF 1 hS aK fun aK=>?_
 refine bF 2 hS aK fun aK=>?_
 refine bF 3 hS aK fun aK=>?_
 refine bF 4 hS aK fun aK=>?_
 refine bF 5 hS aK fun aK=>?_
 refine bF 6 hS aK fun aK=>?_
 refine bF 7 hS aK fun aK=>?_
 refine bF 8 hS aK fun aK=>?_
 refine bF 9 hS aK fun aK=>?_
 refine bF 10 hS aK fun aK=>?_
 refine bF 11 hS aK fun aK=>?_
 refine bF 12 hS aK fun aK=>?_
 refine bF 13 hS aK fun aK=>?_
 refine bF 14 hS aK fun aK=>?_
 refine bF 15 hS aK fun aK=>?_
 refine bF 16 hS aK fun aK=>?_
 refine kT 17 aK fun K hK=>?_
 (try simp only[sZ])
 go_simp
 refine SUM.out.mono ?_
 rintro e w1 ⟨neg,v',l',rfl,s1,s2,s3,s4,s5,s6⟩
 obtain⟨k1,k2⟩:=h_.out neg v' l' w1 s1 s2 s3 s4 s6
 have K1:=Zd k1
 have K2:=Zd k2
 clear s1 s2 s3 s4 s5 s6 k1 k2 SUM hS
 go_wp2_with fail
 refine hK.out _ _ (fun _=>K1.out) (fun aK=>?_)
 (try simp only[sZ])
 refine bF 18 K1.out aK fun aK=>?_
 refine bF 19 K1.out aK fun aK=>?_
 refine kT 20 aK fun K hK=>?_
 (try simp only[sZ])
 go_simp
 refine K2.out.mono ?_
 rintro e w2 ⟨rfl,hm⟩
 have HM:=Zd hm
 clear hm K1 K2
 go_wp2_with fail
 refine hK.out _ _ (fun h=>by cases h) (fun aK=>?_)
 (try simp only[sZ])
 refine bI _ _ _ _ (by rfl) ?_
 refine wpAny_take (i:=21) (v:=?v21) rfl (by kernel_rfl) (by kernel_rfl) (by kernel_rfl) (fun _ _ _ h=>h) (Or.inl ⟨by rfl,?y21⟩) ?r21
 case y21=>(intro w';go_simp;try with_reducible rfl)
 (try simp only[sZ])
 refine xP ?_
 go_wp2_with fail
 exact HM.out
theorem Gt (bz bx iP:Nat)(x y:Int)(w:World)(hz:Struct w bz)(hx:jJ w bx x)(hy:jJ w iP y)(h1:-P 8<x-y)(h2:x-y<P 8) :
 Calls prog 195 #[.pointer (some ⟨bz,0,none⟩),.pointer (some ⟨bx,0,none⟩),.pointer (some ⟨iP,0,none⟩)] w (fT w bz (x-y)):=by
 obtain⟨vx,lx,x0,x1,xb,xs,xw,xt,xv,xl⟩:=fC hx
 obtain⟨vy,ly,y0,y1,yb,ys,yw,yt,yv,yl⟩:=fC hy
 have ex:kS (decide (x<0)) (val lx)=x:=by rw[xv];exact qw x
 have ey:kS (decide (y<0)) (val ly)=y:=by rw[yv];exact qw y
 clear hx hy xv yv
 generalize decide (x<0)=nx at *
 generalize decide (y<0)=ny at *
 have SUM:=Zd (Za nx (!ny) vx vy lx ly w.drew xs ys xw yw xt yt gA gA)
 have HE:Hid (kS nx (val lx)+kS (!ny) (val ly)=x-y):=by unfold Hid;rw[ex,show kS (!ny) (val ly)=-kS ny (val ly) by cases ny<;>simp[kS],ey];omega
 have h_:=Zd (show ∀neg v' l' w1,Sl w1 v' l'→WF l'→Top l'→kS neg (val l')=kS nx (val lx)+kS (!ny) (val ly)→w.drew.grownBy w1 none→
  (w1.cell? ⟨bx,0,none⟩=some (.bool nx)∧w1.cell? ⟨bx,1,none⟩=some vx∧w1.cell? ⟨iP,0,none⟩=some (.bool ny)∧w1.cell? ⟨iP,1,none⟩=some vy)∧Calls prog 132 #[.pointer (some ⟨bz,0,none⟩),.bool neg,v'] w1 (fun e w2=>e=.returned (.pointer (some ⟨bz,0,none⟩))∧fT w bz (x-y) e w2)from by
  intro neg v' l' w1 s1 s2 s3 s4 s6
  have g:w.grownBy w1 none:=⟨s6.os,s6.tape,s6.output,s6.size,s6.block⟩
  refine⟨⟨by rw[eY g xb];exact x0,by rw[eY g xb];exact x1,by rw[eY g yb];exact y0,by rw[eY g yb];exact y1⟩,?_⟩
  refine(jK bz neg v' l' w1 (bG hz g (by simp)) s1 s2 s3 (len8 s2 s3 (s4.trans HE.out) h1 h2)).mono ?_
  intro e w2 hm
  exact⟨hm.1,lW hm g (s4.trans HE.out)⟩)
 have hS:w.drew.cell? ⟨bx,0,none⟩=some (.bool nx)∧w.drew.cell? ⟨bx,1,none⟩=some vx∧w.drew.cell? ⟨iP,0,none⟩=some (.bool ny)∧w.drew.cell? ⟨iP,1,none⟩=some vy:=⟨x0,x1,y0,y1⟩
 clear ex ey xs ys xw yw xt yt xl yl HE hz h1 h2 xb yb x0 x1 y0 y1
 generalize fT w bz (x-y)=T at *
 go_enter func195,ntmps195
 go_wp2_with fail
 refine b_ 21 (fun w'=>w'.cell? ⟨bx,0,none⟩=some (.bool nx)∧w'.cell? ⟨bx,1,none⟩=some vx∧w'.cell? ⟨iP,0,none⟩=some (.bool ny)∧w'.cell? ⟨iP,1,none⟩=some vy) 23 (by rfl) _ rfl (by kernel_rfl) (fun aK=>?_)
 refine bF 0 hS aK fun aK=>?_
 refine bF 1 hS aK fun aK=>?_
 refine bF 2 hS aK fun aK=>?_
 refine bF 3 hS aK fun aK=>?_
 refine bF 4 hS aK fun aK=>?_
 refine bF 5 hS aK fun aK=>?_
 refine bF 6 hS aK fun aK=>?_
 refine bF 7 hS aK fun aK=>?_
 refine bF 8 hS aK fun aK=>?_
 refine bF 9 hS aK fun aK=>?_
 refine bF 10 hS aK fun aK=>?_
 refine bF 11 hS aK fun aK=>?_
 refine bF 12 hS aK fun aK=>?_
 refine bF 13 hS aK fun aK=>?_
 refine bF 14 hS aK fun aK=>?_
 refine bF 15 hS aK fun aK=>?_
 refine bF 16 hS aK fun aK=>?_
 refine bF 17 hS aK fun aK=>?_
 refine kT 18 aK fun K hK=>?_
 (try simp only[sZ])
 go_simp
 refine SUM.out.mono ?_
 rintro e w1 ⟨neg,v',l',rfl,s1,s2,s3,s4,s5,s6⟩
 obtain⟨k1,k2⟩:=h_.out neg v' l' w1 s1 s2 s3 s4 s6
 have K1:=Zd k1
 have K2:=Zd k2
 clear s1 s2 s3 s4 s5 s6 k1 k2 SUM hS
 go_wp2_with fail
 refine hK.out _ _ (fun _=>K1.out) (fun aK=>?_)
 (try simp only[sZ])
 refine bF 19 K1.out aK fun aK=>?_
 refine bF 20 K1.out aK fun aK=>?_
 refine kT 21 aK fun K hK=>?_
 (try simp only[sZ])
 go_simp
 refine K2.out.mono ?_
 rintro e w2 ⟨rfl,hm⟩
 have HM:=Zd hm
 clear hm K1 K2
 go_wp2_with fail
 refine hK.out _ _ (fun h=>by cases h) (fun aK=>?_)
 (try simp only[sZ])
 refine bI _ _ _ _ (by rfl) ?_
 refine wpAny_take (i:=22) (v:=?v22) rfl (by kernel_rfl) (by kernel_rfl) (by kernel_rfl) (fun _ _ _ h=>h) (Or.inl ⟨by rfl,?y22⟩) ?r22
 case y22=>(intro w';go_simp;try with_reducible rfl)
 (try simp only[sZ])
 refine xP ?_
 go_wp2_with fail
 exact HM.out
theorem Wy (bz bx:Nat)(x:Int)(w:World)(hz:Struct w bz)(hx:jJ w bx x)(h1:-P 8 < -x)(h2:-x<P 8) :
 Calls prog 194 #[.pointer (some ⟨bz,0,none⟩),.pointer (some ⟨bx,0,none⟩)] w (fT w bz (-x)):=by
 obtain⟨vx,lx,x0,x1,xb,xs,xw,xt,xv,xl⟩:=fC hx
 have ex:kS (decide (x<0)) (val lx)=x:=by rw[xv];exact qw x
 clear hx xv
 generalize decide (x<0)=nx at *
 have SUM:=Zd (Gs vx lx w.drew xs xw xt gA)
 have HE:Hid (kS (!nx) (val lx)=-x):=by unfold Hid;rw[show kS (!nx) (val lx)=-kS nx (val lx) by cases nx<;>simp[kS],ex]
 have h_:=Zd (show ∀v' l' w1,Sl w1 v' l'→WF l'→Top l'→val l'=val lx→w.drew.grownBy w1 none→
  (w1.cell? ⟨bx,0,none⟩=some (.bool nx)∧w1.cell? ⟨bx,1,none⟩=some vx)∧Calls prog 132 #[.pointer (some ⟨bz,0,none⟩),.bool (!nx),v'] w1 (fun e w2=>e=.returned (.pointer (some ⟨bz,0,none⟩))∧fT w bz (-x) e w2)from by
  intro v' l' w1 s1 s2 s3 s4 s6
  have g:w.grownBy w1 none:=⟨s6.os,s6.tape,s6.output,s6.size,s6.block⟩
  have hv:kS (!nx) (val l')=-x:=by rw[s4];exact HE.out
  refine⟨⟨by rw[eY g xb];exact x0,by rw[eY g xb];exact x1⟩,?_⟩
  refine(jK bz (!nx) v' l' w1 (bG hz g (by simp)) s1 s2 s3 (len8 s2 s3 hv h1 h2)).mono ?_
  intro e w2 hm
  exact⟨hm.1,lW hm g hv⟩)
 have hS:w.drew.cell? ⟨bx,0,none⟩=some (.bool nx)∧w.drew.cell? ⟨bx,1,none⟩=some vx:=⟨x0,x1⟩
 clear ex xs xw xt xl HE hz h1 h2 xb x0 x1
 generalize fT w bz (-x)=T at *
 go_enter func194,ntmps194
 go_wp2_with fail
 refine b_ 11 (fun w'=>w'.cell? ⟨bx,0,none⟩=some (.bool nx)∧w'.cell? ⟨bx,1,none⟩=some vx) 13 (by rfl) _ rfl (by kernel_rfl) (fun aK=>?_)
 refine bF 0 hS aK fun aK=>?_
 refine bF 1 hS aK fun aK=>?_
 refine bF 2 hS aK fun aK=>?_
 refine bF 3 hS aK fun aK=>?_
 refine bF 4 hS aK fun aK=>?_
 refine bF 5 hS aK fun aK=>?_
 refine bF 6 hS aK fun aK=>?_
 refine bF 7 hS aK fun aK=>?_
 refine bF 8 hS aK fun aK=>?_
 refine bF 9 hS aK fun aK=>?_
 refine kT 10 aK fun K hK=>?_
 (try simp only[sZ])
 go_simp
 refine SUM.out.mono ?_
 rintro e w1 ⟨v',l',rfl,s1,s2,s3,s4,s5,s6⟩
 obtain⟨k1,k2⟩:=h_.out v' l' w1 s1 s2 s3 s4 s6
 have K1:=Zd k1
 have K2:=Zd k2
 clear s1 s2 s3 s4 s5 s6 k1 k2 SUM hS
 go_wp2_with fail
 refine hK.out _ _ (fun _=>K1.out) (fun aK=>?_)
 (try simp only[sZ])
 refine kT 11 aK fun K hK=>?_
 (try simp only[sZ])
 go_simp
 refine K2.out.mono ?_
 rintro e w2 ⟨rfl,hm⟩
 have HM:=Zd hm
 clear hm K1 K2
 go_wp2_with fail
 refine hK.out _ _ (fun h=>by cases h) (fun aK=>?_)
 (try simp only[sZ])
 refine bI _ _ _ _ (by rfl) ?_
 refine wpAny_take (i:=12) (v:=?v12) rfl (by kernel_rfl) (by kernel_rfl) (by kernel_rfl) (fun _ _ _ h=>h) (Or.inl ⟨by rfl,?y12⟩) ?r12
 case y12=>(intro w';go_simp;try with_reducible rfl)
 (try simp only[sZ])
 refine xP ?_
 go_wp2_with fail
 exact HM.out
theorem Wz (bz bx:Nat)(x:Int)(w:World)(hz:Struct w bz)(hx:jJ w bx x)(h1:-P 8<x)(h2:x<P 8) :
 Calls prog 230 #[.pointer (some ⟨bz,0,none⟩),.pointer (some ⟨bx,0,none⟩)] w (fT w bz (x)):=by
 obtain⟨vx,lx,x0,x1,xb,xs,xw,xt,xv,xl⟩:=fC hx
 have ex:kS (decide (x<0)) (val lx)=x:=by rw[xv];exact qw x
 clear hx xv
 generalize decide (x<0)=nx at *
 have SUM:=Zd (Gs vx lx w.drew xs xw xt gA)
 have HE:Hid (kS nx (val lx)=x):=by unfold Hid;exact ex
 have h_:=Zd (show ∀v' l' w1,Sl w1 v' l'→WF l'→Top l'→val l'=val lx→w.drew.grownBy w1 none→
  (w1.cell? ⟨bx,0,none⟩=some (.bool nx)∧w1.cell? ⟨bx,1,none⟩=some vx)∧Calls prog 132 #[.pointer (some ⟨bz,0,none⟩),.bool nx,v'] w1 (fun e w2=>e=.returned (.pointer (some ⟨bz,0,none⟩))∧fT w bz (x) e w2)from by
  intro v' l' w1 s1 s2 s3 s4 s6
  have g:w.grownBy w1 none:=⟨s6.os,s6.tape,s6.output,s6.size,s6.block⟩
  have hv:kS nx (val l')=x:=by rw[s4];exact HE.out
  refine⟨⟨by rw[eY g xb];exact x0,by rw[eY g xb];exact x1⟩,?_⟩
  refine(jK bz nx v' l' w1 (bG hz g (by simp)) s1 s2 s3 (len8 s2 s3 hv h1 h2)).mono ?_
  intro e w2 hm
  exact⟨hm.1,lW hm g hv⟩)
 have hS:w.drew.cell? ⟨bx,0,none⟩=some (.bool nx)∧w.drew.cell? ⟨bx,1,none⟩=some vx:=⟨x0,x1⟩
 clear ex xs xw xt xl HE hz h1 h2 xb x0 x1
 generalize fT w bz (x)=T at *
 go_enter func230,ntmps230
 go_wp2_with fail
 refine b_ 10 (fun w'=>w'.cell? ⟨bx,0,none⟩=some (.bool nx)∧w'.cell? ⟨bx,1,none⟩=some vx) 12 (by rfl) _ rfl (by kernel_rfl) (fun aK=>?_)
 refine bF 0 hS aK fun aK=>?_
 refine bF 1 hS aK fun aK=>?_
 refine bF 2 hS aK fun aK=>?_
 refine bF 3 hS aK fun aK=>?_
 refine bF 4 hS aK fun aK=>?_
 refine bF 5 hS aK fun aK=>?_
 refine bF 6 hS aK fun aK=>?_
 refine bF 7 hS aK fun aK=>?_
 refine bF 8 hS aK fun aK=>?_
 refine kT 9 aK fun K hK=>?_
 (try simp only[sZ])
 go_simp
 refine SUM.out.mono ?_
 rintro e w1 ⟨v',l',rfl,s1,s2,s3,s4,s5,s6⟩
 obtain⟨k1,k2⟩:=h_.out v' l' w1 s1 s2 s3 s4 s6
 have K1:=Zd k1
 have K2:=Zd k2
 clear s1 s2 s3 s4 s5 s6 k1 k2 SUM hS
 go_wp2_with fail
 refine hK.out _ _ (fun _=>K1.out) (fun aK=>?_)
 (try simp only[sZ])
 refine kT 10 aK fun K hK=>?_
 (try simp only[sZ])
 go_simp
 refine K2.out.mono ?_
 rintro e w2 ⟨rfl,hm⟩
 have HM:=Zd hm
 clear hm K1 K2
 go_wp2_with fail
 refine hK.out _ _ (fun h=>by cases h) (fun aK=>?_)
 (try simp only[sZ])
 refine bI _ _ _ _ (by rfl) ?_
 refine wpAny_take (i:=11) (v:=?v11) rfl (by kernel_rfl) (by kernel_rfl) (by kernel_rfl) (fun _ _ _ h=>h) (Or.inl ⟨by rfl,?y11⟩) ?r11
 case y11=>(intro w';go_simp;try with_reducible rfl)
 (try simp only[sZ])
 refine xP ?_
 go_wp2_with fail
 exact HM.out
theorem Gu (bz bx:Nat)(x:Int)(q s:Nat)(hq:q≤8)(hs:s<32)(w:World)(hz:Struct w bz)(hx:jJ w bx x)(h1:-P 8<x*2^s*P q)(h2:x*2^s*P q<P 8) :
 Calls prog 57 #[.pointer (some ⟨bz,0,none⟩),.pointer (some ⟨bx,0,none⟩),.int .u64 (32*q+s)] w (fT w bz (x*2^s*P q)):=by
 obtain⟨vx,lx,x0,x1,xb,xs,xw,xt,xv,xl⟩:=fC hx
 have ex:kS (decide (x<0)) (val lx)=x:=by rw[xv];exact qw x
 clear hx xv
 generalize decide (x<0)=nx at *
 have SUM:=Zd (acO vx lx q s w.drew xs xw gA gA hs)
 have HE:Hid (kS nx (val lx*2^s*P q)=x*2^s*P q):=by unfold Hid;rw[show kS nx (val lx*2^s*P q)=kS nx (val lx)*2^s*P q by cases nx<;>simp[kS,Int.neg_mul],ex]
 have h_:=Zd (show ∀v' l' w1,Sl w1 v' l'→WF l'→Top l'→val l'=val lx*2^s*P q→w.drew.grownBy w1 none→
  (w1.cell? ⟨bx,0,none⟩=some (.bool nx)∧w1.cell? ⟨bx,1,none⟩=some vx)∧Calls prog 132 #[.pointer (some ⟨bz,0,none⟩),.bool nx,v'] w1 (fun e w2=>e=.returned (.pointer (some ⟨bz,0,none⟩))∧fT w bz (x*2^s*P q) e w2)from by
  intro v' l' w1 s1 s2 s3 s4 s6
  have g:w.grownBy w1 none:=⟨s6.os,s6.tape,s6.output,s6.size,s6.block⟩
  have hv:kS nx (val l')=x*2^s*P q:=by rw[s4];exact HE.out
  refine⟨⟨by rw[eY g xb];exact x0,by rw[eY g xb];exact x1⟩,?_⟩
  refine(jK bz nx v' l' w1 (bG hz g (by simp)) s1 s2 s3 (len8 s2 s3 hv h1 h2)).mono ?_
  intro e w2 hm
  exact⟨hm.1,lW hm g hv⟩)
 have hS:w.drew.cell? ⟨bx,0,none⟩=some (.bool nx)∧w.drew.cell? ⟨bx,1,none⟩=some vx:=⟨x0,x1⟩
 clear ex xs xw xt xl HE hz h1 h2 xb x0 x1
 generalize fT w bz (x*2^s*P q)=T at *
 go_enter func57,ntmps57
 go_wp2_with fail
 refine b_ 11 (fun w'=>w'.cell? ⟨bx,0,none⟩=some (.bool nx)∧w'.cell? ⟨bx,1,none⟩=some vx) 13 (by rfl) _ rfl (by kernel_rfl) (fun aK=>?_)
 refine bF 0 hS aK fun aK=>?_
 refine bF 1 hS aK fun aK=>?_
 refine bF 2 hS aK fun aK=>?_
 refine bF 3 hS aK fun aK=>?_
 refine bF 4 hS aK fun aK=>?_
 refine bF 5 hS aK fun aK=>?_
 refine bF 6 hS aK fun aK=>?_
 refine bF 7 hS aK fun aK=>?_
 refine bF 8 hS aK fun aK=>?_
 refine bF 9 hS aK fun aK=>?_
 refine kT 10 aK fun K hK=>?_
 (try simp only[sZ])
 go_simp
 refine SUM.out.mono ?_
 rintro e w1 ⟨v',l',rfl,s1,s2,s3,s4,s5,s6⟩
 obtain⟨k1,k2⟩:=h_.out v' l' w1 s1 s2 s3 s4 s6
 have K1:=Zd k1
 have K2:=Zd k2
 clear s1 s2 s3 s4 s5 s6 k1 k2 SUM hS
 go_wp2_with fail
 refine hK.out _ _ (fun _=>K1.out) (fun aK=>?_)
 (try simp only[sZ])
 refine kT 11 aK fun K hK=>?_
 (try simp only[sZ])
 go_simp
 refine K2.out.mono ?_
 rintro e w2 ⟨rfl,hm⟩
 have HM:=Zd hm
 clear hm K1 K2
 go_wp2_with fail
 refine hK.out _ _ (fun h=>by cases h) (fun aK=>?_)
 (try simp only[sZ])
 refine bI _ _ _ _ (by rfl) ?_
 refine wpAny_take (i:=12) (v:=?v12) rfl (by kernel_rfl) (by kernel_rfl) (by kernel_rfl) (fun _ _ _ h=>h) (Or.inl ⟨by rfl,?y12⟩) ?r12
 case y12=>(intro w';go_simp;try with_reducible rfl)
 (try simp only[sZ])
 refine xP ?_
 go_wp2_with fail
 exact HM.out
theorem WB (x y:Int)(lx ly:List Int)(xw:WF lx)(yw:WF ly)(hx:val lx=x.natAbs)(hy:val ly=y.natAbs) :
 fJ x y=if x<0 then(if y<0 then fJ (val ly) (val lx)else -1)else(if y<0 then 1 else fJ (val lx) (val ly)):=by
 unfold fJ
 rw[hx,hy]
 repeat' split
 all_goals omega
theorem ady (x y:Int):-fJ x y=fJ y x:=by unfold fJ;repeat' split;all_goals omega
theorem afR (x y:Int):-1≤fJ x y∧fJ x y≤1:=by unfold fJ;repeat' split;all_goals omega
theorem uW (bx iP:Nat)(x y:Int)(w:World)(hx:jJ w bx x)(hy:jJ w iP y) :
 Calls prog 196 #[.pointer (some ⟨bx,0,none⟩),.pointer (some ⟨iP,0,none⟩)] w (uR w (.int .i64 (fJ x y))):=by
 obtain⟨vx,lx,x0,x1,xb,xs,xw,xt,xv,xl⟩:=fC hx
 obtain⟨vy,ly,y0,y1,yb,ys,yw,yt,yv,yl⟩:=fC hy
 clear hx hy
 rw[WB x y lx ly xw yw xv yv]
 have Uy:=Zs (∀n,Calls prog 197 #[vx,vy] (w.drewN n) (fun e w'=>e=.returned (.int .i64 (fJ (val lx) (val ly)))∧∃m,w'=w.drewN m)) (fun n=>(t_ vx vy lx ly (w.drewN n) (jF xs (dh w n none)) (jF ys (dh w n none)) xw yw xt yt gA gA).mono fun e w' h=>⟨h.1,by obtain⟨m,hm⟩:=h.2;exact⟨n+m,by rw[hm,World.drewN_drewN]⟩⟩)
 obtain⟨b1,b2⟩:=afR (val lx) (val ly)
 have HN:=Zd (ady (val lx) (val ly))
 clear xs ys xw yw xt yt xv yv xl yl
 by_cases hxn:x<0
 ·rw[if_pos hxn]
  have dx:decide (x<0)=true:=decide_eq_true hxn
  rw[dx]at x0
  clear dx hxn
  by_cases hyn:y<0
  ·rw[if_pos hyn]
   have dy:decide (y<0)=true:=decide_eq_true hyn
   rw[dy]at y0
   clear dy hyn
   have F:=Zs (∀m,uR w (.int .i64 (fJ (val ly) (val lx))) (.returned (.int .i64 (-fJ (val lx) (val ly)))) (w.drewN m)) (fun m=>⟨by rw[HN.out],m,rfl⟩)
   generalize uR w (.int .i64 (fJ (val ly) (val lx)))=T at *
   go_enter func196,ntmps196
   go_wp2_with fail
   go_quiet (fail)
   go_wp2_with fail
   go_region_held3 (fun w'=>w'.cell? ⟨bx,0,none⟩=some (.bool true)∧w'.cell? ⟨bx,1,none⟩=some vx∧w'.cell? ⟨iP,1,none⟩=some vy) (simp[*])
    (first|(go_at_call 197;refine(Uy.out _).mono ?_;rintro e w1 ⟨rfl,m,rfl⟩))
   go_wp2_with fail
   exact F.out _
  rw[if_neg hyn]
  have dy:decide (y<0)=false:=decide_eq_false hyn
  rw[dy]at y0
  clear dy hyn
  have F:=Zs (∀m,uR w (.int .i64 (-1)) (.returned (.int .i64 (-1))) (w.drewN m)) (fun m=>⟨rfl,m,rfl⟩)
  generalize uR w (.int .i64 (-1))=T at *
  go_enter func196,ntmps196
  go_wp2_with fail
  go_quiet (fail)
  go_wp2_with fail
  exact F.out _
 rw[if_neg hxn]
 have dx:decide (x<0)=false:=decide_eq_false hxn
 rw[dx]at x0
 clear dx hxn
 by_cases hyn:y<0
 ·rw[if_pos hyn]
  have dy:decide (y<0)=true:=decide_eq_true hyn
  rw[dy]at y0
  clear dy hyn
  have F:=Zs (∀m,uR w (.int .i64 1) (.returned (.int .i64 1)) (w.drewN m)) (fun m=>⟨rfl,m,rfl⟩)
  generalize uR w (.int .i64 1)=T at *
  go_enter func196,ntmps196
  go_wp2_with fail
  go_quiet (fail)
  go_wp2_with fail
  exact F.out _
 rw[if_neg hyn]
 have dy:decide (y<0)=false:=decide_eq_false hyn
 rw[dy]at y0
 clear dy hyn
 have F:=Zs (∀m,uR w (.int .i64 (fJ (val lx) (val ly))) (.returned (.int .i64 (fJ (val lx) (val ly)))) (w.drewN m)) (fun m=>⟨rfl,m,rfl⟩)
 generalize uR w (.int .i64 (fJ (val lx) (val ly)))=T at *
 go_enter func196,ntmps196
 go_wp2_with fail
 go_quiet (fail)
 go_wp2_with fail
 go_region_held3 (fun w'=>w'.cell? ⟨bx,0,none⟩=some (.bool false)∧w'.cell? ⟨bx,1,none⟩=some vx∧w'.cell? ⟨iP,1,none⟩=some vy) (simp[*])
  (first|(go_at_call 197;refine(Uy.out _).mono ?_;rintro e w1 ⟨rfl,m,rfl⟩))
 go_wp2_with fail
 exact F.out _
def lY (w:World)(r:Value)(e:Ending)(w':World):Prop:=e=.returned r∧w'=w
theorem Gv (x y:Int)(hx:0≤x)(hx':x<4294967296)(hy:0≤y)(hy':y<4294967296):bits .or .u64 x (y*4294967296)=x+y*4294967296:=by
 rw[u64_or x (y*4294967296) hx gA gA gA]
 obtain⟨x,rfl⟩:=Int.eq_ofNat_of_zero_le hx
 obtain⟨y,rfl⟩:=Int.eq_ofNat_of_zero_le hy
 have e:((y:Int)*4294967296).toNat=y*4294967296:=gA
 rw[e,Int.toNat_natCast]
 have h3:=Nat.shiftLeft_add_eq_or_of_lt (show x<2^32 by omega) y
 rw[Nat.shiftLeft_eq]at h3
 rw[Nat.or_comm,show y*4294967296=y*2^32 by rfl,←h3]
 omega
theorem Rm (l:List Int)(h:l.length=2):val l=aC l 0+aC l 1*4294967296:=by
 unfold val;rw[h]
 show 0+aC l 0*P 0+aC l 1*P 1=_
 have:P 1=4294967296:=rfl
 rw[this,yC];omega
theorem z_ (l:List Int)(h:l.length=1):val l=aC l 0:=by
 unfold val;rw[h]
 show 0+aC l 0*P 0=_
 rw[yC];omega
theorem afS (bx:Nat)(x:Int)(w:World)(hx:jJ w bx x)(h1:-18446744073709551616<x)(h2:x<18446744073709551616) :
 Calls prog 140 #[.pointer (some ⟨bx,0,none⟩)] w (lY w (.int .u64 x.natAbs)):=by
 obtain⟨vx,lx,x0,x1,xb,xs,xw,xt,xv,xl⟩:=fC hx
 have hl:=Ed lx xw xt 2 (by rw[P2,xv];omega)
 obtain⟨ad,c,rfl,hv⟩:=iK xs
 have hlen:lx.length=0∨lx.length=1∨lx.length=2:=gA
 rw[←xv]
 clear hx xv xs xl x0 h1 h2
 rcases hlen with h|h|h
 ·have e:val lx=0:=by rw[List.length_eq_zero_iff.1 h];rfl
  rw[e]
  rw[h]at x1
  have F:=Zs (lY w (.int .u64 0) (.returned (.int .u64 0)) w) (⟨rfl,rfl⟩)
  generalize lY w (.int .u64 0)=T at *
  clear e h hv
  go_enter func140,ntmps140
  go_wp2_with fail
  exact F.out
 ·obtain⟨b,rfl,hb,hc⟩:=hv gA
  have c0:=hc 0 gA
  have w0:=xw 0
  rw[z_ lx h]
  rw[h]at x1
  have F:=Zs (lY w (.int .u64 (aC lx 0)) (.returned (.int .u64 (aC lx 0))) w) (⟨rfl,rfl⟩)
  generalize lY w (.int .u64 (aC lx 0))=T at *
  obtain⟨w0,w1⟩:=w0
  clear h hv hc xw xt
  go_enter func140,ntmps140
  go_wp2_with fail
  exact F.out
 obtain⟨b,rfl,hb,hc⟩:=hv gA
 have c0:=hc 0 gA
 have c1:=hc 1 gA
 have w0:=xw 0
 have w1:=xw 1
 rw[Rm lx h]
 rw[h]at x1
 have hor:=Gv (aC lx 0) (aC lx 1) w0.1 w0.2 w1.1 w1.2
 have F:=Zs (lY w (.int .u64 (aC lx 0+aC lx 1*4294967296)) (.returned (.int .u64 (aC lx 0+aC lx 1*4294967296))) w) (⟨rfl,rfl⟩)
 generalize lY w (.int .u64 (aC lx 0+aC lx 1*4294967296))=T at *
 obtain⟨w00,w01⟩:=w0
 obtain⟨w10,w11⟩:=w1
 clear h hv hc xw xt
 go_enter func140,ntmps140
 go_wp2_with fail
 exact F.out
theorem nT (bx:Nat)(x:Int)(w:World)(hx:jJ w bx x)(h1:-9223372036854775808≤x)(h2:x≤9223372036854775807) :
 Calls prog 58 #[.pointer (some ⟨bx,0,none⟩)] w (lY w (.int .i64 x)):=by
 obtain⟨vx,lx,x0,-⟩:=fC hx
 have U:=Zd (afS bx x w hx gA gA)
 clear hx
 by_cases hn:x<0
 ·rw[decide_eq_true hn]at x0
  have e:wrap64 (-wrap64 (x.natAbs:Int))=x:=by unfold wrap64;omega
  have F:=Zs (lY w (.int .i64 x) (.returned (.int .i64 (wrap64 (-wrap64 (x.natAbs:Int))))) w) (⟨by rw[e],rfl⟩)
  generalize lY w (.int .i64 x)=T at *
  clear e
  obtain⟨m,hm⟩:∃m:Int,m=(x.natAbs:Int):=⟨_,rfl⟩
  rw[←hm]at U F
  clear hm h1 h2 hn
  go_enter func58,ntmps58
  go_wp2_with fail
  refine U.out.mono ?_
  rintro e w' ⟨rfl,rfl⟩
  clear U
  go_wp2_with fail
  exact F.out
 rw[decide_eq_false hn]at x0
 have e:(x.natAbs:Int)=x:=gA
 rw[e]at U
 have F:=Zs (lY w (.int .i64 x) (.returned (.int .i64 x)) w) (⟨rfl,rfl⟩)
 generalize lY w (.int .i64 x)=T at *
 clear e
 go_enter func58,ntmps58
 go_wp2_with fail
 refine U.out.mono ?_
 rintro e w' ⟨rfl,rfl⟩
 clear U
 go_wp2_with fail
 exact F.out
theorem aaN (l:List Int)(h:WF l)(k:Nat):∃V:Int,0≤V∧val l=cZ l k+P k*V:=by
 by_cases hk:l.length≤k
 ·exact⟨0,gA,by rw[lD l k hk];omega⟩
 have key:∀d,∃V:Int,0≤V∧cZ l (k+d)=cZ l k+P k*V:=by
  intro d
  induction d with
  | zero=>exact⟨0,gA,by simp⟩
  | succ d ih=>
   obtain⟨V,v0,hv⟩:=ih
   refine⟨V+aC l (k+d)*P d,?_,?_⟩
   ·have:=Int.mul_nonneg (h (k+d)).1 (Int.le_of_lt (nD d));omega
   rw[←Nat.add_assoc,cZ,hv,Ph,Int.mul_add,Int.mul_left_comm (P k)]
   omega
 obtain⟨V,v0,hv⟩:=key (l.length-k)
 refine⟨V,v0,?_⟩
 rw[show k+(l.length-k)=l.length by omega]at hv
 exact hv
def upper (l:List Int)(k:Nat):Int:=val l / P k
theorem su (l:List Int)(h:WF l)(k:Nat):val l=cZ l k+P k*upper l k∧0≤upper l k:=by
 obtain⟨V,v0,hv⟩:=aaN l h k
 obtain⟨b0,b1⟩:=oM l h k
 have:upper l k=V:=by
  unfold upper
  rw[hv,Int.add_mul_ediv_left _ _ (by have:=nD k;omega),Int.ediv_eq_zero_of_lt b0 b1]
  omega
 rw[this];exact⟨hv,v0⟩
theorem sD (l:List Int)(h:WF l)(k:Nat):upper l k=aC l k+4294967296*upper l (k+1):=by
 obtain⟨h1,_⟩:=su l h k
 obtain⟨h2,_⟩:=su l h (k+1)
 rw[cZ,uG]at h2
 have e:P k*upper l k=P k*(aC l k+4294967296*upper l (k+1)):=by
  rw[Int.mul_add,←Int.mul_assoc,Int.mul_comm (P k) (aC l k)]
  omega
 exact Int.eq_of_mul_eq_mul_left (by have:=nD k;omega) e
theorem aaO (l:List Int)(j k:Nat):upper l j / P k=upper l (j+k):=by
 unfold upper
 rw[Ph,Int.ediv_ediv_of_nonneg (Int.le_of_lt (nD j))]
theorem Gw (l:List Int)(k:Nat)(h:WF l)(hk:l.length≤k):upper l k=0:=by
 have:=pI l h
 have:=uH _ _ hk
 unfold upper
 exact Int.ediv_eq_zero_of_lt gA gA
theorem aaP (a b T:Int)(s:Nat)(hs:s<32):(a+4294967296*(b+4294967296*T)) / 2^s % 4294967296=(a+b*4294967296) / 2^s % 4294967296:=by
 have e:(4294967296:Int)=2^s*2^(32-s):=by rw[←Int.pow_add,show s+(32-s)=32 by omega];rfl
 have hp:(2:Int)^s≠0:=by have:(0:Int)<2^s:=Int.pow_pos (by decide);omega
 have e1:a+4294967296*(b+4294967296*T)=(a+b*4294967296)+2^s*(2^(32-s)*(4294967296*T)):=by
  rw[←Int.mul_assoc (2^s),←e,Int.mul_add,Int.mul_comm b]
  omega
 rw[e1,Int.add_mul_ediv_left _ _ hp,←Int.mul_assoc,Int.mul_comm (2^(32-s)),Int.mul_assoc,Int.add_mul_emod_self_left]
def Aa (l:List Int)(q s k:Nat)(rs:List Int):Prop:=
 rs.length=l.length-q∧WF rs∧cZ rs k=upper l q / 2^s % P k∧∀j,k≤j→aC rs j=0
theorem Rn (l:List Int)(q s:Nat):Aa l q s 0 (List.replicate (l.length-q) 0):=
 ⟨by simp,tq _,by rw[yC,Int.emod_one];rfl,fun j _=>kV _ _⟩
theorem Cz (l:List Int)(q s k:Nat)(rs:List Int)(hl:WF l)(hs:s<32)(hk:k<l.length-q)(h:Aa l q s k rs)(v:Int)(hv:v=(aC l (k+q)+aC l (k+q+1)*4294967296) / 2^s % 4294967296) :
 Aa l q s (k+1) (rs.set k v):=by
 obtain⟨h1,h2,h3,h4⟩:=h
 have nn:∀i,aC (rs.set k v) i=if i=k then v else aC rs i:=fun i=>kU _ _ _ _ gA
 have v0:0≤v∧v<4294967296:=by rw[hv];exact⟨Int.emod_nonneg _ (by decide),Int.emod_lt_of_pos _ (by decide)⟩
 refine⟨by simp;omega,uI _ _ _ h2 gA v0.1 v0.2,?_,fun j hj=>by rw[nn,if_neg gA];exact h4 j gA⟩
 rw[cZ,nn,if_pos rfl,iY _ rs k (fun i hi=>by rw[nn,if_neg gA]),h3,uG]
 have d1:=sD l hl (q+k)
 have d2:=sD l hl (q+k+1)
 rw[d2]at d1
 have hp:(0:Int)≤2^s:=Int.le_of_lt (Int.pow_pos (by decide))
 have e1:upper l q / 2^s / P k % 4294967296=v:=by
  rw[Int.ediv_ediv_of_nonneg hp,Int.mul_comm,←Int.ediv_ediv_of_nonneg (Int.le_of_lt (nD k)),aaO,d1,aaP _ _ _ s hs,hv,Nat.add_comm q k]
 have e2:upper l q / 2^s % (P k*4294967296)=upper l q / 2^s % P k+P k*(upper l q / 2^s / P k % 4294967296):=by
  have a1:=Int.emod_add_mul_ediv (upper l q / 2^s) (P k)
  have a2:=Int.emod_add_mul_ediv (upper l q / 2^s / P k) 4294967296
  have b1:=Int.emod_nonneg (upper l q / 2^s) (b:=P k) (by have:=nD k;omega)
  have b2:=Int.emod_lt_of_pos (upper l q / 2^s) (nD k)
  generalize upper l q / 2^s=H at *
  generalize H % P k=r at *
  generalize hD:H / P k=D at *
  have c1:=Int.emod_nonneg D (b:=4294967296) (by decide)
  have c2:=Int.emod_lt_of_pos D (b:=4294967296) (by decide)
  generalize D % 4294967296=d at *
  have e3:H=(r+P k*d)+(P k*4294967296)*(D / 4294967296):=by
   rw[Int.mul_assoc]
   have:P k*D=P k*d+P k*(4294967296*(D / 4294967296)):=by rw[←Int.mul_add,a2]
   omega
  rw[e3,Int.add_mul_emod_self_left]
  refine Int.emod_eq_of_lt ?_ ?_
  ·have:=Int.mul_nonneg (Int.le_of_lt (nD k)) c1;omega
  have:P k*d≤P k*4294967295:=Int.mul_le_mul_of_nonneg_left gA (Int.le_of_lt (nD k))
  omega
 rw[e2,e1,Int.mul_comm v]
theorem aaQ (l:List Int)(q s:Nat)(rs:List Int)(hl:WF l)(hq:q≤l.length)(h:Aa l q s (l.length-q) rs):WF rs∧val rs=val l / (P q*2^s)∧rs.length=l.length-q:=by
 obtain⟨h1,h2,h3,h4⟩:=h
 refine⟨h2,?_,h1⟩
 rw[←lD rs (l.length-q) gA,h3]
 have hu:upper l q<P (l.length-q):=by
  have h5:=su l hl q
  have h6:=(pI l hl).2
  have h7:=(oM l hl q).1
  have e:P l.length=P q*P (l.length-q):=by rw[←Ph,show q+(l.length-q)=l.length by omega]
  rw[e]at h6
  exact Int.lt_of_mul_lt_mul_left (a:=P q) gA (Int.le_of_lt (nD q))
 have hp:(1:Int)≤2^s:=by have:(0:Int)<2^s:=Int.pow_pos (by decide);omega
 have h0:=(su l hl q).2
 have h8:upper l q / 2^s≤upper l q:=Int.ediv_le_self _ h0
 rw[Int.emod_eq_of_lt (Int.ediv_nonneg h0 gA) gA]
 unfold upper
 rw[Int.ediv_ediv_of_nonneg (Int.le_of_lt (nD q))]
theorem KU (v:Value)(l:List Int)(q s:Nat)(w:World)(tZ:Sl w v l)(hw:WF l)(hl:l.length≤40)(hq:q≤100)(hs:s<32) :
 Calls prog 137 #[v,.int .u64 (32*q+s)] w (gT w (val l / (P q*2^s)) l.length):=by
 obtain⟨ad,c,rfl,hv⟩:=iK tZ
 have hq1:(32*(q:Int)+s) / 32=q:=gA
 have hs1:(32*(q:Int)+s) % 32=s:=gA
 by_cases hql:l.length≤q
 ·have F:=Zd (show gT w (val l / (P q*2^s)) l.length (.returned (.slice none 0 0)) w from⟨_,[],rfl,qX _,uJ,qb,by
   have h0:=Gw l q hw hql
   unfold upper at h0
   rw[←Int.ediv_ediv_of_nonneg (Int.le_of_lt (nD q)),h0];simp[mh],by simp,aQ _ _⟩)
  have hb0:decide ((l.length:Int)≤q)=true:=decide_eq_true gA
  clear tZ hv hw
  generalize gT w _ _=T at *
  go_enter func137,ntmps137
  go_wp2_with fail
  exact F.out
 have hb0:decide ((l.length:Int)≤q)=false:=decide_eq_false gA
 obtain⟨b,rfl,hb,bH⟩:=hv gA
 have HC:=Zd bH
 have jg:=fun u=>qY ((l.length:Int)-q) gA gA u
 have hn:((l.length:Int)-q).toNat=l.length-q:=gA
 rw[hn]at jg
 have hlq:((l.length-q:Nat):Int)=(l.length:Int)-q:=gA
 clear hn hv bH tZ
 go_enter func137,ntmps137
 go_wp2_with fail
 go_loopw [8] (fun i wr=>∃(k:Nat) (rs:List Int),i=.int .i64 k∧k≤l.length-q∧Hid (Aa l q s k rs)∧wr=w.alloc (.cells (arr rs) 157)) (fun i _=>l.length-(intOf i).toNat)
 case atStart=>exact⟨0,_,rfl,Nat.zero_le _,Rn l q s,rfl⟩
 case round=>
  obtain⟨k,rs,rfl,hk,hR,rfl⟩:=hrel
  have hlen:Hid (rs.length=l.length-q):=hR.out.1
  by_cases jS:k<l.length-q
  ·have c1:=HC.out (k+q) gA
   obtain⟨x0,x1⟩:=hw (k+q)
   have g1:=mF rs k (by rw[hlen.out];omega)
   by_cases hk2:k+q+1<l.length
   ·have c2:=HC.out (k+q+1) hk2
    obtain⟨y0,y1⟩:=hw (k+q+1)
    have hor:=Gv (aC l (k+q)) (aC l (k+q+1)) x0 x1 y0 y1
    have hR':=Zd (Cz l q s k rs hw hs jS hR.out _ rfl)
    clear jg
    go_wp2_with fail
    go_roundw
    case rel=>exact⟨k+1,_,by go_num,gA,hR'.out,by rw[kQ]⟩
    case measure=>simp[intOf];omega
   have hR':=Zd (Cz l q s k rs hw hs jS hR.out (aC l (k+q) / 2^s % 4294967296) (by rw[dO l (k+q+1) gA];simp))
   clear jg
   go_wp2_with fail
   go_roundw
   case rel=>exact⟨k+1,_,by go_num,gA,hR'.out,by rw[kQ]⟩
   case measure=>simp[intOf];omega
  have hkk:k=l.length-q:=gA
  rw[hkk]at hR
  have F:=Zd (aaQ l q s rs hw gA hR.out)
  have tZ:=Zd (sN w rs (l.length-q) F.out.2.2)
  clear hR jg
  go_wp2_with fail
  refine(nO _ rs _ tZ.out F.out.1 (by rw[F.out.2.2];omega)).mono ?_
  rintro e w1 ⟨v',l',rfl,s1,s2,s3,s4,s5,rfl⟩
  have G:=Zs (gT w (val l / (P q*2^s)) l.length (.returned v') _) (⟨v',l',rfl,s1,s2,s3,s4.trans F.out.2.1,by rw[F.out.2.2]at s5;omega,ak _ _ _⟩)
  clear s1 s2 s3 s4 s5 tZ F
  generalize gT w (val l / (P q*2^s)) l.length=T at *
  go_wp2_with fail
  exact G.out
def Ro (p x:Int):Int:=if x < -p then -p else if p-1<x then p-1 else x
def Rp (p x:Int):Bool:=decide (x < -p)||decide (p-1<x)
def gJ (w:World)(r:Value)(e:Ending)(w':World):Prop:=e=.returned r∧w.grownBy w' none
theorem agW (s:Nat)(hs:s<32):1≤(2:Int)^s∧(2:Int)^s≤2147483648:=by
 have h1:(2:Nat)^s≤2^31:=Nat.pow_le_pow_right gA gA
 have h2:1≤(2:Nat)^s:=Nat.one_le_two_pow
 have e:((2^s:Nat):Int)=(2:Int)^s:=by simp
 omega
theorem rA:18446744073709551616<P 8:=by rw[P8];decide
theorem ala (bz bx:Nat)(s:Nat)(hs:s<32)(w:World)(hz:Struct w bz)(hx:jJ w bx 1) :
 Calls prog 57 #[.pointer (some ⟨bz,0,none⟩),.pointer (some ⟨bx,0,none⟩),.int .u64 s] w (fT w bz (2^s)):=by
 have hp:=agW s hs
 have h8:=rA
 have e:(1:Int)*2^s*P 0=2^s:=by rw[yC];omega
 have:=Gu bz bx 1 0 s gA hs w hz hx (by rw[e];omega) (by rw[e];omega)
 rw[e,show(32*((0:Nat):Int)+(s:Int))=s by omega]at this
 exact this
theorem mV {w:World}{b:Nat}{z:Int}(h:jJ w b z):b<w.heap.size:=by
 obtain⟨v,l,h1,_⟩:=h;exact aN h1
theorem dU {w w':World}{b c:Nat}{z:Int}(h:jJ w b z)(hg:w.grownBy w' (some c))(hc:Struct w c)(hb:b≠c):jJ w' b z:=
 Qs h hg (fun e=>hb (by cases e;rfl)) (fun k e=>by cases e;exact hc)
theorem oF {w:World}{b:Nat}{z:Int}(h:jJ w b z)(n:Nat):jJ (w.drewN n) b z:=bJ h (dh w n none)
theorem adz (bx:Nat)(x:Int)(s:Nat)(hs:s<32)(w:World)(hx:jJ w bx x) :
 Calls prog 131 #[.pointer (some ⟨bx,0,none⟩),.int .u64 (s+1)] w (gJ w (.tuple #[.int .i64 (Ro (2^s) x),.bool (Rp (2^s) x)])):=by
 obtain⟨p1,p2⟩:=agW s hs
 have h8:=rA
 have hxb:=mV hx
 have LSH:=Zd (fun bz b w hz hx=>ala bz b s hs w hz hx)
 have CN:=Zs (Ro (2^s) x=(if x < -2^s then -2^s else if 2^s-1<x then 2^s-1 else x)∧Rp (2^s) x=(decide (x < -2^s)||decide (2^s-1<x))) (⟨rfl,rfl⟩)
 generalize Ro (2^s) x=cn at *
 generalize Rp (2^s) x=co at *
 generalize (2:Int)^s=p at *
 go_enter func131,ntmps131
 go_wp2_with fail
 refine(jN 1 _ gA gA).mono ?_
 rintro e w1 ⟨b1,rfl,hb1,i1,g1⟩
 have sh1:=bG (eT w) g1 (by simp)
 have L:=Zd (LSH.out w.heap.size b1 w1 sh1 i1)
 have xi1:=bJ (bJ hx (ak w iI none)) g1
 have G1:=Zd (aB (ak w iI none) g1)
 clear hx i1 g1 hb1
 go_wp2_with fail
 refine L.out.mono ?_
 rintro e w2 ⟨rfl,i2,g2⟩
 have xi2:=dU xi1 g2 sh1 gA
 have G2:=Zd (aG G1.out g2 (Nat.le_refl _))
 have Zb:=mV i2
 have N:=Zd (Wy w2.heap.size w.heap.size p (w2.alloc iI) (eT w2) (bJ i2 (ak w2 iI none)) gA gA)
 clear L xi1 g2 sh1
 go_wp2_with fail
 refine N.out.mono ?_
 rintro e w3 ⟨rfl,i3,g3⟩
 have hi3:=dU (bJ i2 (ak w2 iI none)) g3 (eT w2) gA
 have xi3:=dU (bJ xi2 (ak w2 iI none)) g3 (eT w2) (by have:=mV xi2;omega)
 have G3:=Zd (aG (aB G2.out (ak w2 iI none)) g3 gA)
 clear N i2 xi2 g3
 go_wp2_with fail
 refine(jN 1 _ gA gA).mono ?_
 rintro e w4 ⟨b4,rfl,hb4,i4,g4⟩
 have hi4:=bJ hi3 g4
 have xi4:=bJ xi3 g4
 have lo4:=bJ i3 g4
 have G4:=Zd (aB G3.out g4)
 have SB:=Zd (Gt w.heap.size w.heap.size b4 p 1 w4 (bU hi4) hi4 i4 gA gA)
 clear hi3 xi3 i3 g4 i4 hb4
 go_wp2_with fail
 refine SB.out.mono ?_
 rintro e w5 ⟨rfl,hi5,g5⟩
 have xi5:=dU xi4 g5 (bU hi4) gA
 have lo5:=dU lo4 g5 (bU hi4) gA
 have G5:=Zd (aG G4.out g5 (Nat.le_refl _))
 have CL:=Zd (uW bx w2.heap.size x (-p) w5 xi5 lo5)
 clear SB hi4 xi4 lo4 g5
 go_wp2_with fail
 refine CL.out.mono ?_
 rintro e w6 ⟨rfl,n,rfl⟩
 clear CL
 by_cases hlo:x < -p
 ·have c1:fJ x (-p)=-1:=by unfold fJ;rw[if_pos hlo]
  rw[c1]
  have I:=Zd (nT w2.heap.size (-p) (w5.drewN n) (oF lo5 n) gA gA)
  have F:=Zs (gJ w (.tuple #[.int .i64 cn,.bool co]) (.returned (.tuple #[.int .i64 (-p),.bool true])) (w5.drewN n)) (⟨by rw[CN.out.1,CN.out.2,if_pos hlo,decide_eq_true hlo];rfl,aB G5.out (dh w5 n none)⟩)
  generalize gJ w (.tuple #[.int .i64 cn,.bool co])=T at *
  clear c1 hi5 xi5 lo5
  go_wp2_with fail
  refine I.out.mono ?_
  rintro e w7 ⟨rfl,rfl⟩
  clear I
  go_wp2_with fail
  exact F.out
 have c1:0≤fJ x (-p):=by unfold fJ;rw[if_neg hlo];split<;>omega
 have CH:=Zd (uW bx w.heap.size x (p-1) (w5.drewN n) (oF xi5 n) (oF hi5 n))
 obtain⟨z,hz⟩:∃z:Int,Hid (z=fJ x (-p)):=⟨_,rfl⟩
 rw[←hz.out]at c1 ⊢
 go_wp2_with fail
 refine CH.out.mono ?_
 rintro e w7 ⟨rfl,m,rfl⟩
 clear CH hz c1
 by_cases hhi:p-1<x
 ·have c2:fJ x (p-1)=1:=by unfold fJ;rw[if_neg gA,if_pos hhi]
  rw[c2]
  have I:=Zd (nT w.heap.size (p-1) ((w5.drewN n).drewN m) (oF (oF hi5 n) m) gA gA)
  have F:=Zs (gJ w (.tuple #[.int .i64 cn,.bool co]) (.returned (.tuple #[.int .i64 (p-1),.bool true])) ((w5.drewN n).drewN m)) (⟨by rw[CN.out.1,CN.out.2,if_neg gA,if_pos hhi,decide_eq_true hhi];simp,aB G5.out (aB (dh w5 n none) (dh _ m none))⟩)
  generalize gJ w (.tuple #[.int .i64 cn,.bool co])=T at *
  rw[World.drewN_drewN]at I F
  clear c2 hi5 xi5 lo5
  go_wp2_with fail
  refine I.out.mono ?_
  rintro e w8 ⟨rfl,rfl⟩
  clear I
  go_wp2_with fail
  exact F.out
 have c2:fJ x (p-1)≤0:=by unfold fJ;split<;>(try split)<;>omega
 obtain⟨z,hz⟩:∃z:Int,Hid (z=fJ x (p-1)):=⟨_,rfl⟩
 rw[←hz.out]at c2 ⊢
 have I:=Zd (nT bx x ((w5.drewN n).drewN m) (oF (oF xi5 n) m) gA gA)
 have F:=Zs (gJ w (.tuple #[.int .i64 cn,.bool co]) (.returned (.tuple #[.int .i64 x,.bool false])) ((w5.drewN n).drewN m)) (⟨by rw[CN.out.1,CN.out.2,if_neg gA,if_neg gA,decide_eq_false gA,decide_eq_false gA];rfl,aB G5.out (aB (dh w5 n none) (dh _ m none))⟩)
 generalize gJ w (.tuple #[.int .i64 cn,.bool co])=T at *
 rw[World.drewN_drewN]at I F
 clear hz hi5 xi5 lo5
 go_wp2_with fail
 refine I.out.mono ?_
 rintro e w8 ⟨rfl,rfl⟩
 clear I
 go_wp2_with fail
 exact F.out
theorem adA (x:Int):Ro (2^15) x=eU x∧Rp (2^15) x=o16 x:=by
 unfold Ro Rp o16 eU
 rw[show(2:Int)^15=32768 from rfl]
 refine⟨by split<;>(try split)<;>(try split)<;>omega,?_⟩
 by_cases h1:x < -32768
 ·simp[h1];omega
 by_cases h2:32767<x
 ·simp[h1,h2];omega
 simp[h1,h2]
theorem WC (bx:Nat)(x:Int)(w:World)(hx:jJ w bx x) :
 Calls prog 131 #[.pointer (some ⟨bx,0,none⟩),.int .u64 16] w (gJ w (.tuple #[.int .i64 (eU x),.bool (o16 x)])):=by
 have:=adz bx x 15 gA w hx
 rw[(adA x).1,(adA x).2]at this
 exact this
theorem nU (x:Int)(w:World)(h0:-9223372036854775808≤x)(h1:x≤9223372036854775807) :
 Calls prog 49 #[.int .i64 x] w (gJ w (.int .i64 (eU x))):=by
 go_enter func49,ntmps49
 go_wp2_with fail
 refine(eD x w h0 h1).mono ?_
 rintro e w1 ⟨b,rfl,hb,hi,g⟩
 have C:=Zd (WC b x w1 hi)
 have F:=Zs (∀w2,w1.grownBy w2 none→gJ w (.int .i64 (eU x)) (.returned (.int .i64 (eU x))) w2) (fun w2 h=>⟨rfl,aB g h⟩)
 generalize gJ w _=T at *
 clear hi g hb
 go_wp2_with fail
 refine C.out.mono ?_
 rintro e w2 ⟨rfl,g2⟩
 have F2:=Zd (F.out w2 g2)
 clear g2 C
 go_wp2_with fail
 exact F2.out
theorem KV (q:Nat):P q=2^(32*q):=by
 unfold P
 rw[show(4294967296:Int)=2^32 from rfl,←Int.pow_mul]
theorem wF (bz bx:Nat)(x:Int)(m:Nat)(hm:m≤255)(w:World)(hz:Struct w bz)(hx:jJ w bx x)(h1:-P 8<x*2^m)(h2:x*2^m<P 8) :
 Calls prog 57 #[.pointer (some ⟨bz,0,none⟩),.pointer (some ⟨bx,0,none⟩),.int .u64 m] w (fT w bz (x*2^m)):=by
 have e:x*2^(m % 32)*P (m / 32)=x*2^m:=by
  rw[KV,Int.mul_assoc,←Int.pow_add,show m % 32+32*(m / 32)=m by omega]
 have:=Gu bz bx x (m / 32) (m % 32) gA gA w hz hx (by rw[e];exact h1) (by rw[e];exact h2)
 rw[e,show(32*((m / 32:Nat):Int)+((m % 32:Nat):Int))=m by omega]at this
 exact this
theorem Gx (bz bx:Nat)(x:Int)(m:Nat)(hm:m≤3000)(w:World)(hz:Struct w bz)(hx:jJ w bx x)(h0:0≤x) :
 Calls prog 56 #[.pointer (some ⟨bz,0,none⟩),.pointer (some ⟨bx,0,none⟩),.int .u64 m] w (fT w bz (x / 2^m)):=by
 obtain⟨vx,lx,x0,x1,xb,xs,xw,xt,xv,xl⟩:=fC hx
 rw[show decide (x<0)=false by simp;omega]at x0
 have e:val lx / (P (m / 32)*2^(m % 32))=x / 2^m:=by
  rw[xv,KV,←Int.pow_add,show 32*(m / 32)+m % 32=m by omega,show((x.natAbs:Nat):Int)=x by omega]
 have R:=Zd (fun w' (g:w.grownBy w' none)=>KU vx lx (m / 32) (m % 32) w' (jF xs g) xw gA gA gA)
 rw[e,show(32*((m / 32:Nat):Int)+((m % 32:Nat):Int))=m by omega]at R
 have h_:=Zd (show ∀wx v' l' w1,w.grownBy wx none→Sl w1 v' l'→WF l'→Top l'→val l'=x / 2^m→l'.length≤lx.length→wx.grownBy w1 none→
  Calls prog 132 #[.pointer (some ⟨bz,0,none⟩),.bool false,v'] w1 (fun e w2=>e=.returned (.pointer (some ⟨bz,0,none⟩))∧fT w bz (x / 2^m) e w2)from by
  intro wx v' l' w1 g0 s1 s2 s3 s4 s5 s6
  have g:w.grownBy w1 none:=aB g0 s6
  refine(jK bz false v' l' w1 (bG hz g (by simp)) s1 s2 s3 gA).mono ?_
  intro e w2 hm
  exact⟨hm.1,lW hm g (by simpa using s4)⟩)
 clear hx xs xw xt xv xl hz e
 generalize fT w bz (x / 2^m)=T at *
 go_enter func56,ntmps56
 go_wp2_with fail
 refine(R.out _ (aQ _ _)).mono ?_
 rintro e w1 ⟨v',l',rfl,s1,s2,s3,s4,s5,s6⟩
 have K:=Zd (h_.out _ v' l' w1 (aQ _ _) s1 s2 s3 s4 s5 s6)
 clear R s1 s2 s3 s4 s5 s6 x0 x1
 go_wp2_with fail
 refine K.out.mono ?_
 rintro e w2 ⟨rfl,hT⟩
 have HT:=Zd hT
 clear K hT
 go_wp2_with fail
 exact HT.out
theorem aaR (x p:Int)(hp:0<p)(hx:x<0):x / p=-((-x-1) / p+1):=by
 have h1:=Int.ediv_mul_le (-x-1) (Int.ne_of_gt hp)
 have h2:=Int.lt_ediv_add_one_mul_self (-x-1) hp
 generalize (-x-1) / p=q at *
 have e:x / p=-(q+1):=by
  apply Int.le_antisymm
  ·have:x / p < -(q+1)+1:=Int.ediv_lt_of_lt_mul hp (by rw[Int.add_mul,Int.neg_mul,Int.add_mul];omega)
   omega
  exact(Int.le_ediv_iff_mul_le hp).2 (by rw[Int.neg_mul,Int.add_mul]at *;omega)
 exact e
theorem adB (bz bx:Nat)(x:Int)(m:Nat)(hm:m≤3000)(w:World)(hz:Struct w bz)(hx:jJ w bx x)(h0:x<0) :
 Calls prog 56 #[.pointer (some ⟨bz,0,none⟩),.pointer (some ⟨bx,0,none⟩),.int .u64 m] w (fT w bz (x / 2^m)):=by
 obtain⟨vx,lx,x0,x1,xb,xs,xw,xt,xv,xl⟩:=fC hx
 rw[show decide (x<0)=true by simp;omega]at x0
 have hl1:1≤lx.length:=by
  rcases Nat.eq_zero_or_pos lx.length with h|h
  ·rw[List.length_eq_zero_iff.1 h,mh]at xv;omega
  exact h
 have w1:WF [1]:=fun i=>by
  match i with
  | 0=>exact⟨by decide,by decide⟩
  | i+1=>exact⟨by simp[aC],by simp[aC]⟩
 have v1:val [1]=1:=by decide
 have hp:(0:Int)<2^m:=Int.pow_pos (by decide)
 have q0:0≤(-x-1) / 2^m:=Int.ediv_nonneg gA (Int.le_of_lt hp)
 have q1:(-x-1) / 2^m≤-x-1:=Int.ediv_le_self _ gA
 have b8:=(pI lx xw).2
 have p8:P lx.length≤P 8:=uH _ _ xl
 have SU:=Zd (Gq vx (.slice (some ⟨w.heap.size,0,none⟩) 1 1) lx [1] (w.alloc (.cells #[.int .u32 1] 157)) (jF xs (ak _ _ none)) (sN w [1] 1 rfl) xw w1 gA hl1 (by rw[v1,xv];omega))
 rw[v1,show val lx-1=-x-1 by rw[xv];omega]at SU
 have RI:=Zd (fun v' l' w' (h1:Sl w' v' l') (h2:WF l') (h3:l'.length≤8) (h4:val l'=-x-1)=>(show Calls prog 137 #[v',.int .u64 m] w' (gT w' ((-x-1) / 2^m) 8)from by
  have:=KU v' l' (m / 32) (m % 32) w' h1 h2 gA gA gA
  rw[h4,KV,←Int.pow_add,show 32*(m / 32)+m % 32=m by omega,show(32*((m / 32:Nat):Int)+((m % 32:Nat):Int))=m by omega]at this
  exact this.mono fun e w2 ⟨v,l,a1,a2,a3,a4,a5,a6,a7⟩=>⟨v,l,a1,a2,a3,a4,a5,gA,a7⟩))
 have AD:=Zd (fun v' l' w' (h1:Sl w' v' l') (h2:WF l') (h3:l'.length≤8) (h4:val l'=(-x-1) / 2^m)=>(show Calls prog 136 #[v',.slice (some ⟨w'.heap.size,0,none⟩) 1 1] (w'.alloc (.cells #[.int .u32 1] 157)) (gT (w'.alloc (.cells #[.int .u32 1] 157)) ((-x-1) / 2^m+1) 9)from by
  have:=Qt v' (.slice (some ⟨w'.heap.size,0,none⟩) 1 1) l' [1] (w'.alloc (.cells #[.int .u32 1] 157)) (jF h1 (ak _ _ none)) (sN w' [1] 1 rfl) h2 w1 gA (by simp)
  rw[h4,v1]at this
  exact this.mono fun e w2 ⟨v,l,a1,a2,a3,a4,a5,a6,a7⟩=>⟨v,l,a1,a2,a3,a4,a5,by simp at a6;omega,a7⟩))
 have h_:=Zd (show ∀v' l' w1,w.grownBy w1 none→Sl w1 v' l'→WF l'→Top l'→val l'=(-x-1) / 2^m+1→
  Calls prog 132 #[.pointer (some ⟨bz,0,none⟩),.bool true,v'] w1 (fun e w2=>e=.returned (.pointer (some ⟨bz,0,none⟩))∧fT w bz (x / 2^m) e w2)from by
  intro v' l' w1 g s1 s2 s3 s4
  have l8:=Ed l' s2 s3 8 (by rw[s4];rw[xv]at b8;omega)
  refine(jK bz true v' l' w1 (bG hz g (by simp)) s1 s2 s3 l8).mono ?_
  intro e w2 hm
  exact⟨hm.1,lW hm g (by rw[aaR x _ hp h0,s4];simp)⟩)
 clear hx xs xw xt xv hz w1 v1 hp q0 q1 b8 p8 hl1
 generalize fT w bz (x / 2^m)=T at *
 generalize (-x-1) / 2^m=q at *
 go_enter func56,ntmps56
 go_wp2_with fail
 refine SU.out.mono ?_
 rintro e w1 ⟨v1,l1,rfl,s1,s2,s3,s4,s5,s6⟩
 have G1:=Zd (aB (ak w _ none) s6)
 have R:=Zd (RI.out v1 l1 w1 s1 s2 gA s4)
 clear SU s1 s2 s3 s4 s5 s6 x0 x1
 go_wp2_with fail
 refine R.out.mono ?_
 rintro e w2 ⟨v2,l2,rfl,s1,s2,s3,s4,s5,s6⟩
 have G2:=Zd (aB G1.out s6)
 have A:=Zd (AD.out v2 l2 w2 s1 s2 s5 s4)
 clear R s1 s2 s3 s4 s5 s6
 go_wp2_with fail
 refine A.out.mono ?_
 rintro e w3 ⟨v3,l3,rfl,s1,s2,s3,s4,s5,s6⟩
 have K:=Zd (h_.out v3 l3 w3 (aB G2.out (aB (ak _ _ none) s6)) s1 s2 s3 s4)
 clear A s1 s2 s3 s4 s5 s6
 go_wp2_with fail
 refine K.out.mono ?_
 rintro e w4 ⟨rfl,hT⟩
 have HT:=Zd hT
 clear K hT
 go_wp2_with fail
 exact HT.out
theorem Zc (bz bx:Nat)(x:Int)(m:Nat)(hm:m≤3000)(w:World)(hz:Struct w bz)(hx:jJ w bx x) :
 Calls prog 56 #[.pointer (some ⟨bz,0,none⟩),.pointer (some ⟨bx,0,none⟩),.int .u64 m] w (fT w bz (x / 2^m)):=by
 by_cases h:x<0
 ·exact adB bz bx x m hm w hz hx h
 exact Gx bz bx x m hm w hz hx gA
def gN (w:World)(b:Nat)(T:TypeId)(l:List Int):Prop:=dP w b T (aO l)
theorem gN.v {w:World}{b:Nat}{T:TypeId}{l:List Int}(h:gN w b T l):dP w b T (aO l):=h
theorem gN.cell {w:World}{b:Nat}{T:TypeId}{l:List Int}(h:gN w b T l)(i:Nat)(hi:i<l.length):w.cell? ⟨b,i,none⟩=some (.int .i64 (aC l i)):=by
 have:=jU l [] i hi
 unfold kE at this
 rw[List.append_nil]at this
 exact(dP.cell h i).trans this
theorem gN.free {w:World}{b:Nat}{T:TypeId}{l:List Int}(h:gN w b T l)(i:Nat):w.frozen? ⟨b,i,none⟩=false:=dP.free h i
theorem gN.lt {w:World}{b:Nat}{T:TypeId}{l:List Int}(h:gN w b T l):b<w.heap.size:=dP.lt h
theorem gN.aH {w w':World}{b:Nat}{T:TypeId}{l:List Int}(h:gN w b T l)(g:w.grownBy w' none):gN w' b T l:=dP.aH h g
theorem gN.aJ {w w':World}{b:Nat}{T:TypeId}{l:List Int}{r:Nat}(h:gN w b T l)(g:w.grownBy w' (some r))(hr:b≠r):gN w' b T l:=dP.aJ h g hr
theorem gN.new (w:World)(T:TypeId)(l:List Int):gN (w.alloc (.cells (aD l) T)) w.heap.size T l:=dP.new w T (aO l)
theorem gN.set {w:World}{b:Nat}{T:TypeId}{l:List Int}(h:gN w b T l)(k:Nat)(z:Int)(hk:k<l.length):gN (w.setCell ⟨b,k,none⟩ (.int .i64 z)) b T (l.set k z):=by
 have:=dP.set h k (.int .i64 z)
 have e:=Pt l [] k z hk
 unfold kE at e
 rw[List.append_nil,List.append_nil]at e
 rw[e]at this
 exact this
theorem gN.put {w:World}{b:Nat}{T:TypeId}{l:List Int}(h:gN w b T l)(o:Nat)(M:List Int)(hl:o+M.length≤l.length):gN (dQ w b o (aO M)) b T (jr l o M)∧w.grownBy (dQ w b o (aO M)) (some b):=by
 have:=tC h o (aO M) (by rw[aM,aM];exact hl)
 have e:=oN l [] o M hl
 unfold kE at e
 rw[List.append_nil,List.append_nil]at e
 rw[e]at this
 exact this
theorem gN.part {l:List Int}(o n:Nat)(h:o+n≤l.length):((aO l).drop o).take n=aO (bP l o n):=by
 have:=qz l [] o n h
 unfold kE at this
 rwa [List.append_nil]at this
theorem gN.all (l:List Int)(n:Nat)(h:l.length=n):((aO l).drop 0).take n=aO l:=by rw[List.drop_zero,List.take_of_length_le (by rw[aM];omega)]
theorem gN.fu {w:World}{b:Nat}{T:TypeId}{l m:List Int}(h:gN w b T l)(hl:m.length=l.length):gN (dQ w b 0 (aO m)) b T m∧w.grownBy (dQ w b 0 (aO m)) (some b):=by
 have:=tC h 0 (aO m) (by rw[aM,aM];omega)
 rw[qM _ _ (by rw[aM,aM];exact hl)]at this
 exact this
theorem gN.blk {w:World}{b:Nat}{T:TypeId}{l:List Int}(h:gN w b T l):bO w b T l:=h
theorem gN.ints {w:World}{b:Nat}{T:TypeId}{l:List Int}(h:gN w b T l)(o n c:Nat)(hn:o+n≤l.length)(hc:n≤c):aS w (.slice (some ⟨b,o,none⟩) n c) (bP l o n):=by
 have k:dP w b T (kE l []):=by unfold kE;rw[List.append_nil];exact h
 exact k.ints o n c hn hc
def bK (e:List Int)(s:Bool):List Value:=kE e [.bool s]
def eX (e:List Int)(s:Bool):Value:=.agg (bK e s).toArray
theorem bY {e:List Int}(h:e.length=225)(s:Bool):(bK e s).length=226:=by unfold bK;rw[tF,h];rfl
theorem gu (e:List Int)(s:Bool):∀v∈bK e s,v.oneCell'=true:=Pv _ _ (by intro v hv;simp at hv;subst hv;rfl)
theorem alb:(prog.info? 31).bind (·.zero)=some (eX (ay 225) false):=by kernel_rfl
theorem dH:(prog.info? 31).map (·.size)=some 226:=by kernel_rfl
theorem pV:(prog.info? 24).map (·.size)=some 4:=by kernel_rfl
theorem jo (w:World):Sem.run prog (zeroValue 31) w=.ok (eX (ay 225) false) w:=by
 have hz:=alb
 cases hq:prog.info? 31 with
 | none=>simp[hq]at hz
 | some i=>
  have hi:i.zero=some (eX (ay 225) false):=by simpa [hq] using hz
  simp[zeroValue,typeInfo,hq,hi]
def fU (w:World)(b:Nat)(e:List Int)(s:Bool):Prop:=dP w b 31 (bK e s)
theorem fU.aH {w w':World}{b:Nat}{e:List Int}{s:Bool}(h:fU w b e s)(g:w.grownBy w' none):fU w' b e s:=dP.aH h g
theorem fU.aJ {w w':World}{b:Nat}{e:List Int}{s:Bool}{r:Nat}(h:fU w b e s)(g:w.grownBy w' (some r))(hr:b≠r):fU w' b e s:=dP.aJ h g hr
theorem fU.lt {w:World}{b:Nat}{e:List Int}{s:Bool}(h:fU w b e s):b<w.heap.size:=dP.lt h
theorem fU.new (w:World)(e:List Int)(s:Bool):fU (w.alloc (.cells (bK e s).toArray 31)) w.heap.size e s:=dP.new w _ _
theorem fU.fu {w:World}{b:Nat}{l m:List Int}{s t:Bool}(h:fU w b l s)(hl:l.length=225)(hm:m.length=225):fU (dQ w b 0 (bK m t)) b m t∧w.grownBy (dQ w b 0 (bK m t)) (some b):=by
 have:=tC h 0 (bK m t) (by rw[bY hm,bY hl];omega)
 rw[qM _ _ (by rw[bY hm,bY hl])]at this
 exact this
theorem fU.all {e:List Int}(s:Bool)(h:e.length=225):((bK e s).drop 0).take 226=bK e s:=by rw[List.drop_zero,List.take_of_length_le (by rw[bY h];omega)]
theorem m_ {e:List Int}(s:Bool)(o n:Nat)(h:o+n≤e.length):((bK e s).drop o).take n=aO (bP e o n):=qz _ _ _ _ h
theorem lZ {e:List Int}(s:Bool)(he:e.length=225):((bK e s).drop 124).take 102=aU (bP e 124 101) s:=by
 rw[←UD e 124 101 gA]
 unfold bK aU kE
 rw[List.drop_append_of_le_length (by rw[aM];omega),List.take_of_length_le (by simp[aO];omega)]
 congr 1
 rw[List.take_of_length_le (by simp;omega)]
 unfold aO
 rw[List.map_drop]
theorem fU.input {w:World}{b:Nat}{e:List Int}{s:Bool}(h:fU w b e s)(o n c:Nat)(hn:o+n≤e.length)(hc:n≤c):aS w (.slice (some ⟨b,o,none⟩) n c) (bP e o n):=dP.ints h o n c hn hc
theorem Jv (a b c d:Int)(w:World):Sem.run prog (Instr.build 31 #[(0,.agg #[.int .i64 a,.int .i64 b,.int .i64 c,.int .i64 d])]) w=.ok (eX ([a,b,c,d]++ay 221) false) w:=by kernel_rfl
theorem Bu {ops:Array Oper}{rest:List Oper}{op:Oper}{a:Act}{w:World}{Q:Exit→Act→World→Prop}(hgd:op.guard=none)(x:Operand)(ho:op.op=.build 31 #[(0,x)])(p q r t:Int)(hx:a.eval x=.agg #[.int .i64 p,.int .i64 q,.int .i64 r,.int .i64 t])
 (k:wpList prog ops Q rest (a.put op.dst (eX ([p,q,r,t]++ay 221) false)) w):wpList prog ops Q (op::rest) a w:=by
 refine wpList_plain hgd fun _ hK=>?_
 unfold Oper.wp execOp
 have e:(#[(0,x)]:Array (Nat×Operand)).map (fun(i,x)=>(i,a.eval x))=#[(0,.agg #[.int .i64 p,.int .i64 q,.int .i64 r,.int .i64 t])]:=by simp[hx]
 simp only[ho,e,Sem.run_bind,Jv,Result.andThen_ok,Sem.run_pure]
 exact hK _ _ k
theorem yc (w:World)(g:Nat)(cs:Array Value):w.grownBy (w.setRow g cs) (some g):=
 ⟨rfl,rfl,rfl,by simp,fun k _ h=>setRow_other w g k cs (fun e=>h (by rw[e]))⟩
theorem uX {ops:Array Oper}{rest:List Oper}{o:Oper}{a:Act}{w:World}{Q:Exit→Act→World→Prop}(hgd:o.guard=none)(d s:Operand)
 (hop:o.op=Op.call { callee:=Callee.builtin Builtin.copy,args:=#[d,s],argTypes:=#[32,32] }) (b off dn n dc sc:Nat) (T:TypeId) (cs:List Value) (L:List Int) (ad:Addr) (hb:dP w b T cs) (hd:a.eval d=.slice (some ⟨b,off,none⟩) dn dc) (hs:a.eval s=.slice (some ad) n sc)
 (hL:L.length=n) (hdn:n≤dn) (hsrc:∀j,j<n→w.cell? (ad.add j)=some (.int .i64 (aC L j))) (hfit:off+n≤cs.length)
 (hK:∀w',dP w' b T (mG cs off (aO L))→w.grownBy w' (some b)→wpList prog ops Q rest (a.put o.dst (goInt n)) w'):wpList prog ops Q (o::rest) a w:=by
 have hsz:(prog.info? 3).map (·.size)=some 1:=by kernel_rfl
 refine wpList_copy_own hgd d s _ _ hop 3 underlying32 hsz b off dn dc ad n sc hd hs cs.toArray T hb (L.map (Value.int .i64)) (by rw[List.length_map,hL];exact(Nat.min_eq_left hdn).symm) (fun j v hv'=>?_) (by simp[hL];omega) (fun v hv'=>?_) ?_
 ·have hj:j<L.length:=by
   by_cases hj:j<L.length
   ·exact hj
   rw[List.getElem?_eq_none (by simp;omega)]at hv';cases hv'
  rw[hsrc j gA]
  simpa [aC,List.getD,hj] using hv'
 ·obtain⟨x,_,rfl⟩:=List.mem_map.1 hv'
  rfl
 have e:(cs.toArray.toList.take off++(L.map (Value.int .i64)++cs.toArray.toList.drop (off+(L.map (Value.int .i64)).length))).toArray=(mG cs off (aO L)).toArray:=by simp[mG,aO]
 rw[e,List.length_map,hL]
 exact hK _ (setRow_heap _ _ _ _ _ _ hb) (yc _ _ _)
theorem Gy (A B C V:List Value)(o:Nat)(hA:A.length=o)(hB:B.length=V.length):mG (A++(B++C)) o V=A++(V++C):=by
 subst hA
 unfold mG
 rw[List.take_left,List.append_assoc]
 congr 2
 rw[←List.append_assoc,List.drop_left' (by rw[List.length_append,hB])]
theorem aaU (hp I M:List Int)(t:Bool)(h4:hp.length=4)(hI:I.length=120)(hM:M.length=101):mG (mG (bK (hp++ay 221) false) 4 (aO I)) 124 (aU M t)=bK (hp++(I++M)) t:=by
 have z:(ay 221).length=221:=au 221
 have e0:bK (hp++ay 221) false=aO hp++(aO ((ay 221).take 120)++(aO ((ay 221).drop 120)++[.bool false])):=by
  unfold bK kE aO
  rw[←List.append_assoc (List.map _ _) (List.map _ _) [Value.bool false],←List.map_append,List.take_append_drop,List.map_append,List.append_assoc]
 rw[e0,Gy _ _ _ _ 4 (by rw[aM,h4]) (by rw[aM,aM,List.length_take,z,hI];rfl)]
 rw[show aO hp++(aO I++(aO ((ay 221).drop 120)++[.bool false]))=(aO hp++aO I)++((aO ((ay 221).drop 120)++[.bool false])++[]) by simp]
 rw[Gy _ _ _ _ 124 (by rw[List.length_append,aM,aM,h4,hI]) (by unfold aU;rw[tF,hM,List.length_append,aM,List.length_drop,z];rfl)]
 unfold bK aU kE aO
 simp
def pW (w:World)(e:List Int)(s:Bool)(B L:List Int)(en:Int)(x:Ending)(w':World):Prop:=∃vb vl,x=.returned (.tuple #[eX e s,vb,vl,.int .i64 en])∧jw w.heap.size w' vb B∧gP w.heap.size w' vl L∧w.grownBy w' none
def WE (l:List Int)(i j:Nat):List Int:=(l.take j).drop i
theorem Rs (l:List Int)(i j:Nat)(h:j≤l.length):(WE l i j).length=j-i:=by unfold WE;rw[List.length_drop,List.length_take];omega
theorem afT {W:World}{v:Value}{l:List Int}(h:aS W v l)(hsh:rR v l)(i j:Nat)(hij:i≤j)(hj:j≤l.length)(hpos:0<l.length) :
 ∃vB,(∀u,Sem.run prog (Instr.slice 32 v (some (.int .i64 i)) (some (.int .i64 j)) none) u=.ok vB u)∧aS W vB (WE l i j)∧rR vB (WE l i j):=by
 rcases hsh with rfl|⟨a,c,rfl⟩
 ·obtain rfl:=wX h
  simp at hpos
 obtain⟨_,hc,bH⟩:=mY h
 have e:=Rs l i j hj
 refine⟨.slice (some (if c=i then a else a.add i)) (j-i) (c-i),fun u=>?_,⟨_,c-i,by rw[e],by rw[e];omega,fun hp=>⟨_,rfl,fun x hx=>?_⟩⟩,.inr ⟨_,c-i,by rw[e]⟩⟩
 ·rw[run_slice_lh (P:=prog) u 32 (some a) l.length c (by kernel_rfl) .i64 .i64 i j gA gA gA]
  simp[go_sem,sliced]
  split<;>rfl
 rw[e]at hx hp
 rw[if_neg gA,Addr.add_add,bH (i+x) gA]
 unfold WE
 rw[zm,qN _ _ _ gA]
def WG (w:World)(K:List Int)(e:Int)(g:Bool)(en:Ending)(w':World):Prop:=en=.returned (.tuple #[.agg (aD K),.int .i64 e,.bool g])∧w.grownBy w' none
def uY (w wr:World)(R ks A:List Int):Prop:=
 bO wr w.heap.size 58 R∧bO wr (w.heap.size+1) 26 (ay 8)∧bO wr (w.heap.size+1+1) 26 ks∧bO wr (w.heap.size+1+1+1) 58 A∧w.grownBy wr none
theorem KW {w wr wr':World}{R ks A:List Int}(h:uY w wr R ks A)(g:wr.grownBy wr' none):uY w wr' R ks A:=
 ⟨h.1.aH g,h.2.1.aH g,h.2.2.1.aH g,h.2.2.2.1.aH g,aB h.2.2.2.2 g⟩
theorem adF {w wr:World}{R ks A:List Int}(h:uY w wr R ks A)(A':List Int)(hl:A'.length=A.length):uY w (bT wr (w.heap.size+1+1+1) A') R ks A':=by
 have PU:=bB (rs':=A') h.2.2.2.1 hl
 exact⟨h.1.aJ PU.2 gA,h.2.1.aJ PU.2 gA,h.2.2.1.aJ PU.2 gA,PU.1,aG h.2.2.2.2 PU.2 gA⟩
theorem adG {w wr:World}{R ks A:List Int}(h:uY w wr R ks A)(i:Nat)(z:Int):uY w (wr.setCell ⟨w.heap.size+1+1,i,none⟩ (.int .i64 z)) R (ks.set i z) A:=by
 have g:=aF wr ⟨w.heap.size+1+1,i,none⟩ (.int .i64 z)
 exact⟨h.1.aJ g (by simp;omega),h.2.1.aJ g (by simp),h.2.2.1.set i z,h.2.2.2.1.aJ g (by simp),aG h.2.2.2.2 g (by simp;omega)⟩
theorem adH (S e:Int)(he:0<e)(h1:-144115188075855872≤S)(h2:S≤144115188075855872):-144115188075855872≤S.tdiv e∧S.tdiv e≤144115188075855872:=by
 have key:∀X:Int,0≤X→X≤144115188075855872→0≤X.tdiv e∧X.tdiv e≤144115188075855872:=fun X h0 h3=>by
  rw[Int.tdiv_eq_ediv_of_nonneg h0]
  have a:=Int.ediv_nonneg h0 (Int.le_of_lt he)
  have b:=Int.ediv_le_self e h0
  omega
 rcases Int.le_total 0 S with h|h
 ·have:=key S h h2;omega
 have e1:S.tdiv e=-((-S).tdiv e):=by rw[Int.neg_tdiv];omega
 have:=key (-S) gA gA
 omega
theorem WH (r:Nat→Int):fM 8 (gG r 0).k=ay 8:=(Ay 8).symm
theorem Rw (R:List Int)(hR:R.length=9)(ho:Ya R=false)(w:World):Calls prog 34 #[.agg (aD R)] w (WG w (ay 8) 0 false):=by
 have L0:=Zd (mW w 58 26 26 R (ay 8) (ay 8))
 have IB:=Zd (tN L0.out.1 9 gA)
 rw[hR,rF]at IB
 rw[rF]at L0
 have A:=Zd (sH (.slice (some ⟨w.heap.size,0,none⟩) 9 9) R (-2147483647) 2147483647 _ IB.out gA)
 rw[Yu]at A
 have c0:=L0.out.1.cell 0 gA
 have HO:=Zd (show I6 R=false∨(I6 R=true∧aC R 0≤0)from by
  unfold Ya at ho
  rcases hb:I6 R with _|_
  ·exact .inl rfl
  right;rw[hb]at ho;simp at ho;exact⟨rfl,ho⟩)
 have BK:=Zd L0.out.2.2.1
 have BB:=Zd L0.out.2.1
 have GM:=Zd L0.out.2.2.2
 clear ho
 generalize aC R 0=r0 at *
 rcases HO.out with h|⟨h,h0⟩
 all_goals
  rw[h]at A
  clear h HO
  go_enter func34,ntmps34
  go_wp2_with fail
  refine A.out.mono ?_
  rintro e w1 ⟨rfl,rfl⟩
  clear A
  go_wp2_with (first|refine lA BK.out (by rw[au];exact aW) ?_|refine sA (ay 8) BB.out rfl (by rw[au];exact aW) ?_)
  have PU:=bB (rs':=ay 8) BB.out rfl
  have eO:=lS PU.1 (by rw[au];exact aW)
  have GF:=Zd (aG GM.out PU.2 gA)
  refine bodyPost_ret (v:=.tuple #[.agg (aD (ay 8)),.int .i64 0,.bool false]) ?_ rfl ⟨rfl,GF.out⟩
  simp[results,results34,asAddr,Act.put,eO]
theorem Nq (R:List Int)(hR:R.length=9)(ho:Ya R=true)(w:World):Calls prog 34 #[.agg (aD R)] w (WG w (lN R) (vw R) (vC R)):=by
 have L0:=Zd (mW w 58 26 26 R (ay 8) (ay 8))
 have IB:=Zd (tN L0.out.1 9 gA)
 rw[hR,rF]at IB
 rw[rF]at L0
 have A:=Zd (sH (.slice (some ⟨w.heap.size,0,none⟩) 9 9) R (-2147483647) 2147483647 _ IB.out gA)
 have c0:=L0.out.1.cell 0 gA
 have ho':=ho
 unfold Ya at ho'
 simp only[Bool.and_eq_true,decide_eq_true_eq]at ho'
 obtain⟨hB,h0⟩:=ho'
 rw[Yu,hB]at A
 have HB:=Zd (agN hB)
 obtain⟨b1,b2⟩:=HB.out 0
 have EK:=Zs (lN R=fM 8 (gG (aC R) 8).k) (by simp[lN,ho])
 have EE:=Zs (vw R=(gG (aC R) 8).e) (by simp[vw,ho])
 have EG:=Zs (vC R=(gG (aC R) 8).go) (by simp[vC,ho])
 have IS:=Zd (AQ (aC R) h0)
 clear ho hB
 have h0':¬aC R 0≤0:=gA
 have G0:=Zd L0.out.2.2.2
 have BK:=Zd L0.out.2.2.1
 have BB:=Zd L0.out.2.1
 have BR:=Zd L0.out.1
 have E0:=Zs ((gG (aC R) 0).e=aC R 0) (rfl)
 generalize hr0:aC R 0=r0 at *
 have HR0:=Zd hr0
 clear hr0
 go_enter func34,ntmps34
 go_wp2_with fail
 refine A.out.mono ?_
 rintro e w1 ⟨rfl,rfl⟩
 clear A
 go_upto_region 4 with fail
 have hsz:(((w.alloc (.cells (aD R) 58)).alloc (.cells (aD (ay 8)) 26)).alloc (.cells (aD (ay 8)) 26)).heap.size=w.heap.size+1+1+1:=by simp
 rw[rF]at hsz
 generalize ((w.alloc (.cells (aD R) 58)).alloc _).alloc _=W0 at *
 obtain⟨L,hL⟩:∃L,L=afu:=⟨_,rfl⟩
 have hl:L.length=9:=by subst hL;rfl
 have OA:=Zs (aD L=_) (by subst hL;exact QI)
 have HL:=Zd hL
 clear hL
 have FA:=Zd (dL W0.drew 58 9 L hl)
 have gd:W0.grownBy W0.drew none:=bW (aQ _ none)
 have MS:=Zd (show uY w (bT (W0.drew.alloc (.cells (aD (ay 9)) 58)) W0.drew.heap.size L) R (ay 8) L from by
  have f:=aB gd FA.out.2.2
  refine⟨BR.out.aH f,BB.out.aH f,BK.out.aH f,?_,aB G0.out f⟩
  have:=FA.out.2.1
  rw[show W0.drew.heap.size=w.heap.size+1+1+1 from hsz]at this ⊢
  exact this)
 have GP:=Zs (dM W0 (bT (W0.drew.alloc (.cells (aD (ay 9)) 58)) W0.drew.heap.size L)) (aB gd FA.out.2.2)
 have BN:=Zd FA.out.1
 rw[show W0.drew.heap.size=w.heap.size+1+1+1 from hsz]at MS GP BN
 rw[show W0.drew.alloc (.cells (aD (ay 9)) 58)=(W0.alloc (.cells (aD (ay 9)) 58)).drew from rfl]at MS GP BN
 clear gd BK BB BR G0
 rw[J7]at MS GP BN
 refine wp_region_held_drew (S:=dM W0) (by kernel_rfl) (aZ _) (fun aj=>?_)
 refine sF 0 aj ?_
 refine sF 1 aj ?_
 refine bV (hy:=by intro w' bL;have q0:=bA bL c0;go_simp;(try with_reducible rfl)) 2 aj ?_
 refine fI 3 fun K hK=>?_
 (try simp only[sZ])
 go_simp
 go_wp2_with fail
 refine hK.out _ _ (dX aj _) (fun aj=>?_)
 (try simp only[sZ])
 refine fI 4 fun K hK=>?_
 (try simp only[sZ])
 refine dW rfl 58 _ _ rfl (w.heap.size+1+1+1) (ay 9) L rfl (by rw[OA.out];rfl) BN.out (by rw[hl,au]) (by rw[au];exact dz) ?_
 refine hK.out _ _ GP.out (fun aj=>?_)
 generalize bT _ (w.heap.size+1+1+1) L=W1 at *
 (try simp only[sZ])
 refine sF 5 aj ?_
 refine lM ?_
 go_wp2_with fail
 clear GP BN OA
 rw[HL.out,QG]at MS
 have M0:=Zs (uY w W1 R (fM 8 (gG (aC R) 0).k) (fM 9 (gG (aC R) 0).p)) (by rw[WH];exact MS.out)
 clear hl aj c0 hsz
 go_loopw [7,8] (fun e i wr=>∃m:Nat,e=.int .i64 (gG (aC R) m).e∧i=.int .i64 ((m:Int)+1)∧m≤8∧Hid ((gG (aC R) m).go=true)∧Hid (Pp (aC R) m (gG (aC R) m))∧Hid (uY w wr R (fM 8 (gG (aC R) m).k) (fM 9 (gG (aC R) m).p))) (fun _ i _=>9-(intOf i).toNat)
 case atStart=>exact⟨0,by rw[E0.out],rfl,Nat.zero_le _,rfl,IS.out,M0.out⟩
 case round=>
  obtain⟨m,rfl,rfl,hm,hgo,hI,hM⟩:=hrel
  clear M0 IS E0
  by_cases vD:m<8
  ·have hst:=fun hq=>Pq hgo.out hq vD
   have HST:=Zd hst
   have HSP:=Zd (fun q1 q2=>Ei hI.out hgo.out q1 q2)
   obtain⟨e0,e1⟩:=And.intro hI.out.e0 hI.out.e1
   rw[HR0.out]at e1
   have WP:=Zd (ac2 (hI.out.pb' gA) (by decide) 9)
   have MI:=Zd (VZ (fM 9 (gG (aC R) m).p) R (bQ _ _) hR (m+1) gA gA WP.out HB.out)
   have EM:=Zs (mis (aC (fM 9 (gG (aC R) m).p)) (aC R) (m+1) (m+1)=mis (gG (aC R) m).p (aC R) (m+1) (m+1)) (aft _ _ _ gA)
   rw[EM.out]at MI
   have MB:=Lj (hI.out.pb' gA) HB.out (m+1) (m+1)
   have EQ:=Zs (sG (aC R) m (gG (aC R) m)=(-(mis (gG (aC R) m).p (aC R) (m+1) (m+1))*32768).tdiv (gG (aC R) m).e) (rfl)
   have GR:=Zd (fun q q1 q2=>KG (fM 9 (gG (aC R) m).p) (bQ _ _) (m+1) gA q q1 q2 WP.out)
   have hlA:=bQ 9 (gG (aC R) m).p
   have wG:=bQ 8 (gG (aC R) m).k
   have BR:=Zd hM.out.1
   have BA:=Zd hM.out.2.2.2.1
   rw[show((m+1:Nat):Int)=(m:Int)+1 from rfl]at MI
   clear hst hI hgo
   have ST:=Zd (fun q=>X9 8 (gG (aC R) m).k m q vD)
   have TG:=Zd (fun q=>ac1 (gG (aC R) m).p (m+1) gA q)
   generalize mis (gG (aC R) m).p (aC R) (m+1) (m+1)=s at *
   generalize sG (aC R) m (gG (aC R) m)=q at *
   generalize (gG (aC R) m).e=e at *
   generalize (gG (aC R) m).p=p at *
   generalize (gG (aC R) m).k=kf at *
   have s1:-4398046511104≤s:=gA
   have s2:s≤4398046511104:=gA
   clear MB
   obtain⟨d1,d2⟩:=adH (-s*32768) e e0 gA gA
   have ne:e≠0:=gA
   go_wp2_with (first|refine lA BA.out (by rw[hlA];exact dz) ?_|refine lA BR.out (by rw[hR];exact dz) ?_)
   refine(MI.out _).mono ?_
   rintro en w1 ⟨rfl,g1⟩
   have M1:=Zd (KW hM.out g1)
   clear hM g1 MI
   go_wp2_with fail
   rw[←EQ.out]
   rw[←EQ.out]at d1 d2
   refine(oh q (-31999) 31999 _).mono ?_
   rintro en w2 ⟨rfl,rfl⟩
   rcases hb:(decide (-31999≤q)&&decide (q≤31999))with _|_
   ·have H8:=Zd (HST.out (fun h=>by
     have:(decide (-31999≤q)&&decide (q≤31999))=true:=by simp;omega
     rw[hb]at this;cases this))
    have BK:=Zd M1.out.2.2.1
    have BB:=Zd M1.out.2.1
    have GM:=Zd M1.out.2.2.2.2
    clear hb
    have ER:=Zs (WG w (lN R) (vw R) (vC R)=WG w (fM 8 kf) e false) (by rw[EK.out,EE.out,EG.out,H8.out])
    generalize fM 8 kf=ks at *
    go_wp2_with (first|refine lA BK.out (by rw[wG];exact aW) ?_|refine sA ks BB.out (by rw[wG,au]) (by rw[au];exact aW) ?_)
    have PU:=bB (rs':=ks) BB.out (by rw[wG,au])
    have eO:=lS PU.1 (by rw[wG];exact aW)
    have GF:=Zd (aG GM.out PU.2 gA)
    refine bodyPost_ret (v:=.tuple #[.agg (aD ks),.int .i64 e,.bool false]) ?_ rfl ?_
    ·simp[results,results34,asAddr,Act.put,eO]
    rw[ER.out];exact⟨rfl,GF.out⟩
   have hq:-31999≤q∧q≤31999:=by simpa using hb
   obtain⟨q1,q2⟩:=hq
   have en:=abL e q e0 gA gA
   have HN:=Zs (eN e q=e-(e*q / 32768)*q / 32768) (rfl)
   unfold eN at en
   obtain⟨f1,f2,⟨f3,f4⟩,f5,f6⟩:=en
   have SP:=Zd (HSP.out gA gA)
   have GQ:=Zd (GR.out q gA gA)
   rw[TG.out q]at GQ
   rw[show((m+1:Nat):Int)=(m:Int)+1 from rfl]at GQ
   have hlA':=bQ 9 (gr p (m+1) q)
   have cd:=M1.out.2.2.1.cell m gA
   have fd:=M1.out.2.2.1.free m
   have M2:=Zd (adG M1.out m q)
   have BA:=Zd M2.out.2.2.2.1
   clear hb
   have f7:¬e-(e*q / 32768)*q / 32768≤0:=gA
   have m0:(0:Int)≤m:=gA
   have m8:(m:Int)<8:=gA
   generalize aC (fM 8 kf) m=y' at *
   generalize hA':fM 9 (gr p (m+1) q)=A' at *
   have HA':=Zd hA'
   clear hA'
   generalize fM 9 p=A at *
   go_wp2_with (first|refine lA BA.out (by rw[hlA];exact dz) ?_)
   refine(GQ.out _).mono ?_
   rintro en w3 ⟨rfl,g3⟩
   have M3:=Zd (KW M2.out g3)
   have B3:=Zd M3.out.2.2.2.1
   clear g3 GQ cd fd
   go_wp2_with (first|refine sA A' B3.out (by rw[hlA,hlA']) (by rw[hlA];exact dz) ?_)
   have M4:=Zd (adF M3.out A' (by rw[hlA,hlA']))
   go_roundw
   case rel=>
    refine⟨m+1,?_,by go_num,gA,?_,SP.out.2,?_⟩
    ·rw[SP.out.1];exact congrArg (Value.int .i64) HN.out.symm
    ·rw[SP.out.1];exact rfl
    rw[SP.out.1,HA'.out,←ST.out q];exact M4.out
   case measure=>simp[intOf];omega
  obtain rfl:m=8:=gA
  have wG:=bQ 8 (gG (aC R) 8).k
  have ER:=Zs (WG w (lN R) (vw R) (vC R)=WG w (fM 8 (gG (aC R) 8).k) (gG (aC R) 8).e true) (by rw[EK.out,EE.out,EG.out,hgo.out])
  have BK:=Zd hM.out.2.2.1
  have BB:=Zd hM.out.2.1
  have GM:=Zd hM.out.2.2.2.2
  clear hM hI hgo
  generalize fM 8 (gG (aC R) 8).k=ks at *
  generalize (gG (aC R) 8).e=e at *
  go_wp2_with (first|refine lA BK.out (by rw[wG];exact aW) ?_|refine sA ks BB.out (by rw[wG,au]) (by rw[au];exact aW) ?_)
  have PU:=bB (rs':=ks) BB.out (by rw[wG,au])
  have eO:=lS PU.1 (by rw[wG];exact aW)
  have GF:=Zd (aG GM.out PU.2 gA)
  refine bodyPost_ret (v:=.tuple #[.agg (aD ks),.int .i64 e,.bool true]) ?_ rfl ?_
  ·simp[results,results34,asAddr,Act.put,eO]
  rw[ER.out];exact⟨rfl,GF.out⟩
theorem Nr (R:List Int)(hR:R.length=9)(w:World):Calls prog 34 #[.agg (aD R)] w (WG w (lN R) (vw R) (vC R)):=by
 rcases ho:Ya R with _|_
 ·rw[show lN R=ay 8 by simp[lN,ho],show vw R=0 by simp[vw,ho],show vC R=false by simp[vC,ho]]
  exact Rw R hR ho w
 exact Nq R hR ho w
theorem afW:(prog.info? 27).map (·.size)=some 80:=by kernel_rfl
theorem adJ {w:World}{b:Nat}{T:TypeId}{rs:List Int}(h:bO w b T rs)(k c:Nat)(hk:k≤rs.length)(hc:k≤c):aS w (.slice (some ⟨b,0,none⟩) k c) (rs.take k):=by
 have e:(rs.take k).length=k:=by simp;omega
 refine⟨some ⟨b,0,none⟩,c,by rw[e],by rw[e];exact hc,fun _=>⟨_,rfl,fun i hi=>?_⟩⟩
 rw[e]at hi
 rw[Addr.add_mid,Nat.zero_add,h.cell i gA,qN _ _ _ hi]
theorem aaW (n:Nat)(hn:n≤80):(jc 80).take n=jc n:=by
 apply dJ (by unfold jc;simp[bQ];omega)
 intro i hi
 rw[qN _ _ _ hi]
 unfold jc
 rw[dN _ _ _ gA]
def RgS (W0:World)(L:List Int)(en:Int)(s7 s9:Value)(wx:World):Prop:=s9=.int .i64 en∧gP W0.heap.size wx s7 L∧W0.grownBy wx none
theorem afX (a:List Int)(n:Int)(hn:¬(0≤n∧n≤80))(w:World) :
 Calls prog 107 #[.agg (aD a),.int .i64 n] w (fO w [] 1):=by
 have G0:=Zd (ak w (.cells (aD a) 58) none)
 by_cases h1:n<0
 ·go_enter func107,ntmps107
  go_wp2_with fail
  go_ret2
  exact⟨_,rfl,bZ _ _,G0.out⟩
 have h2:80<n:=gA
 go_enter func107,ntmps107
 go_wp2_with fail
 go_ret2
 exact⟨_,rfl,bZ _ _,G0.out⟩
theorem adK (a:List Int)(ha:a.length=9)(n:Nat)(hn:n≤80)(w:World) :
 Calls prog 107 #[.agg (aD a),.int .i64 n] w (fO w (xQ a (ay 8) (jc n)) (I8 a (ay 8) (jc n))):=by
 have B0:=Zd (bO.new w 58 a)
 have G0:=Zd (ak w (.cells (aD a) 58) none)
 have h1l:(jc n).length=n:=bQ _ _
 have h80:(jc 80).length=80:=bQ _ _
 have hset:(aD (ay 80)).setIfInBounds 0 (.int .i64 4096)=aD (jc 80):=by rw[vO,one_set 80 gA]
 have ald:=gM (T:=27) (n:=80) (by kernel_rfl)
 have MK:=Zd (fun wr v (h:aS wr v (jc n)) (s:rR v (jc n))=>Qb a (ay 8) ha (au 8) v (jc n) wr h s (by rw[h1l];omega))
 have hq:=rQ a (ay 8) (jc n)
 have IP:=Zd (fun wr b (h:bO wr b 27 (jc 80))=>show aS wr (.slice (some ⟨b,0,none⟩) n 80) (jc n)from by have:=adJ h n 80 (by rw[h80];exact hn) hn;rw[aaW n hn]at this;exact this)
 have SP:=Zd (fun b=>show rR (.slice (some ⟨b,0,none⟩) n 80) (jc n)from .inr ⟨_,_,by rw[h1l]⟩)
 generalize xQ a (ay 8) (jc n)=L at *
 generalize I8 a (ay 8) (jc n)=en at *
 generalize Du a (ay 8) (jc n)=P at *
 generalize jc 80=X at *
 have i1:(n:Int)≤80:=gA
 have i2:¬(n:Int)<0:=gA
 have i3:¬(80:Int)<n:=gA
 go_enter func107,ntmps107
 obtain⟨f1,f2,f3⟩:=dL (w.alloc (.cells (aD a) 58)) 27 80 X h80
 rw[show(w.alloc (.cells (aD a) 58)).heap.size=w.heap.size+1 by simp]at f1 f2 f3
 have F1:=Zd f1
 have BX:=Zd f2
 have BA:=Zd (B0.out.aH f3)
 have GW:=Zd (aB G0.out f3)
 clear f1 f2 f3
 go_upto_region 4 with(first|refine sA X F1.out (by rw[h80,au]) (by rw[au];exact afW) ?_)
 clear hset ald
 generalize bT _ (w.heap.size+1) X=W0 at *
 generalize w.heap.size+1=B at *
 have IN:=Zd (fun wr (g:dM W0 wr)=>IP.out wr B (BX.out.aH g))
 have SH:=Zd (SP.out B)
 (try simp only[Act.put])
 go_cut [7,9]from 10 (fun s7 s9 wx=>RgS W0 L en s7 s9 wx)
 case first=>
  refine wp_region_held_drew (S:=dM W0) (by kernel_rfl) (aZ _) (fun aj=>?_)
  refine bV (hy:=by intro w' bL;exact yA (BA.out.aH bL) (by rw[ha];exact dz)) (v:=.agg (aD a)) 0 aj ?_
  refine bV (hy:=by intro w' bL;go_simp;exact rF.symm) (v:=.agg (aD (ay 8))) 1 aj ?_
  refine bV 2 aj ?_
  refine bV (v:=(.slice (some ⟨B,0,none⟩) n 80)) 3 aj ?_
  refine oL 4 9 (fun K hK=>?ale) fun K hK=>?alf
  case ale=>
   (try simp only[sZ])
   go_simp
   refine(MK.out _ _ (IN.out _ aj) SH.out).mono ?_
   rintro e WL ⟨vx,rfl,ox,ai0⟩
   have alg:=Zd ai0
   have OX:=Zd (ox.base (b':=W0.heap.size) (World.grownBy.size aj))
   clear ai0 ox
   go_wp2_with fail
   refine hK.out _ _ (bD aj alg.out) (fun aj=>?_)
   (try simp only[sZ])
   refine bV 5 aj ?_
   refine bV 6 aj ?_
   refine bV 7 aj ?_
   refine bV 8 aj ?_
   refine fI 9 fun K hK=>?_
   (try simp only[sZ])
   go_simp
   go_wp2_with fail
   have HB:=Zs (W0.heap.size≤WL.heap.size) (by first|exact Nat.le_refl _|exact World.grownBy.size aj)
   refine hK.out _ _ (dX aj (.cells #[.int .i64 0,.int .i64 0,.int .i64 0,.int .i64 0,.int .i64 0,.int .i64 0,.int .i64 0,.int .i64 0] 26)) (fun aj=>?_)
   have HZ:=Zs (bO (WL.alloc (.cells #[.int .i64 0,.int .i64 0,.int .i64 0,.int .i64 0,.int .i64 0,.int .i64 0,.int .i64 0,.int .i64 0] 26)) WL.heap.size 26 (ay 8)) (bO.new WL 26 (ay 8))
   have OX:=Zd (OX.out.aH (ak WL (.cells #[.int .i64 0,.int .i64 0,.int .i64 0,.int .i64 0,.int .i64 0,.int .i64 0,.int .i64 0,.int .i64 0] 26) none))
   generalize WL.alloc (.cells #[.int .i64 0,.int .i64 0,.int .i64 0,.int .i64 0,.int .i64 0,.int .i64 0,.int .i64 0,.int .i64 0] 26)=alh at *
   (try simp only[sZ])
   refine bV 10 aj ?_
   refine fI 11 fun K hK=>?_
   (try simp only[sZ])
   refine dW rfl 26 _ _ rfl (WL.heap.size) (ay 8) P rfl rfl HZ.out (by rw[hq,au]) (by rw[au];exact aW) ?_
   have PU:=bB (rs':=P) HZ.out (by rw[hq,au])
   refine hK.out _ _ (iV aj PU.2 HB.out) (fun aj=>?_)
   have OX:=Zd (OX.out.aJ PU.2 HZ.out (by decide))
   (try simp only[sZ])
   refine bV 12 aj ?_
   refine lM ?_
   go_wp2_with fail
   go_meet
   exact⟨rfl,OX.out,aj⟩
  case alf=>
   (try simp only[sZ])
   go_simp
   go_wp2_with fail
   have HB:=Zs (W0.heap.size≤W0.heap.size) (by first|exact Nat.le_refl _|exact World.grownBy.size aj)
   refine hK.out _ _ (dX aj (.cells #[.int .i64 0,.int .i64 0,.int .i64 0,.int .i64 0,.int .i64 0,.int .i64 0,.int .i64 0,.int .i64 0] 26)) (fun aj=>?_)
   have HZ:=Zs (bO ((W0.alloc (.cells #[.int .i64 0,.int .i64 0,.int .i64 0,.int .i64 0,.int .i64 0,.int .i64 0,.int .i64 0,.int .i64 0] 26)).drew) W0.heap.size 26 (ay 8)) (bO.new W0.drew 26 (ay 8))
   generalize (W0.alloc (.cells #[.int .i64 0,.int .i64 0,.int .i64 0,.int .i64 0,.int .i64 0,.int .i64 0,.int .i64 0,.int .i64 0] 26)).drew=ali at *
   (try simp only[sZ])
   refine fI 4 fun K hK=>?_
   (try simp only[sZ])
   go_simp
   refine(MK.out _ _ (IN.out _ aj) SH.out).mono ?_
   rintro e am6 ⟨vx,rfl,ox,agX⟩
   have agY:=Zd agX
   have OX:=Zd (ox.base (b':=W0.heap.size) (World.grownBy.size aj))
   clear agX ox
   go_wp2_with fail
   refine hK.out _ _ (bD aj agY.out) (fun aj=>?_)
   have HZ:=Zd (HZ.out.aH agY.out)
   (try simp only[sZ])
   refine bV 5 aj ?_
   refine bV 6 aj ?_
   refine bV 7 aj ?_
   refine bV 8 aj ?_
   refine bV 10 aj ?_
   refine fI 11 fun K hK=>?_
   (try simp only[sZ])
   refine dW rfl 26 _ _ rfl (W0.heap.size) (ay 8) P rfl rfl HZ.out (by rw[hq,au]) (by rw[au];exact aW) ?_
   have PU:=bB (rs':=P) HZ.out (by rw[hq,au])
   refine hK.out _ _ (iV aj PU.2 HB.out) (fun aj=>?_)
   have OX:=Zd (OX.out.aJ PU.2 HZ.out (by decide))
   (try simp only[sZ])
   refine bV 12 aj ?_
   refine lM ?_
   go_wp2_with fail
   go_meet
   exact⟨rfl,OX.out,aj⟩
 case rest=>
 obtain⟨rfl,o1,g1⟩:=hcut
 have OO:=Zd (o1.base (b':=w.heap.size) (World.grownBy.size GW.out))
 have GG:=Zd (aB GW.out g1)
 clear o1 g1 MK IN SH
 go_wp2_with fail
 go_ret2
 exact⟨_,rfl,OO.out,GG.out⟩
theorem adL (a:List Int)(ha:a.length=9)(n:Int)(w:World) :
 Calls prog 107 #[.agg (aD a),.int .i64 n] w (fO w (rgL a n) (rgE a n)):=by
 by_cases hn:0≤n∧n≤80
 ·rw[show rgL a n=xQ a (ay 8) (jc n.toNat)from if_pos hn,show rgE a n=I8 a (ay 8) (jc n.toNat)from if_pos hn]
  have e:n=(n.toNat:Int):=gA
  have:=adK a ha n.toNat gA w
  rw[←e]at this
  exact this
 rw[show rgL a n=[]from if_neg hn,show rgE a n=1 from if_neg hn]
 exact afX a n hn w
theorem fold_size (v u:Value)(r l:List Int)(w:World)(hr:aS w v r)(hl:aS w u l)(hs:u_ r l=false)(br:r.length≤1000000000000000000)(bl:l.length≤1000000000000000000) :
 Calls prog 109 #[v,u] w (fO w [] 1):=by
 obtain⟨ad,c,rfl,hc,_⟩:=hr
 obtain⟨Yr,c',rfl,hc',_⟩:=hl
 have G0:=Zd (aQ w none)
 by_cases h1:r.length=l.length
 ·have h2:¬l.length≤80:=by
   intro h;unfold u_ at hs;simp[h1,h]at hs
  have h3:(80:Int)<l.length:=gA
  rw[h1]
  clear hs h1
  go_enter func109,ntmps109
  go_wp2_with fail
  go_ret2
  exact⟨_,rfl,bZ _ _,G0.out⟩
 have h3:¬(r.length:Int)=l.length:=gA
 clear hs
 go_enter func109,ntmps109
 go_wp2_with fail
 go_ret2
 exact⟨_,rfl,bZ _ _,G0.out⟩
theorem WO (v u:Value)(r l:List Int)(w:World)(hr:aS w v r)(hl:aS w u l)(h1:r.length=l.length)(h2:l.length≤80)(hk:okO r l=false) :
 Calls prog 109 #[v,u] w (fO w [] 2):=by
 have R1:=Zd (iH v r w hr gA)
 have R2:=Zd (iH u l w hl gA)
 obtain⟨ad,c,rfl,hc,_⟩:=hr
 obtain⟨Yr,c',rfl,hc',_⟩:=hl
 have G0:=Zd (aQ w none)
 have h3:(l.length:Int)≤80:=gA
 rw[h1]at R1 ⊢
 clear h1
 rcases h:aL r with _|_
 ·rw[h]at R1
  clear h hk
  go_enter func109,ntmps109
  go_wp2_with fail
  refine R1.out.mono ?_
  rintro e w1 ⟨rfl,rfl⟩
  go_wp2_with fail
  go_ret2
  exact⟨_,rfl,bZ _ _,G0.out⟩
 have h':aL l=false:=by unfold okO at hk;rw[h]at hk;simpa using hk
 rw[h]at R1
 rw[h']at R2
 clear h h' hk
 go_enter func109,ntmps109
 go_wp2_with fail
 refine R1.out.mono ?_
 rintro e w1 ⟨rfl,rfl⟩
 go_wp2_with fail
 refine R2.out.mono ?_
 rintro e w1 ⟨rfl,rfl⟩
 go_wp2_with fail
 go_ret2
 exact⟨_,rfl,bZ _ _,G0.out⟩
def foP (r l:List Int)(n m:Nat):Int:=fq (fun i=>aC r i*aC l (n-i)) m
theorem adM (r l:List Int)(n m:Nat):foP r l n (m+1)=foP r l n m+aC r m*aC l (n-m):=rfl
theorem adN (r l:List Int)(hr:∀i,-32768≤aC r i∧aC r i≤32767)(hl:∀i,-32768≤aC l i∧aC l i≤32767)(n m:Nat)(hm:m≤80):-90000000000≤foP r l n m∧foP r l n m≤90000000000:=by
 have:=zn (fun i=>aC r i*aC l (n-i)) (fun i=>pK _ _ (hr i).1 (hr i).2 (hl _).1 (hl _).2) m
 unfold foP
 omega
theorem adO (v u:Value)(r l:List Int)(w:World)(hr:aS w v r)(hl:aS w u l)(h1:r.length=l.length)(h2:l.length≤80)(kr:aL r=true)(kl:aL l=true) :
 Calls prog 109 #[v,u] w (fO w (fM l.length (Yk r l)) 0):=by
 have R1:=Zd (iH v r w hr gA)
 have R2:=Zd (iH u l w hl gA)
 rw[kr]at R1
 rw[kl]at R2
 have RB:=Zd (jE r _ _ gA gA ((aV r).1 kr))
 have LB:=Zd (jE l _ _ gA gA ((aV l).1 kl))
 have HR:=Zd hr
 obtain⟨ad,c,rfl,hc,hcr⟩:=hr
 obtain⟨Yr,c',rfl,hc',aK⟩:=hl
 have CR:=Zd hcr
 have CL:=Zd aK
 have M0:=Zs (ab4 w (w.alloc (.cells (aD (ay l.length)) 3)) 3 (ay l.length)) (⟨bO.new w 3 (ay l.length),ak _ _ none⟩)
 have jg:=fZ l.length gA
 have h3:(l.length:Int)≤80:=gA
 have HL:=Zd h1
 rw[h1]at R1 hc CR HR ⊢
 clear hcr aK kr kl h1
 generalize hN:l.length=N at *
 have HN:=Zd hN
 clear hN
 go_enter func109,ntmps109
 go_wp2_with fail
 refine R1.out.mono ?_
 rintro e w1 ⟨rfl,rfl⟩
 go_wp2_with fail
 refine R2.out.mono ?_
 rintro e w2 ⟨rfl,rfl⟩
 clear R1 R2
 go_wp2_with fail
 clear jg
 generalize w2.alloc (.cells (aD (ay N)) 3)=W0 at *
 go_loopw [34] (fun s34 wr=>∃(n:Nat) (rs:List Int),s34=.int .i64 n∧n≤N∧Hid (jh N (Yk r l) n rs)∧Hid (ab4 w2 wr 3 rs)) (fun s34 _=>N-(intOf s34).toNat)
 case atStart=>exact⟨0,ay N,rfl,Nat.zero_le _,⟨au N,fun j hj=>gA⟩,M0.out⟩
 case round=>
  obtain⟨n,rs,rfl,hn,hF,hM⟩:=hrel
  clear M0
  by_cases hnN:n<N
  ·obtain⟨al,rfl,hv⟩:=CL.out gA
   obtain⟨ar,rfl,hvr⟩:=CR.out (by have:=HL.out;omega)
   have HVL:=Zd hv
   have n1:(n:Int)<N:=gA
   have n2:(n:Int)+1≤N:=gA
   have DI:decide ((n:Int)<N)=true:=by simp;omega
   obtain⟨vA,hA,iA,sA⟩:=Yq HR.out (.inr ⟨ar,c,by rw[HL.out]⟩) (n+1) (by have:=HL.out;omega)
   rw[show((n+1:Nat):Int)=(n:Int)+1 by omega]at hA
   obtain⟨aA,cA,rfl,hcA,hvA⟩:=iA
   have hlA:(r.take (n+1)).length=n+1:=by have:=HL.out;simp;omega
   rw[hlA]at hA hcA hvA
   obtain⟨aa,rfl,qZ⟩:=hvA gA
   have HVA:=Zd qZ
   clear hv hvr hvA qZ sA
   have S0:=Zs ((0:Int)=foP r l n 0) (rfl)
   go_wp2_with fail
   go_loop [8,42] (fun s8 s42=>∃m:Nat,s42=.int .i64 m∧s8=.int .i64 (foP r l n m)∧m≤n+1) (fun _ s42=>n+1-(intOf s42).toNat)
   case atStart=>exact⟨0,rfl,by rw[←S0.out],Nat.zero_le _⟩
   case round=>
    obtain⟨m,rfl,rfl,hm⟩:=hrel
    by_cases hmn:m<n+1
    ·have cr:=bA hM.out.2 (HVA.out m hmn)
     rw[qN _ _ _ hmn]at cr
     have cl:=bA hM.out.2 (HVL.out (n-m) gA)
     obtain⟨x1,x2⟩:=RB.out m
     obtain⟨y1,y2⟩:=LB.out (n-m)
     obtain⟨p1,p2⟩:=pK _ _ x1 x2 y1 y2
     obtain⟨s1,s2⟩:=adN r l RB.out LB.out n m gA
     have ES:=Zd (adM r l n m)
     have m1:(m:Int)<n+1:=gA
     have hJ:(n:Int)-(m:Int)=((n-m:Nat):Int):=gA
     have j1:n-m<N:=gA
     clear hF
     generalize aC r m=x at *
     generalize aC l (n-m)=y at *
     generalize foP r l n m=S at *
     generalize n-m=J at *
     go_wp2_with fail
     go_round
     case rel=>exact⟨m+1,by go_num,by rw[ES.out],gA⟩
     case measure=>simp[intOf];omega
    obtain rfl:m=n+1:=gA
    obtain⟨s1,s2⟩:=adN r l RB.out LB.out n (n+1) gA
    have RD:=Zd (fun w'=>vW (foP r l n (n+1)) gA gA w')
    have ST:=Zd (fun w'=>vV ((foP r l n (n+1)+2048) / 4096) w')
    have EV:eU ((foP r l n (n+1)+2048) / 4096)=Yk r l n:=rfl
    rw[EV]at ST
    have hlen:rs.length=N:=hF.out.1
    have NF:=Zd (eP hF.out hnN)
    have cd:=hM.out.1.cell n gA
    have fd:=hM.out.1.free n
    have NM:=Zd (hM.out.set n (Yk r l n))
    clear EV hF hM s1 s2
    generalize Yk r l n=z at *
    generalize (foP r l n (n+1)+2048) / 4096=y at *
    generalize foP r l n (n+1)=S at *
    generalize aC rs n=q at *
    go_wp2_with fail
    refine(RD.out _).mono ?_
    rintro e w3 ⟨rfl,rfl⟩
    clear RD
    go_wp2_with fail
    refine(ST.out _).mono ?_
    rintro e w4 ⟨rfl,rfl⟩
    clear ST
    go_wp2_with fail
    go_roundw
    case rel=>exact⟨n+1,_,by go_num,gA,NF.out,NM.out⟩
    case measure=>simp[intOf];omega
  obtain rfl:n=N:=gA
  have EL:=Zs (rs=fM n (Yk r l)) (fB hF.out)
  have hlen:rs.length=n:=hF.out.1
  have OF:=Yw hM.out.1 (Nat.le_refl _) gA
  rw[hlen]at OF
  have GF:=Zd hM.out.2
  have OO:=Zd OF
  clear hF hM OF
  go_wp2_with fail
  go_ret2
  rw[EL.out]at OO
  exact⟨_,rfl,OO.out,GF.out⟩
theorem adP (v u:Value)(r l:List Int)(w:World)(hr:aS w v r)(hl:aS w u l)(br:r.length≤1000000000000000000)(bl:l.length≤1000000000000000000) :
 Calls prog 109 #[v,u] w (fO w (Es r l) (J_ r l)):=by
 rcases hs:u_ r l with _|_
 ·rw[show Es r l=[] by unfold Es;rw[hs];simp,show J_ r l=1 by unfold J_;rw[hs];rfl]
  exact fold_size v u r l w hr hl hs br bl
 have hs':=hs
 unfold u_ at hs'
 simp only[Bool.and_eq_true,decide_eq_true_eq]at hs'
 rcases hk:okO r l with _|_
 ·rw[show Es r l=[] by unfold Es;rw[hk];simp,show J_ r l=2 by unfold J_;rw[hs,hk];rfl]
  exact WO v u r l w hr hl hs'.1 hs'.2 hk
 rw[show Es r l=fM l.length (Yk r l) by unfold Es;rw[if_pos ⟨hs,hk⟩],show J_ r l=0 by unfold J_;rw[hs,hk];rfl]
 unfold okO at hk
 simp only[Bool.and_eq_true]at hk
 exact adO v u r l w hr hl hs'.1 hs'.2 hk.1 hk.2
def ahX:Go.Shelf.Ren:=⟨fun _=>228,fun n=>if n=46 then 91 else 148,fun n=>n⟩
theorem afY:Go.Proofs.Lays.n264 prog ahX where
 mixed:=by kernel_rfl
 f264:=by kernel_rfl
 t46:=by kernel_rfl
 a46:=fun _=>by kernel_rfl
 z46:=fun _=>by kernel_rfl
 v46:=fun _=>by kernel_rfl
 t53:=by kernel_rfl
 a53:=fun _=>by kernel_rfl
 z53:=fun _=>by kernel_rfl
 v53:=fun _=>by kernel_rfl
theorem aaX (x y:Nat)(hx:x<18446744073709551616)(hy:y<18446744073709551616)(w:World) :
 Calls prog 228 #[.int .u64 x,.int .u64 y] w fun e w'=>e=.returned (.tuple #[.int .u64 ((x*y / 18446744073709551616:Nat):Int),.int .u64 ((x*y % 18446744073709551616:Nat):Int)])∧w'=w:=
 Any.bits_Mul64 afY x y hx hy w
theorem qJ (x y:Int)(hx0:0≤x)(hy0:0≤y)(hx:x<18446744073709551616)(hy:y<18446744073709551616)(w:World) :
 Calls prog 228 #[.int .u64 x,.int .u64 y] w fun e w'=>∃h l:Int,0≤h∧h<18446744073709551616∧0≤l∧l<18446744073709551616∧Hid (h*18446744073709551616+l=x*y)∧e=.returned (.tuple #[.int .u64 h,.int .u64 l])∧w'=w:=by
 obtain⟨x,rfl⟩:=Int.eq_ofNat_of_zero_le hx0
 obtain⟨y,rfl⟩:=Int.eq_ofNat_of_zero_le hy0
 refine(aaX x y gA gA w).mono fun e w' h=>?_
 have hm:x*y≤18446744073709551615*18446744073709551615:=Nat.mul_le_mul gA gA
 have hc:(x:Int)*y=((x*y:Nat):Int):=by simp
 refine⟨_,_,?_,?_,?_,?_,?_,h.1,h.2⟩
 all_goals(try unfold Hid)
 all_goals(try rw[hc])
 all_goals(generalize x*y=z at *)
 all_goals omega
theorem Ze (x y:Int)(hx:0≤x)(hy:0≤y)(w:World):(callFunc 229 #[.int .u64 x,.int .u64 y,.int .u64 0]).run prog w =
 .ok (.value (.tuple #[.int .u64 ((x+y) % 18446744073709551616),.int .u64 ((x+y) / 18446744073709551616)])) w:=by
 rw[run_callFunc_extern func229 (by kernel_rfl) (by kernel_rfl) (by kernel_rfl) (e:=add64Entry) (by kernel_rfl),run_add64 x y 0 hx hy gA gA]
 simp only[Result.andThen,Int.add_zero]
theorem CB (u v h l c la f m cy mm:Int)(hu:0≤u)(hu':u<9223372036854775808)(hv:0≤v)(hv':v<9223372036854775808)
 (e1:h*18446744073709551616+l=u*u) (e2:c*18446744073709551616+la=l*v) (e3:f*18446744073709551616+m=h*v)
 (l0:0≤l) (l1:l<18446744073709551616) (hf:0≤f) (hm:0≤m) (hm':m<18446744073709551616) (hc:0≤c) (hc':c<18446744073709551616)
 (e4:cy=(m+c) / 18446744073709551616) (e5:mm=(m+c) % 18446744073709551616) :
 (f+cy)*340282366920938463463374607431768211456+mm*18446744073709551616+la=u*u*v∧0≤f+cy∧f+cy<18446744073709551616∧0≤mm∧mm<18446744073709551616:=by
 have hv2:u*u*v=(h*v)*18446744073709551616+l*v:=by
  rw[←e1,Int.add_mul,Int.mul_right_comm]
 have hb:h≤4611686018427387903:=by
  have:u*u≤9223372036854775807*9223372036854775807:=Int.mul_le_mul gA gA hu gA
  omega
 have hf2:f<18446744073709551616-1:=by
  have:h*v≤4611686018427387903*9223372036854775807:=Int.mul_le_mul hb gA hv gA
  omega
 generalize u*u*v=R at *
 generalize h*v=S at *
 generalize l*v=T at *
 subst e4 e5
 refine⟨gA,gA,gA,gA,gA⟩
theorem GI (x y:Int)(hx:x≤9223372036854775807)(hy:0≤y)(hy':y≤9223372036854775807)(w:World) :
 Calls prog 225 #[.int .i64 x,.int .i64 y] w fun e w'=>∃p0 p1 p2:Int,∃(o:Array Value) (t:TypeId),(0≤p0∧p0<18446744073709551616∧0≤p1∧p1<18446744073709551616∧0≤p2∧p2<18446744073709551616)∧
  p0*340282366920938463463374607431768211456+p1*18446744073709551616+p2=lQ x*lQ x*y∧
  e=.returned (.agg #[.int .u64 p0,.int .u64 p1,.int .u64 p2])∧w'=w.alloc (.cells o t):=by
 by_cases hn:x<0
 ·have hp:lQ x=0:=by unfold lQ;rw[if_pos hn]
  rw[hp];clear hp
  go_enter func225,ntmps225
  go_wp2_with fail
  refine(qJ _ _ gA gA gA gA _).mono ?_
  rintro e w1 ⟨h,l,h0,h1,l0,l1,E1,rfl,rfl⟩
  go_wp2_with fail
  refine(qJ _ _ gA gA gA gA _).mono ?_
  rintro e w2 ⟨c,la,c0,c1,la0,la1,E2,rfl,rfl⟩
  go_wp2_with fail
  refine(qJ _ _ gA gA gA gA _).mono ?_
  rintro e w3 ⟨f,m,f0,f1,m0,m1,E3,rfl,rfl⟩
  obtain⟨q1,q2,q3,q4,q5⟩:=CB 0 y h l c la f m _ _ gA gA hy gA E1.out E2.out E3.out l0 l1 f0 m0 m1 c0 c1 rfl rfl
  have Q1:Hid _:=q1
  clear q1
  go_wp2_with (simp only[Ze m c m0 c0])
  refine bodyPost_ret (v:=.agg #[.int .u64 (f+(m+c) / 18446744073709551616),.int .u64 ((m+c) % 18446744073709551616),.int .u64 la]) (by simp[results,results225,go_sem]) rfl ?_
  exact⟨_,_,_,_,_,⟨q2,q3,q4,q5,la0,la1⟩,Q1.out,rfl,rfl⟩
 have hp:lQ x=x:=by unfold lQ;rw[if_neg hn]
 rw[hp];clear hp
 go_enter func225,ntmps225
 go_wp2_with fail
 refine(qJ _ _ gA gA gA gA _).mono ?_
 rintro e w1 ⟨h,l,h0,h1,l0,l1,E1,rfl,rfl⟩
 go_wp2_with fail
 refine(qJ _ _ gA gA gA gA _).mono ?_
 rintro e w2 ⟨c,la,c0,c1,la0,la1,E2,rfl,rfl⟩
 go_wp2_with fail
 refine(qJ _ _ gA gA gA gA _).mono ?_
 rintro e w3 ⟨f,m,f0,f1,m0,m1,E3,rfl,rfl⟩
 obtain⟨q1,q2,q3,q4,q5⟩:=CB x y h l c la f m _ _ gA gA hy gA E1.out E2.out E3.out l0 l1 f0 m0 m1 c0 c1 rfl rfl
 have Q1:Hid _:=q1
 clear q1
 go_wp2_with (simp only[Ze m c m0 c0])
 refine bodyPost_ret (v:=.agg #[.int .u64 (f+(m+c) / 18446744073709551616),.int .u64 ((m+c) % 18446744073709551616),.int .u64 la]) (by simp[results,results225,go_sem]) rfl ?_
 exact⟨_,_,_,_,_,⟨q2,q3,q4,q5,la0,la1⟩,Q1.out,rfl,rfl⟩
def wH (a b c:Int):Int:=a*340282366920938463463374607431768211456+b*18446744073709551616+c
theorem WU (p0 p1 p2 q0 q1 q2:Int)(a1:0≤p1)(a2:p1<18446744073709551616)(a3:0≤p2)(a4:p2<18446744073709551616)(b1:0≤q1)(b2:q1<18446744073709551616)(b3:0≤q2)(b4:q2<18446744073709551616) :
 (p0≠q0→decide (q0<p0)=decide (wH q0 q1 q2<wH p0 p1 p2))∧(p0=q0→p1≠q1→decide (q1<p1)=decide (wH q0 q1 q2<wH p0 p1 p2))∧
 (p0=q0→p1=q1→decide (q2<p2)=decide (wH q0 q1 q2<wH p0 p1 p2)):=by
 unfold wH
 refine⟨fun h=>?_,fun h h'=>?_,fun h h'=>?_⟩<;>(rw[decide_eq_decide];omega)
theorem D5 {W w:World}(h:W.grownBy w none):W.grownBy w.drew none:=bW h
theorem uq {W w:World}{o:Obj}(h:W.grownBy w none):W.grownBy (w.alloc o) none:=aB h (ak _ _ none)
theorem WV (p0 p1 p2 q0 q1 q2:Int)(a1:0≤p1)(a2:p1<18446744073709551616)(a3:0≤p2)(a4:p2<18446744073709551616)(b1:0≤q1)(b2:q1<18446744073709551616)(b3:0≤q2)(b4:q2<18446744073709551616)(w:World) :
 Calls prog 224 #[.agg #[.int .u64 p0,.int .u64 p1,.int .u64 p2],.agg #[.int .u64 q0,.int .u64 q1,.int .u64 q2]] w fun e w'=>e=.returned (.bool (decide (wH q0 q1 q2<wH p0 p1 p2)))∧w.grownBy w' none:=by
 obtain⟨f1,f2,f3⟩:=WU p0 p1 p2 q0 q1 q2 a1 a2 a3 a4 b1 b2 b3 b4
 have F1:Hid (p0≠q0→decide (q0<p0)=decide (wH q0 q1 q2<wH p0 p1 p2)):=f1
 have F2:Hid (p0=q0→p1≠q1→decide (q1<p1)=decide (wH q0 q1 q2<wH p0 p1 p2)):=f2
 have F3:Hid (p0=q0→p1=q1→decide (q2<p2)=decide (wH q0 q1 q2<wH p0 p1 p2)):=f3
 clear f1 f2 f3
 generalize decide (wH q0 q1 q2<wH p0 p1 p2)=R at *
 have i0:∀w,(Instr.index 218 (.agg #[.int .u64 p0,.int .u64 p1,.int .u64 p2]) (.int .i64 0)).run prog w=.ok (.int .u64 p0) w:=fun _=>by kernel_rfl
 have i1:∀w,(Instr.index 218 (.agg #[.int .u64 p0,.int .u64 p1,.int .u64 p2]) (.int .i64 1)).run prog w=.ok (.int .u64 p1) w:=fun _=>by kernel_rfl
 have i2:∀w,(Instr.index 218 (.agg #[.int .u64 p0,.int .u64 p1,.int .u64 p2]) (.int .i64 2)).run prog w=.ok (.int .u64 p2) w:=fun _=>by kernel_rfl
 go_enter func224,ntmps224
 go_wp2_with fail
 go_loop [8] (fun i=>(i=.int .i64 0)∨(i=.int .i64 1∧Hid (p0=q0))∨(i=.int .i64 2∧Hid (p0=q0)∧Hid (p1=q1))∨(i=.int .i64 3∧Hid (p0=q0)∧Hid (p1=q1)∧Hid (p2=q2))) (fun i=>3-(intOf i).toNat)
 case atStart=>exact Or.inl rfl
 case round=>
  rcases hrel with rfl|⟨rfl,H0⟩|⟨rfl,H0,H1⟩|⟨rfl,H0,H1,H2⟩
  ·by_cases h:p0=q0
   ·have hb:(p0 != q0)=false:=by simp[h]
    have H:Hid (p0=q0):=h
    clear h F1 F2 F3
    go_wp2_with fail
    go_round
    case rel=>exact Or.inr (Or.inl ⟨rfl,H⟩)
    case measure=>simp[intOf]
   have hb:(p0 != q0)=true:=by simp[h]
   have hr:Hid (decide (q0<p0)=R):=F1.out h
   clear h F1 F2 F3
   go_wp2_with fail
   go_ret
   exact⟨congrArg (fun b=>Ending.returned (.bool b)) hr.out,by repeat(first|exact aQ _ _|apply D5|apply uq)⟩
  ·by_cases h:p1=q1
   ·have hb:(p1 != q1)=false:=by simp[h]
    have H:Hid (p1=q1):=h
    clear h F1 F2 F3
    go_wp2_with fail
    go_round
    case rel=>exact Or.inr (Or.inr (Or.inl ⟨rfl,H0,H⟩))
    case measure=>simp[intOf]
   have hb:(p1 != q1)=true:=by simp[h]
   have hr:Hid (decide (q1<p1)=R):=F2.out H0.out h
   clear h F1 F2 F3
   go_wp2_with fail
   go_ret
   exact⟨congrArg (fun b=>Ending.returned (.bool b)) hr.out,by repeat(first|exact aQ _ _|apply D5|apply uq)⟩
  ·by_cases h:p2=q2
   ·have hb:(p2 != q2)=false:=by simp[h]
    have H:Hid (p2=q2):=h
    clear h F1 F2 F3
    go_wp2_with fail
    go_round
    case rel=>exact Or.inr (Or.inr (Or.inr ⟨rfl,H0,H1,H⟩))
    case measure=>simp[intOf]
   have hb:(p2 != q2)=true:=by simp[h]
   have hr:Hid (decide (q2<p2)=R):=F3.out H0.out H1.out
   clear h F1 F2 F3
   go_wp2_with fail
   go_ret
   exact⟨congrArg (fun b=>Ending.returned (.bool b)) hr.out,by repeat(first|exact aQ _ _|apply D5|apply uq)⟩
  have hr:R=false:=by
   have:=F3.out H0.out H1.out
   rw[H2.out]at this
   simpa using this.symm
  have HR:Hid (R=false):=hr
  clear hr F1 F2 F3
  go_wp2_with fail
  go_ret
  exact⟨by rw[HR.out];rfl,by repeat(first|exact aQ _ _|apply D5|apply uq)⟩
theorem CG (c e d f:Int)(c1:c≤9223372036854775807)(e1:e≤9223372036854775807)(d1:d≤9223372036854775807)(f1:f≤9223372036854775807)(w:World) :
 Calls prog 211 #[.int .i64 c,.int .i64 e,.int .i64 d,.int .i64 f] w fun r w'=>r=.returned (.bool (yF c e d f))∧w.grownBy w' none:=by
 by_cases he:e≤0
 ·have hb:yF c e d f=false:=by unfold yF;rw[if_pos he]
  rw[hb];clear hb
  go_enter func211,ntmps211
  go_wp2_with fail
  go_ret
  exact⟨rfl,aQ _ _⟩
 by_cases hf:f≤0
 ·have hb:yF c e d f=true:=by unfold yF;rw[if_neg he,if_pos hf]
  rw[hb];clear hb
  go_enter func211,ntmps211
  go_wp2_with fail
  go_ret
  exact⟨rfl,aQ _ _⟩
 have hb:yF c e d f=decide (lQ d*lQ d*e<lQ c*lQ c*f):=by unfold yF;rw[if_neg he,if_neg hf]
 rw[hb];clear hb
 go_enter func211,ntmps211
 go_wp2_with fail
 refine(GI c f c1 gA f1 _).mono ?_
 rintro r w1 ⟨p0,p1,p2,o1,t1,⟨x1,x2,x3,x4,x5,x6⟩,E1,rfl,rfl⟩
 have G1:Hid _:=E1
 clear E1
 go_wp2_with fail
 refine(GI d e d1 gA e1 _).mono ?_
 rintro r w2 ⟨q0,q1,q2,o2,t2,⟨y1,y2,y3,y4,y5,y6⟩,E2,rfl,rfl⟩
 have G2:Hid _:=E2
 clear E2
 go_wp2_with fail
 refine(WV p0 p1 p2 q0 q1 q2 x3 x4 x5 x6 y3 y4 y5 y6 _).mono ?_
 rintro r w3 ⟨rfl,G⟩
 go_wp2_with fail
 go_ret
 refine⟨congrArg (fun b=>Ending.returned (.bool b)) ?_,aB (uq (uq (aQ _ _))) G⟩
 rw[←G1.out,←G2.out]
 rfl
def ai1 (w:World)(n:Nat)(iN:Array Value)(ok:Nat→Bool)(V:Nat→List Int)(N:Nat):Prop:=
 ∀(k:Nat) (wr:World),20≤k→k≤79→w.grownBy wr none→
  Calls prog n (#[.int .i64 (k:Int)]++iN) wr fun e w'=>∃v',e=.returned (.tuple #[v',.int .i64 (if ok k=true then 0 else 1)])∧wr.grownBy w' none∧(ok k=true→aS w' v' (V k)∧(V k).length=N∧aL (V k)=true)
def KX (ok:Nat→Bool):Bool:=(List.range 60).all fun j=>ok (20+j)
theorem adQ (ok:Nat→Bool)(m:Nat)(hm:m<60)(hb:ok (20+m)=false):KX ok=false:=by
 unfold KX
 rw[List.all_eq_false]
 exact⟨m,List.mem_range.2 hm,by rw[hb];simp⟩
theorem aaY (ok:Nat→Bool)(hg:∀j,j<60→ok (20+j)=true):KX ok=true:=by
 unfold KX
 rw[List.all_eq_true]
 exact fun j hj=>hg j (List.mem_range.1 hj)
def uZ (a b c d:Int):Value:=.tuple #[.agg (aD [a,b,c]),.int .i64 d]
def GJ (ok:Nat→Bool)(C E:Nat→Int):Value:=
 if KX ok=true then uZ ((jy C E 60).1:Int) (jy C E 60).2.1 (jy C E 60).2.2 0 else uZ 0 0 0 1
def aaZ (w wr:World)(p:Nat×Int×Int):Prop:=bO wr w.heap.size 179 [0,0,0]∧bO wr (w.heap.size+1) 179 [(p.1:Int),p.2.1,p.2.2]∧w.grownBy wr none
theorem aaZ.aH {w wr wr':World}{p:Nat×Int×Int}(x:aaZ w wr p)(g:wr.grownBy wr' none):aaZ w wr' p:=⟨x.1.aH g,x.2.1.aH g,aB x.2.2 g⟩
theorem agZ:(prog.info? 179).map (·.size)=some 3:=by kernel_rfl
theorem Li {w:World}{b:Nat}{T:TypeId}{x y z:Int}(h:bO w b T [x,y,z])(x' y' z':Int) :
 bO (((w.setCell ⟨b,0,none⟩ (.int .i64 x')).setCell ⟨b,1,none⟩ (.int .i64 y')).setCell ⟨b,2,none⟩ (.int .i64 z')) b T [x',y',z']∧w.grownBy (((w.setCell ⟨b,0,none⟩ (.int .i64 x')).setCell ⟨b,1,none⟩ (.int .i64 y')).setCell ⟨b,2,none⟩ (.int .i64 z')) (some b):=
 ⟨((h.set 0 x').set 1 y').set 2 z',dB (dB (aF w ⟨b,0,none⟩ _) (aF _ ⟨b,1,none⟩ _) (some b) (fun i e hi=>e) (fun i e hi=>e)) (aF _ ⟨b,2,none⟩ _) (some b) (fun i e hi=>e) (fun i e hi=>e)⟩
theorem Ry (t:List Int)(N:Nat)(hN:t.length=N)(hN2:N≤100)(rt:aL t=true)(n:Nat)(iN:Array Value)(ok:Nat→Bool)(V:Nat→List Int)(C E:Nat→Int)
 (hC:∀k,ok k=true→C k=fE t (V k) N) (hE:∀k,ok k=true→E k=fE (V k) (V k) N) (bC:∀k,C k≤107374182400) (bE:∀k,E k≤107374182400)
 (vt:Value) (w:World) (hen:∀args u,(callFunc n args).run prog u=.ok (.enter n args) u) (HV:ai1 w n iN ok V N) (ht:aS w vt t) :
 Calls prog 175 #[vt,.func (.func n) #[] iN] w fun e w'=>e=.returned (GJ ok C E)∧w.grownBy w' none:=by
 generalize hRV:GJ ok C E=RV
 have HRV:=Zd hRV
 clear hRV
 have M0:=Zs (aaZ w ((w.alloc (.cells (aD [0,0,0]) 179)).alloc (.cells (aD [20,0,0]) 179)) (20,0,0)) (nI w 179 179 [0,0,0] [20,0,0])
 have HT:=Zd ht
 have HVV:=Zd HV
 have BD:=Zd (UR C E 107374182400 gA bC bE)
 have HC:=Zd hC
 have HE:=Zd hE
 have RT:=Zd rt
 have TN:=Zd hN
 have N2:=Zd hN2
 clear hC hE bC bE ht HV rt hN hN2
 rw[show aD [0,0,0]=#[.int .i64 0,.int .i64 0,.int .i64 0]from rfl,show aD [20,0,0]=#[.int .i64 20,.int .i64 0,.int .i64 0]from rfl]at M0
 go_enter func175,ntmps175
 go_wp2_with fail
 generalize (w.alloc (.cells #[.int .i64 0,.int .i64 0,.int .i64 0] 179)).alloc _=W0 at *
 go_loopw [7] (fun i wr=>∃k m:Nat,i=.int .i64 k∧Hid (k=20+m)∧20≤k∧k≤80∧Hid (∀j,j<m→ok (20+j)=true)∧Hid (aaZ w wr (jy C E m))) (fun i _=>80-(intOf i).toNat)
 case atStart=>exact⟨20,0,rfl,rfl,gA,gA,fun j hj=>gA,M0.out⟩
 case round=>
  obtain⟨k,m,rfl,hkm,hk1,hk2,hGd,hM⟩:=hrel
  clear M0
  by_cases hk:k<80
  ·have ahY:m<60:=by have:=hkm.out;omega
   have V1:=Zd (HVV.out k wr hk1 gA hM.out.2.2)
   have i1:(k:Int)≤79:=gA
   obtain⟨q1,q2,q3,q4⟩:=BD.out m
   have BAD:=Zd (fun(hb:ok k=false)=>adQ ok m ahY (by rw[←hkm.out];exact hb))
   have GOOD:=Zd (fun(hb:ok k=true)=>(show ∀j,j<m+1→ok (20+j)=true from fun j hj=>by
    by_cases hj':j=m
    ·subst hj';rw[←hkm.out];exact hb
    exact hGd.out j gA))
   have NY:=Zd (fun h1=>Dv C E m h1)
   have NN:=Zd (fun h1=>Lu C E m h1)
   rw[←hkm.out]at NY NN
   have EC:=Zd (HC.out k)
   have EE:=Zd (HE.out k)
   clear hGd
   rcases hok:ok k with _|_
   ·rw[hok]at V1
    have AG:=Zd (BAD.out hok)
    clear hok
    go_wp2_with fail
    refine V1.out.mono ?_
    rintro e w2 ⟨v2,rfl,g2,_⟩
    rw[if_neg (by simp)]
    have M2:=Zd (hM.out.aH g2)
    clear g2 hM V1 hen
    have x0:=M2.out.1.cell 0 (by simp)
    have x1:=M2.out.1.cell 1 (by simp)
    have x2:=M2.out.1.cell 2 (by simp)
    rw[show aC [(0:Int),0,0] 0=0 from rfl]at x0
    rw[show aC [(0:Int),0,0] 1=0 from rfl]at x1
    rw[show aC [(0:Int),0,0] 2=0 from rfl]at x2
    have y0:=M2.out.1.free 0
    have y1:=M2.out.1.free 1
    have y2:=M2.out.1.free 2
    have S3:=Zd (Li M2.out.1 0 0 0)
    have GM:=Zd M2.out.2.2
    go_wp2_with fail
    (try simp only[Exit.inBlock,Exit.then])
    have eO:=lS S3.out.1 agZ
    refine bodyPost_ret (v:=uZ 0 0 0 1) ?_ rfl ?_
    ·simp[results,results175,asAddr,Act.put,eO,uZ]
    exact⟨by rw[←HRV.out];unfold GJ;rw[AG.out];rfl,aG GM.out S3.out.2 (Nat.le_refl _)⟩
   rw[hok]at V1
   have GD:=Zd (GOOD.out hok)
   have EC':=Zd (EC.out hok)
   have EE':=Zd (EE.out hok)
   clear hok
   generalize C k=c at *
   generalize E k=ee at *
   go_wp2_with fail
   refine V1.out.mono ?_
   rintro e w2 ⟨v2,rfl,g2,hv⟩
   rw[if_pos trivial]
   obtain⟨iv,lv,rv⟩:=hv trivial
   have M2:=Zd (hM.out.aH g2)
   have D1:=Zd (wo vt v2 t (V k) w2 (aP HT.out M2.out.2.2) iv (by rw[lv,TN.out];exact Nat.le_refl _) (by rw[TN.out];exact N2.out) RT.out rv)
   have D2:=Zd (wo v2 v2 (V k) (V k) w2 iv iv (Nat.le_refl _) (by rw[lv];exact N2.out) rv rv)
   rw[TN.out,←EC'.out]at D1
   rw[lv,←EE'.out]at D2
   have cB:c≤107374182400:=by rw[EC'.out];have:=mq t (V k) RT.out rv N;have:=N2.out;omega
   have cA:-107374182400≤c:=by rw[EC'.out];have:=mq t (V k) RT.out rv N;have:=N2.out;omega
   have eB:ee≤107374182400:=by rw[EE'.out];have:=mq (V k) (V k) rv rv N;have:=N2.out;omega
   have eA:0≤ee:=by rw[EE'.out];exact AX (V k) N
   clear g2 hM V1 hen iv lv rv hv
   go_wp2_with fail
   refine D1.out.mono ?_
   rintro e w3 ⟨rfl,rfl⟩
   clear D1
   go_wp2_with fail
   refine D2.out.mono ?_
   rintro e w4 ⟨rfl,rfl⟩
   clear D2
   generalize jy C E m=p3 at *
   obtain⟨bl,bc,be⟩:=p3
   dsimp only at q1 q2 q3 q4 NY NN
   have c1:=M2.out.2.1.cell 1 (by simp)
   have c2:=M2.out.2.1.cell 2 (by simp)
   rw[show aC [((bl,bc,be):Nat×Int×Int).1,bc,be] 1=bc from rfl]at c1
   rw[show aC [((bl,bc,be):Nat×Int×Int).1,bc,be] 2=be from rfl]at c2
   have WW:=Zd (CG c ee bc be gA gA gA gA w4)
   by_cases hC:0<c
   ·rcases hb:yF c ee bc be with _|_
    ·rw[hb]at WW
     have EN:=Zd (NN.out (fun hx=>by rw[hb]at hx;cases hx.2))
     clear hb
     go_wp2_with fail
     refine WW.out.mono ?_
     rintro e w7 ⟨rfl,g7⟩
     have M7:=Zd (M2.out.aH g7)
     clear g7 WW c1 c2
     go_wp2_with fail
     go_roundw
     case rel=>exact⟨k+1,m+1,by go_num,by have:=hkm.out;show k+1=20+(m+1);omega,gA,gA,GD.out,by rw[EN.out];exact M7.out⟩
     case measure=>simp[intOf];omega
    rw[hb]at WW
    have EN:=Zd (NY.out ⟨hC,hb⟩)
    clear hb
    go_wp2_with fail
    refine WW.out.mono ?_
    rintro e w7 ⟨rfl,g7⟩
    have M7:=Zd (M2.out.aH g7)
    clear g7 WW c1 c2
    have x0:=M7.out.2.1.cell 0 (by simp)
    have x1:=M7.out.2.1.cell 1 (by simp)
    have x2:=M7.out.2.1.cell 2 (by simp)
    rw[show aC [(((bl,bc,be):Nat×Int×Int).1:Int),bc,be] 0=(bl:Int)from rfl]at x0
    rw[show aC [(((bl,bc,be):Nat×Int×Int).1:Int),bc,be] 1=bc from rfl]at x1
    rw[show aC [(((bl,bc,be):Nat×Int×Int).1:Int),bc,be] 2=be from rfl]at x2
    have y0:=M7.out.2.1.free 0
    have y1:=M7.out.2.1.free 1
    have y2:=M7.out.2.1.free 2
    have S3:=Li M7.out.2.1 (k:Int) c ee
    have M8:=Zs (aaZ w _ (k,c,ee)) (⟨M7.out.1.aJ S3.2 gA,S3.1,aG M7.out.2.2 S3.2 gA⟩)
    clear S3
    go_wp2_with fail
    go_roundw
    case rel=>exact⟨k+1,m+1,by go_num,by have:=hkm.out;show k+1=20+(m+1);omega,gA,gA,GD.out,by rw[EN.out];exact M8.out⟩
    case measure=>simp[intOf];omega
   have EN:=Zd (NN.out (fun hx=>absurd hx.1 hC))
   clear WW
   have hC':c≤0:=gA
   go_wp2_with fail
   go_roundw
   case rel=>exact⟨k+1,m+1,by go_num,by have:=hkm.out;show k+1=20+(m+1);omega,gA,gA,GD.out,by rw[EN.out];exact M2.out⟩
   case measure=>simp[intOf];omega
  obtain rfl:k=80:=gA
  obtain rfl:m=60:=by have:=hkm.out;omega
  have AG:=Zd (aaY ok hGd.out)
  have ER:=Zs (GJ ok C E=uZ ((jy C E 60).1:Int) (jy C E 60).2.1 (jy C E 60).2.2 0) (by unfold GJ;rw[AG.out];rfl)
  clear hGd hen
  generalize jy C E 60=p3 at *
  obtain⟨bl,bc,be⟩:=p3
  have c0:=hM.out.2.1.cell 0 (by simp)
  have c1:=hM.out.2.1.cell 1 (by simp)
  have c2:=hM.out.2.1.cell 2 (by simp)
  rw[show aC [(((bl,bc,be):Nat×Int×Int).1:Int),bc,be] 0=(bl:Int)from rfl]at c0
  rw[show aC [(((bl,bc,be):Nat×Int×Int).1:Int),bc,be] 1=bc from rfl]at c1
  rw[show aC [(((bl,bc,be):Nat×Int×Int).1:Int),bc,be] 2=be from rfl]at c2
  have x0:=hM.out.1.cell 0 (by simp)
  have x1:=hM.out.1.cell 1 (by simp)
  have x2:=hM.out.1.cell 2 (by simp)
  rw[show aC [(0:Int),0,0] 0=0 from rfl]at x0
  rw[show aC [(0:Int),0,0] 1=0 from rfl]at x1
  rw[show aC [(0:Int),0,0] 2=0 from rfl]at x2
  have y0:=hM.out.1.free 0
  have y1:=hM.out.1.free 1
  have y2:=hM.out.1.free 2
  have S3:=Zd (Li hM.out.1 (bl:Int) bc be)
  have GM:=Zd hM.out.2.2
  clear hM
  rw[show((80:Nat):Int)=80 from rfl]
  go_wp2_with fail
  (try simp only[Exit.inBlock,Exit.then])
  have eO:=lS S3.out.1 agZ
  refine bodyPost_ret (v:=uZ (bl:Int) bc be 0) ?_ rfl ?_
  ·simp[results,results175,asAddr,Act.put,eO,uZ]
  exact⟨by rw[←HRV.out,ER.out],aG GM.out S3.out.2 (Nat.le_refl _)⟩
theorem aa0 (u:World)(base:Nat)(hb:base≤u.heap.size):gP base (u.alloc (.cells #[] 3)) (.slice (some ⟨u.heap.size,0,none⟩) 0 0) []:=
 ⟨rfl,.inr ⟨u.heap.size,0,#[],rfl,hb,cK u _,Nat.le_refl _,by unfold maxLen;omega,rfl,rfl⟩⟩
theorem Ns (a:Addr)(c:Nat)(l:List Int)(w:World)(h:aS w (.slice (some a) l.length c) l)(hl:l.length≤1000) :
 Calls prog 176 #[.slice (some a) l.length c] w fun e w'=>∃v',e=.returned v'∧aS w' v' l∧w.grownBy w' none:=by
 have HI:=Zd h
 have hq:∀u,Sem.run prog (binOp BinOp.eql 32 (.slice (some a) l.length c) (.slice none 0 0)) u=.ok (.bool false) u:=fun _=>by kernel_rfl
 clear h
 go_enter func176,ntmps176
 go_wp2_with (at_builtin;refine dF (by rfl) _ _ rfl w.heap.size (.slice (some ⟨w.heap.size,0,none⟩) 0 0) (.slice (some a) l.length c) [] l rfl rfl (aa0 w _ (Nat.le_refl _)) (aP HI.out (ak _ _ none)) (.inr ⟨_,_,rfl⟩) (by simp;omega) (by simp) ?_)
 intro v2 w2 h2 g2
 have I2:=Zs (aS w2 v2 l) (h2.ints)
 have G2:=Zd (gU (ak w (.cells #[] 3) none) g2 (fun b hb=>by simp[Value.ownBlock]at hb;omega))
 clear h2 g2 hq
 go_wp2_with fail
 go_ret
 exact⟨_,rfl,I2.out,G2.out⟩
theorem sQ (p q:Addr)(w:World) :
 CallsD prog 212 #[.pointer (some p),.pointer (some q)] .returning w fun e u' w'=>e=.returned (.tuple #[])∧u'=.returning∧w'=w:=by
 refine callsD_of_wpS func212 rfl fun c₀ cs hu=>?_
 apply wpS_seq
 apply wpS_region
 simp[wpOpsS,go_sem,recoverD,hu,ntmps212,Exit.thenS]
 refine wpS_cond (t:=false) (by simp[Act.eval,Array.replicate]) ?_
 simp only[Bool.false_eq_true,if_false]
 refine wpS_of_wp (wp_skip ?_)
 cases c₀
 simp_all [bodyPostS,results,results212]
theorem GV {w:World}{v:Value}{l:List Int}{p:Addr}{x y:Value}(h:aS w v l)(hc:w.cell? p=some x)(hx:(∀z,x≠.int .i64 z)∨x=y):aS (w.setCell p y) v l:=by
 obtain⟨ad,c,rfl,h1,h2⟩:=h
 refine⟨ad,c,rfl,h1,fun h0=>?_⟩
 obtain⟨a,rfl,h3⟩:=h2 h0
 refine⟨a,rfl,fun i hi=>?_⟩
 have h4:=h3 i hi
 by_cases e:a.add i=p
 ·rw[e]at h4 ⊢
  rw[hc]at h4
  cases h4
  rcases hx with hx|hx
  ·exact absurd rfl (hx _)
  rw[←hx]
  exact World.cell?_setCell_same' w p _ (by rw[hc];rfl)
 rw[World.cell?_setCell_other (h:=fun x=>e x.symm)]
 exact h4
def GY (w:World)(f:List Int)(e:Ending)(w':World):Prop:=∃v',e=.returned (.tuple #[v',.int .i64 (if jl f=true then 0 else 1)])∧w.grownBy w' none∧(jl f=true→aS w' v' f)
theorem Jy (n:Nat)(iN:Array Value)(F:List Int→List Int)(v:Value)(l:List Int)(w:World)(hen:∀args u,(callFunc n args).run prog u=.ok (.enter n args) u)(HF:Folds w n iN F)(h:aS w v l)(hsh:rR v l)(hl:l.length=40)(hr:aL l=true) :
 Calls prog 178 #[.func (.func n) #[] iN,v] w (GY w (F l)):=by
 have hmf:∀(fn:Fn) (first cap:Array Value) (w:World),(Instr.makeFunc fn first cap).run prog w=.ok (.func fn first cap) w:=fun _ _ _ _=>rfl
 have g0:w.grownBy ((w.alloc (.cells #[.slice none 0 0] 32)).alloc (.cells #[.int .i64 0] 34)) none:=aB (ak _ _ none) (ak _ _ none)
 have b4:((w.alloc (.cells #[.slice none 0 0] 32)).alloc (.cells #[.int .i64 0] 34)).heap[w.heap.size]?=some (.cells #[.slice none 0 0] 32 (0,0)):=((ak _ _ none).block _ (by simp) (by simp)).trans (cK w _)
 have b5:((w.alloc (.cells #[.slice none 0 0] 32)).alloc (.cells #[.int .i64 0] 34)).heap[w.heap.size+1]?=some (.cells #[.int .i64 0] 34 (0,0)):=by
  have:=cK (w.alloc (.cells #[.slice none 0 0] 32)) (.cells #[.int .i64 0] 34)
  simpa using this
 have F1:=Zd (HF _ v l g0 (aP h g0) hsh hl hr)
 have G0:=Zd g0
 have B4:=Zd b4
 have B5:=Zd b5
 clear g0 b4 b5 HF h hsh hl hr
 generalize F l=f at *
 have YB:=Zd (fun(w':World) (v':Value) (g:jl f=false) (gr:w.grownBy w' none)=>(show GY w f (.returned (.tuple #[v',.int .i64 1])) w' from⟨v',by rw[g];rfl,gr,fun x=>by rw[g]at x;cases x⟩))
 have YG:=Zd (fun(w':World) (v':Value) (g:jl f=true) (gr:w.grownBy w' none) (iv:aS w' v' f)=>(show GY w f (.returned (.tuple #[v',.int .i64 0])) w' from⟨v',by rw[g];rfl,gr,fun _=>iv⟩))
 generalize GY w f=T at *
 go_enter_defers func178,ntmps178
 go_wp2_with fail
 generalize (w.alloc (.cells #[.slice none 0 0] 32)).alloc _=W0 at *
 refine F1.out.mono ?_
 rintro e w1 ⟨v1,rfl,i1,l1,g1⟩
 have b4:=(g1.block _ (aN B4.out) (by simp)).trans B4.out
 have b5:=(g1.block _ (aN B5.out) (by simp)).trans B5.out
 have c4:w1.cell? ⟨w.heap.size,0,none⟩=some (.slice none 0 0):=(aI b4 0).trans rfl
 have z4:=aT b4 0
 have c5:w1.cell? ⟨w.heap.size+1,0,none⟩=some (.int .i64 0):=(aI b5 0).trans rfl
 have z5:=aT b5 0
 have G1:=Zd (aB G0.out g1)
 have I2:=Zd (GV (y:=v1) i1 c4 (.inl (fun z=>by simp)))
 have G2:=Zd (aG G1.out (aF w1 ⟨w.heap.size,0,none⟩ v1) (Nat.le_refl _))
 have d4:(w1.setCell ⟨w.heap.size,0,none⟩ v1).cell? ⟨w.heap.size,0,none⟩=some v1:=World.cell?_setCell_same' w1 _ _ (by rw[c4];rfl)
 have d5:(w1.setCell ⟨w.heap.size,0,none⟩ v1).cell? ⟨w.heap.size+1,0,none⟩=some (.int .i64 0):=by rw[World.cell?_setCell_other (h:=by simp)];exact c5
 have y4:(w1.setCell ⟨w.heap.size,0,none⟩ v1).frozen? ⟨w.heap.size,0,none⟩=false:=by rw[World.frozen?_setCell];exact z4
 have y5:(w1.setCell ⟨w.heap.size,0,none⟩ v1).frozen? ⟨w.heap.size+1,0,none⟩=false:=by rw[World.frozen?_setCell];exact z5
 obtain⟨ad,c,rfl,hc,_⟩:=i1
 have SA:=Zd (kY _ f _ I2.out l1)
 clear F1 g1 b4 b5 hen c5 z5
 go_upto_region 3 with fail
 generalize hw2:w1.setCell ⟨w.heap.size,0,none⟩ (.slice ad f.length c)=w2 at *
 clear hw2 c4 z4
 by_cases vI:f.length=40
 ·rw[vI]at SA I2 d4 ⊢
  rcases hr:aL f with _|_
  ·rw[hr]at SA
   have YY:=Zd (fun w' v' gr=>YB.out w' v' (by unfold jl;rw[hr];simp) gr)
   clear hr vI hmf
   have GF:=Zd (aG (aG G2.out (aF w2 ⟨w.heap.size,0,none⟩ (.slice none 0 0)) (Nat.le_refl _)) (aF _ ⟨w.heap.size+1,0,none⟩ (.int .i64 1)) (by simp))
   go_wp2_with fail
   refine SA.out.mono ?_
   rintro e w3 ⟨rfl,rfl⟩
   clear SA
   go_wp2_with fail
   refine leaves_cons (f:=212) (args:=#[.pointer (some ⟨w.heap.size,0,none⟩),.pointer (some ⟨w.heap.size+1,0,none⟩)]) (by simp) (by simp[go_sem]) ?_
   refine(sQ _ _ _).mono ?_
   rintro e u' w'' ⟨rfl,rfl,rfl⟩
   simp[Leaves,settle,results,results178,go_sem,d4,d5,y4,y5]
   exact YY.out _ _ GF.out
  rw[hr]at SA
  have GA:=aG G2.out (aF w2 ⟨w.heap.size,0,none⟩ (.slice ad 40 c)) (Nat.le_refl _)
  have IA:=GV (y:=.slice ad 40 c) I2.out d4 (.inr rfl)
  have d6:(w2.setCell ⟨w.heap.size,0,none⟩ (.slice ad 40 c)).cell? ⟨w.heap.size+1,0,none⟩=some (.int .i64 0):=by rw[World.cell?_setCell_other (h:=by simp)];exact d5
  have YY:=Zd (YG.out _ _ (by unfold jl;rw[hr,vI];rfl) (aG GA (aF _ ⟨w.heap.size+1,0,none⟩ (.int .i64 0)) (by simp)) (GV (y:=.int .i64 0) IA d6 (.inr rfl)))
  clear hr vI hmf GA IA d6
  go_wp2_with fail
  refine SA.out.mono ?_
  rintro e w3 ⟨rfl,rfl⟩
  clear SA
  go_wp2_with fail
  refine leaves_cons (f:=212) (args:=#[.pointer (some ⟨w.heap.size,0,none⟩),.pointer (some ⟨w.heap.size+1,0,none⟩)]) (by simp) (by simp[go_sem]) ?_
  refine(sQ _ _ _).mono ?_
  rintro e u' w'' ⟨rfl,rfl,rfl⟩
  simp[Leaves,settle,results,results178,go_sem,d4,d5,y4,y5]
  exact YY.out
 have YY:=Zd (fun w' v' gr=>YB.out w' v' (by unfold jl;simp[vI]) gr)
 have hb:¬(f.length:Int)=40:=gA
 have GF:=Zd (aG (aG G2.out (aF w2 ⟨w.heap.size,0,none⟩ (.slice none 0 0)) (Nat.le_refl _)) (aF _ ⟨w.heap.size+1,0,none⟩ (.int .i64 1)) (by simp))
 clear vI hmf SA
 go_wp2_with fail
 refine leaves_cons (f:=212) (args:=#[.pointer (some ⟨w.heap.size,0,none⟩),.pointer (some ⟨w.heap.size+1,0,none⟩)]) (by simp) (by simp[go_sem]) ?_
 refine(sQ _ _ _).mono ?_
 rintro e u' w'' ⟨rfl,rfl,rfl⟩
 simp[Leaves,settle,results,results178,go_sem,d4,d5,y4,y5]
 exact YY.out _ _ GF.out
theorem Nt (args:Array Value)(u:World):(callFunc 177 args).run prog u=.ok (.enter 177 args) u:=by kernel_rfl
theorem Nu (bh bf:Nat)(h:List Int)(hh:h.length=80)(hr:aL h=true)(n:Nat)(iN:Array Value)(F:List Int→List Int)(k:Nat)(h1:20≤k)(h2:k≤79)(w:World)(hB:bO w bh 27 h)(hf:w.cell? ⟨bf,0,none⟩=some (.func (.func n) #[] iN))
 (hen:∀args u,(callFunc n args).run prog u=.ok (.enter n args) u) (HF:Folds w n iN F) :
 Calls prog 177 #[.int .i64 (k:Int),.pointer (some ⟨bh,0,none⟩),.pointer (some ⟨bf,0,none⟩)] w (GY w (F (jV h k))):=by
 have P1:=Zd (rX h hh (k:Int) w)
 rw[(qO h k h1 h2).1,(qO h k h1 h2).2]at P1
 have FD:=Zd (fun(v:Value) (wr:World) (g:w.grownBy wr none) (iv:aS wr v (jV h k)) (sv:rR v (jV h k))=>Jy n iN F v (jV h k) wr hen (fun wx vx lx gx=>HF wx vx lx (aB g gx)) iv sv (kW h k) (uL h k hr))
 have B0:=Zd hB
 have KF:=Zd (fun(wr:World) (g:w.grownBy wr none)=>bA g hf)
 have hpl:=kW h k
 have HPL:=Zd hpl
 clear hen HF hB hr hpl hf
 generalize F (jV h k)=f at *
 generalize jV h k=P at *
 go_enter func177,ntmps177
 go_wp2_with (first|refine lA B0.out (by rw[hh];exact afv) ?_)
 refine P1.out.mono ?_
 rintro e w1 ⟨v1,rfl,o1,g1⟩
 have F1:=Zd (FD.out v1 w1 g1 o1.ints o1.Iy)
 have G1:=Zd g1
 have kf:=KF.out w1 g1
 clear P1 g1
 obtain⟨gb,cap,rfl,_,_,_⟩:=o1.form (by rw[HPL.out];omega)
 clear o1
 go_wp2_with fail
 refine F1.out.mono ?_
 rintro e w2 ⟨v2,rfl,g2,i2⟩
 have YY:=Zs (GY w f (.returned (.tuple #[v2,.int .i64 (if jl f=true then 0 else 1)])) w2) (⟨v2,rfl,aB G1.out g2,i2⟩)
 clear F1 g2 i2 kf
 generalize (if jl f=true then(0:Int)else 1)=en at *
 generalize GY w f=T at *
 go_wp2_with fail
 exact YY.out
def KY (w wr:World)(h:List Int)(vf:Value):Prop:=bO wr w.heap.size 27 h∧wr.heap[w.heap.size+1]?=some (.cells #[vf] 37 (0,0))∧w.grownBy wr none
theorem BG (w:World)(h:List Int)(vf:Value):KY w ((w.alloc (.cells (aD h) 27)).alloc (.cells #[vf] 37)) h vf:=
 ⟨(bO.new w 27 h).aH (ak _ _ none),by
  have:=cK (w.alloc (.cells (aD h) 27)) (.cells #[vf] 37)
  simpa using this,aB (ak _ _ none) (ak _ _ none)⟩
theorem KY.aH {w wr wr':World}{h:List Int}{vf:Value}(x:KY w wr h vf)(g:wr.grownBy wr' none):KY w wr' h vf:=⟨x.1.aH g,(g.block _ (aN x.2.1) (by simp)).trans x.2.1,aB x.2.2 g⟩
theorem KY.kM {w wr:World}{h:List Int}{vf:Value}(x:KY w wr h vf)(hh:h.length=80):aS wr (.slice (some ⟨w.heap.size,0,none⟩) 80 80) h:=by
 refine⟨some ⟨w.heap.size,0,none⟩,80,by rw[hh],gA,fun _=>⟨_,rfl,fun i hi=>?_⟩⟩
 rw[Addr.add_mid,Nat.zero_add]
 exact x.1.cell i hi
theorem Nv (h t:List Int)(vf vt:Value)(hv:vf=.nilFunc∨∃n iN,vf=.func (.func n) #[] iN)(w:World)(ht:aS w vt t)(tb:t.length≤1000000000000000000)(vI:¬t.length=40) :
 Calls prog 112 #[.agg (aD h),vf,vt] w fun e w'=>e=.returned (.tuple #[.int .i64 0,.int .i64 0,.int .i64 0,.int .i64 1])∧w.grownBy w' none:=by
 have G0:=Zd (BG w h vf).2.2
 obtain⟨ad,c,rfl,hc,_⟩:=ht
 have hb:¬(t.length:Int)=40:=gA
 clear vI
 rcases hv with rfl|⟨n,iN,rfl⟩<;>
 ·go_enter func112,ntmps112
  go_wp2_with fail
  (try simp only[Exit.inBlock,Exit.then])
  refine bodyPost_ret (iF rfl _ _ _) rfl ?_
  exact⟨rfl,G0.out⟩
theorem Jz (h t:List Int)(hh:h.length=80)(n:Nat)(iN:Array Value)(vt:Value)(w:World)(ht:aS w vt t)(vI:t.length=40)(hr:(aL t&&aL h)=false) :
 Calls prog 112 #[.agg (aD h),.func (.func n) #[] iN,vt] w fun e w'=>e=.returned (.tuple #[.int .i64 0,.int .i64 0,.int .i64 0,.int .i64 2])∧w.grownBy w' none:=by
 have M0:=Zd (BG w h (.func (.func n) #[] iN))
 have RT:=Zd (kY vt t _ (aP ht M0.out.2.2) gA)
 have RH:=Zd (kY _ h _ (M0.out.kM hh) gA)
 have G0:=Zd M0.out.2.2
 obtain⟨ad,c,rfl,hc,_⟩:=ht
 rw[vI]at RT ⊢
 have hnf:=zL (.func n) #[] iN
 clear vI hc
 rcases r1:aL t with _|_
 ·rw[r1]at RT
  clear r1 hr
  go_enter func112,ntmps112
  go_wp2_with fail
  refine RT.out.mono ?_
  rintro e w1 ⟨rfl,rfl⟩
  go_wp2_with fail
  (try simp only[Exit.inBlock,Exit.then])
  refine bodyPost_ret (iF rfl _ _ _) rfl ?_
  exact⟨rfl,G0.out⟩
 have r2:aL h=false:=by rw[r1]at hr;simpa using hr
 rw[r1]at RT
 rw[r2]at RH
 clear r1 r2 hr
 go_enter func112,ntmps112
 go_wp2_with fail
 refine RT.out.mono ?_
 rintro e w1 ⟨rfl,rfl⟩
 go_wp2_with fail
 refine RH.out.mono ?_
 rintro e w1 ⟨rfl,rfl⟩
 go_wp2_with fail
 (try simp only[Exit.inBlock,Exit.then])
 refine bodyPost_ret (iF rfl _ _ _) rfl ?_
 exact⟨rfl,G0.out⟩
theorem Rz (h t:List Int)(hh:h.length=80)(n:Nat)(iN:Array Value)(F:List Int→List Int)(vt:Value)(w:World)(hen:∀args u,(callFunc n args).run prog u=.ok (.enter n args) u)(HF:Folds w n iN F)(ht:aS w vt t)(vI:t.length=40)(r1:aL t=true)(r2:aL h=true) :
 Calls prog 112 #[.agg (aD h),.func (.func n) #[] iN,vt] w fun e w'=>e=.returned (if jT F h=true then vX (jy (mD t F h) (mE F h) 60)else .tuple #[.int .i64 0,.int .i64 0,.int .i64 0,.int .i64 1])∧w.grownBy w' none:=by
 have hmf:∀(fn:Fn) (first cap:Array Value) (w:World),(Instr.makeFunc fn first cap).run prog w=.ok (.func fn first cap) w:=fun _ _ _ _=>rfl
 have M0:=Zd (BG w h (.func (.func n) #[] iN))
 have i0:=aP ht M0.out.2.2
 have RT:=Zd (kY vt t _ i0 gA)
 have RH:=Zd (kY _ h _ (M0.out.kM hh) gA)
 rw[r1]at RT
 rw[r2]at RH
 have hnf:=zL (.func n) #[] iN
 obtain⟨ad,c,rfl,hc,bH⟩:=ht
 obtain⟨a,rfl,_⟩:=bH gA
 have CL:=Zd (Ns a c t _ i0 gA)
 have BS:=Zd (fun(v:Value) (wr:World) (g:((w.alloc (.cells (aD h) 27)).alloc (.cells #[.func (.func n) #[] iN] 37)).grownBy wr none) (iv:aS wr v t)=>
  Ry t 40 vI gA r1 177 #[.pointer (some ⟨w.heap.size,0,none⟩),.pointer (some ⟨w.heap.size+1,0,none⟩)] (fun k=>jl (F (jV h k))) (fun k=>F (jV h k)) (mD t F h) (mE F h)
   (fun k hb=>by unfold mD;rw[r1,show jl (F (jV h k))=true from hb];rfl) (fun k hb=>by unfold mE;rw[if_pos hb]) (fun k=>by have:=Vk t F h k;omega) (fun k=>by have:=Vl F h k;omega) v wr Nt
   (fun k wx k1 k2 gx=>(Nu w.heap.size (w.heap.size+1) h hh r2 n iN F k k1 k2 wx ((M0.out.aH g).aH gx).1 ((aI ((M0.out.aH g).aH gx).2.1 0).trans rfl) hen (fun wy vy ly gy=>HF wy vy ly (aB ((M0.out.aH g).aH gx).2.2 gy))).mono
    (fun e w' ⟨v',e1,e2,e3⟩=>⟨v',e1,e2,fun hb=>⟨e3 hb,(qW hb).1,(qW hb).2⟩⟩)) iv)
 have ER:(if jT F h=true then vX (jy (mD t F h) (mE F h) 60)else .tuple #[.int .i64 0,.int .i64 0,.int .i64 0,.int .i64 1])=(if jT F h=true then .tuple #[.int .i64 ((jy (mD t F h) (mE F h) 60).1:Int),.int .i64 (jy (mD t F h) (mE F h) 60).2.1,.int .i64 (jy (mD t F h) (mE F h) 60).2.2,.int .i64 0]else .tuple #[.int .i64 0,.int .i64 0,.int .i64 0,.int .i64 1]:Value):=rfl
 rw[ER]
 obtain⟨p0,p1,p2,p3,hb,hq⟩:∃p0 p1 p2 p3:Int,GJ (fun k=>jl (F (jV h k))) (mD t F h) (mE F h)=uZ p0 p1 p2 p3∧(if jT F h=true then .tuple #[.int .i64 ((jy (mD t F h) (mE F h) 60).1:Int),.int .i64 (jy (mD t F h) (mE F h) 60).2.1,.int .i64 (jy (mD t F h) (mE F h) 60).2.2,.int .i64 0]else .tuple #[.int .i64 0,.int .i64 0,.int .i64 0,.int .i64 1]:Value)=.tuple #[.int .i64 p0,.int .i64 p1,.int .i64 p2,.int .i64 p3]:=by
  unfold GJ
  rw[show KX (fun k=>jl (F (jV h k)))=jT F h from rfl]
  by_cases hg:jT F h=true
  ·rw[if_pos hg,if_pos hg];exact⟨_,_,_,_,rfl,rfl⟩
  rw[if_neg hg,if_neg hg];exact⟨_,_,_,_,rfl,rfl⟩
 rw[hq]
 rw[hb]at BS
 unfold uZ at BS
 rw[show aD [p0,p1,p2]=#[.int .i64 p0,.int .i64 p1,.int .i64 p2]from rfl]at BS
 have G0:=Zd M0.out.2.2
 rw[vI]at RT CL ⊢
 clear ER hb hq HF hen i0 hc bH r1 r2 vI
 go_enter func112,ntmps112
 go_wp2_with fail
 refine RT.out.mono ?_
 rintro e w1 ⟨rfl,rfl⟩
 go_wp2_with fail
 refine RH.out.mono ?_
 rintro e w1 ⟨rfl,rfl⟩
 clear RT RH hnf
 go_wp2_with fail
 refine CL.out.mono ?_
 rintro e w2 ⟨v2,rfl,i2,g2⟩
 have B2:=Zd (BS.out v2 w2 g2 i2)
 have G2:=Zd (aB G0.out g2)
 clear CL g2
 obtain⟨ad2,c2,rfl,_,_⟩:=i2
 go_wp2_with fail
 refine B2.out.mono ?_
 rintro e w3 ⟨rfl,g3⟩
 have G3:=Zd (aB G2.out g3)
 clear B2 g3 hmf
 go_wp2_with fail
 go_quiet (fail)
 go_wp2_with fail
 (try simp only[Exit.inBlock,Exit.then])
 refine bodyPost_ret (iF rfl _ _ _) rfl ?_
 exact⟨rfl,aB (aB G3.out (ak _ _ none)) (dR _ _ none)⟩
theorem RQ (h t:List Int)(hh:h.length=80)(n:Nat)(iN:Array Value)(F:List Int→List Int)(vt:Value)(w:World)(hen:∀args u,(callFunc n args).run prog u=.ok (.enter n args) u)(HF:Folds w n iN F)(ht:aS w vt t)(tb:t.length≤1000000000000000000) :
 Calls prog 112 #[.agg (aD h),.func (.func n) #[] iN,vt] w fun e w'=>e=.returned (pX h t F)∧w.grownBy w' none:=by
 by_cases vI:t.length=40
 ·rcases hr:(aL t&&aL h)with _|_
  ·rw[show pX h t F=.tuple #[.int .i64 0,.int .i64 0,.int .i64 0,.int .i64 2] by unfold pX;rw[if_pos vI,hr];rfl]
   exact Jz h t hh n iN vt w ht vI hr
  rw[show pX h t F=if jT F h=true then vX (jy (mD t F h) (mE F h) 60)else .tuple #[.int .i64 0,.int .i64 0,.int .i64 0,.int .i64 1] by unfold pX;rw[if_pos vI,hr];rfl]
  simp only[Bool.and_eq_true]at hr
  exact Rz h t hh n iN F vt w hen HF ht vI hr.1 hr.2
 rw[show pX h t F=.tuple #[.int .i64 0,.int .i64 0,.int .i64 0,.int .i64 1] by unfold pX;rw[if_neg vI]]
 exact Nv h t _ vt (.inr ⟨_,_,rfl⟩) w ht tb vI
end Go.Proofs.YtbaccaipcimlhaaGreatDoor
