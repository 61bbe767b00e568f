/- Texts put together: CodK, CodI, CodJ, CodL, CodH, LConM, LEnc, LCdS, RefMemA, RefHigh, RefHighB, RefCorr, RefCorrB. -/
import Derived.Test.YtbaccaipcimlhaaGreatDoorBun6
import Derived.Test.YtbaccaipcimlhaaGreatDoorBun3
import Derived.Test.YtbaccaipcimlhaaGreatDoorBun2
import Derived.BigQuiet
import Derived.Deep.QuietTactic
import Derived.Test.YtbaccaipcimlhaaGreatDoorBun1
import Derived.Test.YtbaccaipcimlhaaGreatDoorBun4
import Derived.Deep.Cut
import Derived.OwnWalk
import Derived.Laws.OwnMore
import Derived.Laws.AppendOwnNone
namespace Go.Proofs.YtbaccaipcimlhaaGreatDoor
open Go.RowKit
open Tryz
set_option linter.unusedSimpArgs false
set_option linter.unusedVariables false
set_option maxHeartbeats 4000000
set_option maxRecDepth 100000
theorem Rx (v:Value)(x:List Int)(r:Bool)(w:World)(hx:aS w v x)(xl:x.length=80)(xr:aL x=true) :
 Calls prog 11 #[v,.bool r] w (mO w (.int .i64 (if r=true then 1 else if fE x x 80<1280 then 2 else 0))):=by
 have D:=Zd (ru v v x x w hx hx (Nat.le_refl _) gA xr xr)
 rw[xl]at D
 have F:=Zs (∀z,z=(if r=true then 1 else if fE x x 80<1280 then 2 else 0)→mO w (.int .i64 (if r=true then 1 else if fE x x 80<1280 then 2 else 0)) (.returned (.int .i64 z)) w) (fun z hz=>⟨by rw[hz],rfl⟩)
 generalize mO w (.int .i64 (if r=true then 1 else if fE x x 80<1280 then 2 else 0))=T at *
 clear hx xl xr
 cases r with
 | true=>
  have FF:=Zd (F.out 1 rfl)
  go_enter func11,ntmps11
  go_wp2_with fail
  exact FF.out
 | false=>
  by_cases h:fE x x 80<1280
  ·have FF:=Zd (F.out 2 (by rw[if_neg (by decide),if_pos h]))
   generalize fE x x 80=d at *
   go_enter func11,ntmps11
   go_wp2_with fail
   refine D.out.mono ?_
   rintro e w1 ⟨rfl,rfl⟩
   clear D
   go_wp2_with fail
   exact FF.out
  have FF:=Zd (F.out 0 (by rw[if_neg (by decide),if_neg h]))
  generalize fE x x 80=d at *
  go_enter func11,ntmps11
  go_wp2_with fail
  refine D.out.mono ?_
  rintro e w1 ⟨rfl,rfl⟩
  clear D
  go_wp2_with fail
  exact FF.out
theorem GH {y:Nat→Option Bool}{o:Oper}{a:Act}{w:World}{K:Act→World→Prop}{Q:Exit→Act→World→Prop}{E:Prop}(hg:o.guard=none)(d s:Operand)
 (hop:o.op=Op.call { callee:=Callee.builtin Builtin.copy,args:=#[d,s],argTypes:=#[32,32] }) (b off dn n dc sc:Nat) (T:TypeId) (cs:List Value) (L:List Int) (ad:Addr) (hb:dP w b T cs)
 (hd:a.eval d=.slice (some ⟨b,off,none⟩) dn dc) (hs:a.eval s=.slice (some ad) n sc) (hL:L.length=n) (hdn:n≤dn) (hsrc:∀j,j<n→w.cell? (ad.add j)=some (.int .i64 (aC L j))) (hfit:off+n≤cs.length)
 (hK:∀w',dP w' b T (mG cs off (aO L))→w.grownBy w' (some b)→K (a.put o.dst (goInt n)) w'):if Region.wanted o y=true then Oper.wp prog o a w K Q else E:=by
 have hw:Region.wanted o y=true:=by simp[Region.wanted,hg]
 rw[if_pos hw]
 have hsz:(prog.info? 3).map (·.size)=some 1:=by kernel_rfl
 have hrun:=run_copy_row (P:=prog) w 32 32 o.type 3 b off dn dc ad n sc cs.toArray T (L.map (Value.int .i64)) underlying32 hsz hb (by rw[List.length_map,hL];exact(Nat.min_eq_left hdn).symm)
  (fun j v hv=>by
   have hj:j<L.length:=by
    by_cases hj:j<L.length
    ·exact hj
    rw[List.getElem?_eq_none (by simp;omega)]at hv;cases hv
   rw[hsrc j gA]
   simpa [aC,List.getD,hj] using hv)
  (by simp[hL];omega) (fun v hv=>by
   obtain⟨x,_,rfl⟩:=List.mem_map.1 hv
   rfl)
 have e:(cs.toArray.toList.take off++L.map (Value.int .i64)++cs.toArray.toList.drop (off+(L.map (Value.int .i64)).length)).toArray=(mG cs off (aO L)).toArray:=by simp[mG,aO]
 rw[e,List.length_map,hL]at hrun
 unfold Oper.wp
 simp[execOp,hop,resolve,invoke,builtin,hd,hs,hrun,Result.andThen]
 exact hK _ (setRow_heap _ _ _ _ _ _ hb) (yc _ _ _)
theorem fU.put {w:World}{b:Nat}{e:List Int}{s:Bool}(h:fU w b e s)(o:Nat)(M:List Int)(hl:o+M.length≤e.length):fU (dQ w b o (aO M)) b (jr e o M) s∧w.grownBy (dQ w b o (aO M)) (some b):=by
 have:=tC h o (aO M) (by rw[aM];unfold bK;rw[tF];omega)
 unfold bK at this
 rw[oN _ _ _ _ hl]at this
 exact this
def xW (w:World)(e:List Int)(s:Bool)(wr:World):Prop:=fU wr w.heap.size e s∧fU wr (w.heap.size+1) (ay 225) false∧bO wr (w.heap.size+1+1) 26 (ay 8)∧bO wr (w.heap.size+1+1+1) 26 (ay 8)∧w.grownBy wr none
theorem xW.new (w:World)(e:List Int)(s:Bool):xW w e s ((((w.alloc (.cells (bK e s).toArray 31)).alloc (.cells (bK (ay 225) false).toArray 31)).alloc (.cells #[.int .i64 0,.int .i64 0,.int .i64 0,.int .i64 0,.int .i64 0,.int .i64 0,.int .i64 0,.int .i64 0] 26)).alloc (.cells #[.int .i64 0,.int .i64 0,.int .i64 0,.int .i64 0,.int .i64 0,.int .i64 0,.int .i64 0,.int .i64 0] 26)):=by
 rw[←rF]
 have g1:=ak (w.alloc (.cells (bK e s).toArray 31)) (.cells (bK (ay 225) false).toArray 31) none
 have g2:=ak ((w.alloc (.cells (bK e s).toArray 31)).alloc (.cells (bK (ay 225) false).toArray 31)) (.cells (aD (ay 8)) 26) none
 have g3:=ak (((w.alloc (.cells (bK e s).toArray 31)).alloc (.cells (bK (ay 225) false).toArray 31)).alloc (.cells (aD (ay 8)) 26)) (.cells (aD (ay 8)) 26) none
 refine⟨(((fU.new w e s).aH g1).aH g2).aH g3,?_,?_,?_,aB (aB (aB (ak _ _ none) g1) g2) g3⟩
 ·have:=((fU.new (w.alloc (.cells (bK e s).toArray 31)) (ay 225) false).aH g2).aH g3
  simpa using this
 ·have:=(bO.new ((w.alloc (.cells (bK e s).toArray 31)).alloc (.cells (bK (ay 225) false).toArray 31)) 26 (ay 8)).aH g3
  simpa using this
 have:=bO.new (((w.alloc (.cells (bK e s).toArray 31)).alloc (.cells (bK (ay 225) false).toArray 31)).alloc (.cells (aD (ay 8)) 26)) 26 (ay 8)
 simpa using this
theorem xW.aH {w:World}{e:List Int}{s:Bool}{wr wr':World}(h:xW w e s wr)(g:wr.grownBy wr' none):xW w e s wr':=⟨h.1.aH g,h.2.1.aH g,h.2.2.1.aH g,h.2.2.2.1.aH g,aB h.2.2.2.2 g⟩
theorem xW.adI {w:World}{e m:List Int}{s t:Bool}{wr wr':World}(h:xW w e s wr)(hb:fU wr' w.heap.size m t)(g:wr.grownBy wr' (some w.heap.size)):xW w m t wr':=⟨hb,h.2.1.aJ g gA,h.2.2.1.aJ g gA,h.2.2.2.1.aJ g gA,aG h.2.2.2.2 g (Nat.le_refl _)⟩
theorem xW.aiZ {w:World}{e:List Int}{s:Bool}{wr:World}(h:xW w e s wr)(o:Nat)(M:List Int)(hl:o+M.length≤e.length):xW w (jr e o M) s (dQ wr w.heap.size o (aO M))∧wr.grownBy (dQ wr w.heap.size o (aO M)) (some w.heap.size):=by
 have:=h.1.put o M hl
 exact⟨h.adI this.1 this.2,this.2⟩
def Ac (w:World)(en:Int)(x:Ending)(w':World):Prop:=∃m s,m.length=225∧x=.returned (.tuple #[eX m s,.agg (aD (ay 8)),.int .i64 en])∧w.grownBy w' none
def ahV (w:World)(e:List Int)(s:Bool)(l:List Int)(x:Ending)(w':World):Prop:=x=.returned (.tuple #[eX (vG e l++(lT e l++fF e)) s,.agg (aD (kG e l)),.int .i64 0])∧w.grownBy w' none
theorem aaV (v:Value)(l:List Int)(w:World)(h:aS w v l)(hl:l.length=120)(hr:aL l=true) :
 Calls prog 33 #[v] w fun x w'=>x=.returned (.tuple #[.agg (aD (oz l)),.int .i64 ((VP l:Int)-31),.int .i64 0])∧w.grownBy w' none:=by
 refine(aap v l w h hl hr).mono ?_
 rintro x w' ⟨n,hn,hx,hg⟩
 have hp:=xq (f:=wN l)
 have hb:=tY (Mw l hl hr) 0 gA
 have e:n=VP l:=Ck gA hn (Fx _ gA gA)
 subst e
 exact⟨by rw[hx,Kv];rfl,hg⟩
theorem Bv (w:World)(e:List Int)(s:Bool)(he:e.length=225)(v:Value)(l:List Int)(hi:aS w v l)(hsz:l.length*8≤140737488351232)(hl:l.length≠80):Calls prog 10 #[eX e s,v] w (Ac w (je e l)):=by
 have L0:=Zd (xW.new w e s)
 have HE:=Zd he
 have CE:=Zd (bY he s)
 have AE:=Zd (fU.all s he)
 have ZC:=Zd (bY (au 225) false)
 have hz:=jo
 have F:=Zs (∀m w',m.length=225→w.grownBy w' none→Ac w (je e l) (.returned (.tuple #[eX m s,.agg (aD (ay 8)),.int .i64 1])) w') (fun m w' hm q=>⟨m,s,hm,by rw[(show je e l=1 from if_neg hl)],q⟩)
 obtain⟨ad,c,rfl,hc,_⟩:=hi
 have hne:((l.length:Int)==80)=false:=beq_eq_false_iff_ne.2 gA
 clear hl
 generalize Ac w (je e l)=T at *
 unfold eX at hz ⊢
 go_enter func10,ntmps10
 go_upto_region 2 with fail
 generalize (((w.alloc (.cells (bK e s).toArray 31)).alloc (.cells (bK (ay 225) false).toArray 31)).alloc (.cells #[.int .i64 0,.int .i64 0,.int .i64 0,.int .i64 0,.int .i64 0,.int .i64 0,.int .i64 0,.int .i64 0] 26)).alloc (.cells #[.int .i64 0,.int .i64 0,.int .i64 0,.int .i64 0,.int .i64 0,.int .i64 0,.int .i64 0,.int .i64 0] 26)=W0 at *
 clear hz
 have yZ:=Zs ((e).length=225) (HE.out)
 have Ad:=Zd (bY yZ.out s)
 have AE1:=Zd (fU.all s yZ.out)
 have QL:=Zd (au 8)
 have NQ:=Zd (Nat.le_refl (w.heap.size+1+1+1))
 have LS:=L0
 replace F:=Zd (fun w' q=>F.out _ w' yZ.out q)
 unfold eX at F
 go_upto_region 3 with fail
 refine wp_region_held_drew (S:=fun u=>fU u w.heap.size (e) s∧bO u (w.heap.size+1+1+1) 26 (ay 8)) (by kernel_rfl) ⟨LS.out.1.aH (aZ _),LS.out.2.2.2.1.aH (aZ _)⟩ (fun aj=>?_)
 refine bV (hy:=by intro w' bL;exact dD rfl rfl bL.1 _ underlying31 rfl dH (by rw[Ad.out];omega) _ AE1.out) (v:=.agg (bK (e) s).toArray) 0 aj ?_
 refine bV (hy:=by intro w' bL;exact yA bL.2 (by rw[QL.out];exact dV)) (v:=.agg (aD (ay 8))) 1 aj ?_
 refine fI 2 fun K hK=>?_
 (try simp only[sZ])
 have LD:=Zd (LS.out.aH (aZ _))
 have PU:=LD.out.2.1.fu (m:=(e)) (t:=s) (au 225) yZ.out
 have R1:=Zd (LD.out.2.2.1.aJ PU.2 gA)
 have P1:=Zd PU.1
 have G1:=Zd (aG LD.out.2.2.2.2 PU.2 gA)
 have A_:=And.intro (aj.1.aJ PU.2 gA) (aj.2.aJ PU.2 (by have:=NQ.out;omega))
 clear PU
 refine dG rfl 31 _ _ rfl (w.heap.size+1) 0 31 (bK (ay 225) false) (bK (e) s) rfl rfl LD.out.2.1 (by rw[ZC.out,Ad.out];omega) (by rw[Ad.out];exact dH) (gu _ _) ?_
 refine hK.out _ _ A_ (fun aj=>?_)
 (try simp only[sZ])
 clear LD A_
 generalize dQ _ (w.heap.size+1) 0 (bK (e) s)=wa at *
 refine fI 3 fun K hK=>?_
 (try simp only[sZ])
 have PU:=bB (rs':=(ay 8)) R1.out (QL.out.trans (au 8).symm)
 have R2:=Zd PU.1
 have P2:=Zd (P1.out.aJ PU.2 gA)
 have G2:=Zd (aG G1.out PU.2 gA)
 have HS2:=And.intro (aj.1.aJ PU.2 gA) (aj.2.aJ PU.2 (by have:=NQ.out;omega))
 clear PU
 refine dW rfl 26 _ _ rfl (w.heap.size+1+1) (ay 8) (ay 8) rfl rfl R1.out (QL.out.trans (au 8).symm) (by rw[au];exact dV) ?_
 refine hK.out _ _ HS2 (fun aj=>?_)
 (try simp only[sZ])
 clear HS2 R1
 generalize bT wa (w.heap.size+1+1) (ay 8)=wb at *
 refine bV 4 aj ?_
 refine lM ?_
 clear aj
 have FF:=Zd (F.out _ G2.out)
 clear F
 have eO:=wV P2.out (by rw[Ad.out];exact dH)
 have hlw:=lS R2.out (by rw[QL.out];exact dV)
 go_wp2_with fail
 refine bodyPost_ret (v:=.tuple #[.agg (bK (e) s).toArray,.agg (aD (ay 8)),.int .i64 1]) ?_ rfl FF.out
 simp[results,results10,asAddr,Act.put,eO,hlw]
theorem Db (w:World)(e:List Int)(s:Bool)(he:e.length=225)(v:Value)(l:List Int)(hi:aS w v l)(hsz:l.length*8≤140737488351232)(hl:l.length=80)(hg:cO (fF e)=false):Calls prog 10 #[eX e s,v] w (Ac w (je e l)):=by
 have L0:=Zd (xW.new w e s)
 have HE:=Zd he
 have CE:=Zd (bY he s)
 have AE:=Zd (fU.all s he)
 have ZC:=Zd (bY (au 225) false)
 have hz:=jo
 have hno:¬q9 e l:=fun k=>by have:=k.2.1;rw[hg]at this;cases this
 have F:=Zs (∀m w',m.length=225→w.grownBy w' none→Ac w (je e l) (.returned (.tuple #[eX m s,.agg (aD (ay 8)),.int .i64 2])) w') (fun m w' hm q=>⟨m,s,hm,by rw[xM hno hl],q⟩)
 obtain⟨al,cl,rfl⟩:=nY hi gA
 have HI:=Zd (fun wr (g:w.grownBy wr none)=>aP hi g)
 rw[hl]at HI ⊢
 have HL:=Zd hl
 have GD:=Zd (fun wr=>mZ (fF e) s (aR _ _ _) wr)
 rw[hg]at GD
 have PM:=Zd (lZ s he)
 rw[show bP e 124 101=fF e from rfl]at PM
 clear hno hl hg
 generalize Ac w (je e l)=T at *
 unfold dI at GD
 unfold eX at hz ⊢
 go_enter func10,ntmps10
 go_upto_region 2 with fail
 generalize (((w.alloc (.cells (bK e s).toArray 31)).alloc (.cells (bK (ay 225) false).toArray 31)).alloc (.cells #[.int .i64 0,.int .i64 0,.int .i64 0,.int .i64 0,.int .i64 0,.int .i64 0,.int .i64 0,.int .i64 0] 26)).alloc (.cells #[.int .i64 0,.int .i64 0,.int .i64 0,.int .i64 0,.int .i64 0,.int .i64 0,.int .i64 0,.int .i64 0] 26)=W0 at *
 clear hz
 go_wp2_with (first|refine lV 124 L0.out.1 aY (by rw[CE.out];omega) PM.out ?_)
 refine(GD.out W0).mono ?_
 rintro x W1 ⟨rfl,g1⟩
 have L1:=Zd (L0.out.aH g1)
 clear g1 GD
 have yZ:=Zs ((e).length=225) (HE.out)
 have Ad:=Zd (bY yZ.out s)
 have AE1:=Zd (fU.all s yZ.out)
 have QL:=Zd (au 8)
 have NQ:=Zd (Nat.le_refl (w.heap.size+1+1+1))
 have LS:=L1
 replace F:=Zd (fun w' q=>F.out _ w' yZ.out q)
 unfold eX at F
 go_upto_region 5 with fail
 refine wp_region_held_drew (S:=fun u=>fU u w.heap.size (e) s∧bO u (w.heap.size+1+1+1) 26 (ay 8)) (by kernel_rfl) ⟨LS.out.1.aH (aZ _),LS.out.2.2.2.1.aH (aZ _)⟩ (fun aj=>?_)
 refine bV (hy:=by intro w' bL;exact dD rfl rfl bL.1 _ underlying31 rfl dH (by rw[Ad.out];omega) _ AE1.out) (v:=.agg (bK (e) s).toArray) 0 aj ?_
 refine bV (hy:=by intro w' bL;exact yA bL.2 (by rw[QL.out];exact dV)) (v:=.agg (aD (ay 8))) 1 aj ?_
 refine fI 2 fun K hK=>?_
 (try simp only[sZ])
 have LD:=Zd (LS.out.aH (aZ _))
 have PU:=LD.out.2.1.fu (m:=(e)) (t:=s) (au 225) yZ.out
 have R1:=Zd (LD.out.2.2.1.aJ PU.2 gA)
 have P1:=Zd PU.1
 have G1:=Zd (aG LD.out.2.2.2.2 PU.2 gA)
 have A_:=And.intro (aj.1.aJ PU.2 gA) (aj.2.aJ PU.2 (by have:=NQ.out;omega))
 clear PU
 refine dG rfl 31 _ _ rfl (w.heap.size+1) 0 31 (bK (ay 225) false) (bK (e) s) rfl rfl LD.out.2.1 (by rw[ZC.out,Ad.out];omega) (by rw[Ad.out];exact dH) (gu _ _) ?_
 refine hK.out _ _ A_ (fun aj=>?_)
 (try simp only[sZ])
 clear LD A_
 generalize dQ _ (w.heap.size+1) 0 (bK (e) s)=wa at *
 refine fI 3 fun K hK=>?_
 (try simp only[sZ])
 have PU:=bB (rs':=(ay 8)) R1.out (QL.out.trans (au 8).symm)
 have R2:=Zd PU.1
 have P2:=Zd (P1.out.aJ PU.2 gA)
 have G2:=Zd (aG G1.out PU.2 gA)
 have HS2:=And.intro (aj.1.aJ PU.2 gA) (aj.2.aJ PU.2 (by have:=NQ.out;omega))
 clear PU
 refine dW rfl 26 _ _ rfl (w.heap.size+1+1) (ay 8) (ay 8) rfl rfl R1.out (QL.out.trans (au 8).symm) (by rw[au];exact dV) ?_
 refine hK.out _ _ HS2 (fun aj=>?_)
 (try simp only[sZ])
 clear HS2 R1
 generalize bT wa (w.heap.size+1+1) (ay 8)=wb at *
 refine bV 4 aj ?_
 refine lM ?_
 clear aj
 have FF:=Zd (F.out _ G2.out)
 clear F
 have eO:=wV P2.out (by rw[Ad.out];exact dH)
 have hlw:=lS R2.out (by rw[QL.out];exact dV)
 go_wp2_with fail
 refine bodyPost_ret (v:=.tuple #[.agg (bK (e) s).toArray,.agg (aD (ay 8)),.int .i64 2]) ?_ rfl FF.out
 simp[results,results10,asAddr,Act.put,eO,hlw]
theorem Bw (w:World)(e:List Int)(s:Bool)(he:e.length=225)(v:Value)(l:List Int)(hi:aS w v l)(hsz:l.length*8≤140737488351232)(hl:l.length=80)(hg:cO (fF e)=true)(hh:vH e l=false):Calls prog 10 #[eX e s,v] w (Ac w (je e l)):=by
 have L0:=Zd (xW.new w e s)
 have HE:=Zd he
 have CE:=Zd (bY he s)
 have AE:=Zd (fU.all s he)
 have ZC:=Zd (bY (au 225) false)
 have hz:=jo
 have hno:¬q9 e l:=fun k=>by have:=k.2.2.1;rw[hh]at this;cases this
 have F:=Zs (∀m w',m.length=225→w.grownBy w' none→Ac w (je e l) (.returned (.tuple #[eX m s,.agg (aD (ay 8)),.int .i64 2])) w') (fun m w' hm q=>⟨m,s,hm,by rw[xM hno hl],q⟩)
 obtain⟨al,cl,rfl⟩:=nY hi gA
 have HI:=Zd (fun wr (g:w.grownBy wr none)=>aP hi g)
 rw[hl]at HI ⊢
 have HL:=Zd hl
 have GD:=Zd (fun wr=>mZ (fF e) s (aR _ _ _) wr)
 rw[hg]at GD
 have PM:=Zd (lZ s he)
 rw[show bP e 124 101=fF e from rfl]at PM
 have PH:=Zd (show((bK e s).drop 0).take 4=aO [aC e 0,aC e 1,aC e 2,aC e 3]from by
  rw[m_ s 0 4 gA];rfl)
 have HG:=Zd (fun wr (h:aS wr (.slice (some al) 80 cl) l)=>Fz (aC e 0) (aC e 1) (aC e 2) (aC e 3) (.slice (some al) 80 cl) l wr h gA)
 rw[show Vx (aC e 0) (aC e 1) (aC e 2) (aC e 3) l=iG e l from rfl]at HG
 unfold hiT at HG
 generalize hh0:hiM (aC e 0) (aC e 1) (aC e 2) (aC e 3) l 0=h0 at HG
 generalize hh1:hiM (aC e 0) (aC e 1) (aC e 2) (aC e 3) l 1=h1 at HG
 generalize Zb:hiM (aC e 0) (aC e 1) (aC e 2) (aC e 3) l 2=h2 at HG
 generalize hh3:hiM (aC e 0) (aC e 1) (aC e 2) (aC e 3) l 3=h3 at HG
 have hE:Qr (aC e 0) (aC e 1) (aC e 2) (aC e 3) l=2:=by unfold Qr;unfold vH at hh;rw[if_neg (by rw[hh];decide)]
 rw[hE]at HG
 clear hno hl hg hh hE hh0 hh1 Zb hh3
 generalize Ac w (je e l)=T at *
 unfold dI at GD
 unfold eX at hz ⊢
 go_enter func10,ntmps10
 go_upto_region 2 with fail
 generalize (((w.alloc (.cells (bK e s).toArray 31)).alloc (.cells (bK (ay 225) false).toArray 31)).alloc (.cells #[.int .i64 0,.int .i64 0,.int .i64 0,.int .i64 0,.int .i64 0,.int .i64 0,.int .i64 0,.int .i64 0] 26)).alloc (.cells #[.int .i64 0,.int .i64 0,.int .i64 0,.int .i64 0,.int .i64 0,.int .i64 0,.int .i64 0,.int .i64 0] 26)=W0 at *
 clear hz
 go_wp2_with (first|refine lV 124 L0.out.1 aY (by rw[CE.out];omega) PM.out ?_)
 refine(GD.out W0).mono ?_
 rintro x W1 ⟨rfl,g1⟩
 have L1:=Zd (L0.out.aH g1)
 clear g1 GD
 go_wp2_with (first|refine lV 0 L1.out.1 pV (by rw[CE.out];omega) PH.out ?_)
 refine(HG.out W1 (HI.out W1 L1.out.2.2.2.2)).mono ?_
 rintro x W2 ⟨vc,rfl,oc,g2⟩
 have L2:=Zd ((L1.out.aH g2).aH (ak W2 (.cells #[.int .i64 h0,.int .i64 h1,.int .i64 h2,.int .i64 h3] 24) none))
 clear L1 g2 HG oc
 go_upto_region 7 with fail
 generalize W2.alloc (.cells #[.int .i64 h0,.int .i64 h1,.int .i64 h2,.int .i64 h3] 24)=W3 at *
 have yZ:=Zs ((e).length=225) (HE.out)
 have Ad:=Zd (bY yZ.out s)
 have AE1:=Zd (fU.all s yZ.out)
 have QL:=Zd (au 8)
 have NQ:=Zd (Nat.le_refl (w.heap.size+1+1+1))
 have LS:=L2
 replace F:=Zd (fun w' q=>F.out _ w' yZ.out q)
 unfold eX at F
 go_upto_region 8 with fail
 refine wp_region_held_drew (S:=fun u=>fU u w.heap.size (e) s∧bO u (w.heap.size+1+1+1) 26 (ay 8)) (by kernel_rfl) ⟨LS.out.1.aH (aZ _),LS.out.2.2.2.1.aH (aZ _)⟩ (fun aj=>?_)
 refine bV (hy:=by intro w' bL;exact dD rfl rfl bL.1 _ underlying31 rfl dH (by rw[Ad.out];omega) _ AE1.out) (v:=.agg (bK (e) s).toArray) 0 aj ?_
 refine bV (hy:=by intro w' bL;exact yA bL.2 (by rw[QL.out];exact dV)) (v:=.agg (aD (ay 8))) 1 aj ?_
 refine bV 2 aj ?_
 refine fI 3 fun K hK=>?_
 (try simp only[sZ])
 have LD:=Zd (LS.out.aH (aZ _))
 have PU:=LD.out.2.1.fu (m:=(e)) (t:=s) (au 225) yZ.out
 have R1:=Zd (LD.out.2.2.1.aJ PU.2 gA)
 have P1:=Zd PU.1
 have G1:=Zd (aG LD.out.2.2.2.2 PU.2 gA)
 have A_:=And.intro (aj.1.aJ PU.2 gA) (aj.2.aJ PU.2 (by have:=NQ.out;omega))
 clear PU
 refine dG rfl 31 _ _ rfl (w.heap.size+1) 0 31 (bK (ay 225) false) (bK (e) s) rfl rfl LD.out.2.1 (by rw[ZC.out,Ad.out];omega) (by rw[Ad.out];exact dH) (gu _ _) ?_
 refine hK.out _ _ A_ (fun aj=>?_)
 (try simp only[sZ])
 clear LD A_
 generalize dQ _ (w.heap.size+1) 0 (bK (e) s)=wa at *
 refine fI 4 fun K hK=>?_
 (try simp only[sZ])
 have PU:=bB (rs':=(ay 8)) R1.out (QL.out.trans (au 8).symm)
 have R2:=Zd PU.1
 have P2:=Zd (P1.out.aJ PU.2 gA)
 have G2:=Zd (aG G1.out PU.2 gA)
 have HS2:=And.intro (aj.1.aJ PU.2 gA) (aj.2.aJ PU.2 (by have:=NQ.out;omega))
 clear PU
 refine dW rfl 26 _ _ rfl (w.heap.size+1+1) (ay 8) (ay 8) rfl rfl R1.out (QL.out.trans (au 8).symm) (by rw[au];exact dV) ?_
 refine hK.out _ _ HS2 (fun aj=>?_)
 (try simp only[sZ])
 clear HS2 R1
 generalize bT wa (w.heap.size+1+1) (ay 8)=wb at *
 refine bV 5 aj ?_
 refine lM ?_
 clear aj
 have FF:=Zd (F.out _ G2.out)
 clear F
 have eO:=wV P2.out (by rw[Ad.out];exact dH)
 have hlw:=lS R2.out (by rw[QL.out];exact dV)
 go_wp2_with fail
 refine bodyPost_ret (v:=.tuple #[.agg (bK (e) s).toArray,.agg (aD (ay 8)),.int .i64 2]) ?_ rfl FF.out
 simp[results,results10,asAddr,Act.put,eO,hlw]
theorem Bz (w:World)(e:List Int)(s:Bool)(he:e.length=225)(v:Value)(l:List Int)(hi:aS w v l)(hsz:l.length*8≤140737488351232)(hl:l.length=80)(hg:cO (fF e)=true)(hh:vH e l=true)(hc:aL (lT e l)=false):Calls prog 10 #[eX e s,v] w (Ac w (je e l)):=by
 have L0:=Zd (xW.new w e s)
 have HE:=Zd he
 have CE:=Zd (bY he s)
 have AE:=Zd (fU.all s he)
 have ZC:=Zd (bY (au 225) false)
 have hz:=jo
 have hno:¬q9 e l:=fun k=>by have:=k.2.2.2;rw[hc]at this;cases this
 have F:=Zs (∀m w',m.length=225→w.grownBy w' none→Ac w (je e l) (.returned (.tuple #[eX m s,.agg (aD (ay 8)),.int .i64 2])) w') (fun m w' hm q=>⟨m,s,hm,by rw[xM hno hl],q⟩)
 have yP:=Zs ((iG e l).length=80) ((xH hh).trans hl)
 have IW:=Zd (xJ hl hh)
 obtain⟨al,cl,rfl⟩:=nY hi gA
 have HI:=Zd (fun wr (g:w.grownBy wr none)=>aP hi g)
 rw[hl]at HI ⊢
 have HL:=Zd hl
 have GD:=Zd (fun wr=>mZ (fF e) s (aR _ _ _) wr)
 rw[hg]at GD
 have PM:=Zd (lZ s he)
 rw[show bP e 124 101=fF e from rfl]at PM
 have PH:=Zd (show((bK e s).drop 0).take 4=aO [aC e 0,aC e 1,aC e 2,aC e 3]from by
  rw[m_ s 0 4 gA];rfl)
 have HG:=Zd (fun wr (h:aS wr (.slice (some al) 80 cl) l)=>Fz (aC e 0) (aC e 1) (aC e 2) (aC e 3) (.slice (some al) 80 cl) l wr h gA)
 rw[show Vx (aC e 0) (aC e 1) (aC e 2) (aC e 3) l=iG e l from rfl]at HG
 unfold hiT at HG
 generalize hh0:hiM (aC e 0) (aC e 1) (aC e 2) (aC e 3) l 0=h0 at HG
 generalize hh1:hiM (aC e 0) (aC e 1) (aC e 2) (aC e 3) l 1=h1 at HG
 generalize Zb:hiM (aC e 0) (aC e 1) (aC e 2) (aC e 3) l 2=h2 at HG
 generalize hh3:hiM (aC e 0) (aC e 1) (aC e 2) (aC e 3) l 3=h3 at HG
 have hE:Qr (aC e 0) (aC e 1) (aC e 2) (aC e 3) l=0:=by unfold Qr;unfold vH at hh;rw[if_pos hh]
 rw[hE]at HG
 have CO:=Zd (fun v wr (h:aS wr v (lT e l))=>Qo v (lT e l) wr h IW.out hc)
 obtain⟨e1,he1⟩:∃e1,jr e 0 [h0,h1,h2,h3]=e1:=⟨_,rfl⟩
 have le1:e1.length=225:=by rw[←he1,eG];exact he
 obtain⟨e2,he2⟩:∃e2,jr e1 4 (bP e 84 40)=e2:=⟨_,rfl⟩
 have le2:e2.length=225:=by rw[←he2,eG];exact le1
 obtain⟨e3,he3⟩:∃e3,jr e2 44 (iG e l)=e3:=⟨_,rfl⟩
 have le3:e3.length=225:=by rw[←he3,eG];exact le2
 have EE1:=Zd he1
 have ahW:=Zd (bY le1 s)
 have S84:=Zd (show ∀j,j<40→(bK e1 s)[84+j]?=some (.int .i64 (aC (bP e 84 40) j))from fun j hj=>by
  unfold bK
  rw[jU _ _ _ gA,fV _ _ _ _ hj,←he1,gD _ _ _ _ gA,if_neg (fun k=>by have:=k.2;simp at this;omega)])
 have E2:=Zs (mG (bK e1 s) 4 (aO (bP e 84 40))=bK e2 s) (by unfold bK;rw[oN _ _ _ _ (by rw[aR];omega),he2])
 have CE2:=Zd (bY le2 s)
 have E3:=Zs (mG (bK e2 s) 44 (aO (iG e l))=bK e3 s) (by unfold bK;rw[oN _ _ _ _ (by rw[yP.out];omega),he3])
 have LE3:=Zd le3
 have EI:=Zd (show bP e3 4 120=lT e l from by
  refine(dJ IW.out (fun i hi=>?_)).symm
  rw[←he3,gD _ _ _ _ gA,yP.out,←he2]
  unfold lT
  by_cases h:i<40
  ·rw[if_neg gA,gD _ _ _ _ gA,aR,if_pos gA,jf _ _ _ (by rw[aR];exact h),Nat.add_sub_cancel_left]
  rw[if_pos gA,iw _ _ _ (by rw[aR];omega),aR,show 4+i-44=i-40 by omega])
 clear hno hl hg hh hE hc hh0 hh1 Zb hh3 he1 he2 he3 le1 le2 le3 he
 generalize Ac w (je e l)=T at *
 unfold dI at GD
 unfold eX at hz ⊢
 go_enter func10,ntmps10
 go_upto_region 2 with fail
 generalize (((w.alloc (.cells (bK e s).toArray 31)).alloc (.cells (bK (ay 225) false).toArray 31)).alloc (.cells #[.int .i64 0,.int .i64 0,.int .i64 0,.int .i64 0,.int .i64 0,.int .i64 0,.int .i64 0,.int .i64 0] 26)).alloc (.cells #[.int .i64 0,.int .i64 0,.int .i64 0,.int .i64 0,.int .i64 0,.int .i64 0,.int .i64 0,.int .i64 0] 26)=W0 at *
 clear hz
 go_wp2_with (first|refine lV 124 L0.out.1 aY (by rw[CE.out];omega) PM.out ?_)
 refine(GD.out W0).mono ?_
 rintro x W1 ⟨rfl,g1⟩
 have L1:=Zd (L0.out.aH g1)
 clear g1 GD
 go_wp2_with (first|refine lV 0 L1.out.1 pV (by rw[CE.out];omega) PH.out ?_)
 refine(HG.out W1 (HI.out W1 L1.out.2.2.2.2)).mono ?_
 rintro x W2 ⟨vc,rfl,oc,g2⟩
 have L3:=Zd ((L1.out.aH g2).aH (ak W2 (.cells #[.int .i64 h0,.int .i64 h1,.int .i64 h2,.int .i64 h3] 24) none))
 have BH:=Zs (dP (W2.alloc (.cells #[.int .i64 h0,.int .i64 h1,.int .i64 h2,.int .i64 h3] 24)) W2.heap.size 24 (aO [h0,h1,h2,h3])) (dP.new W2 24 (aO [h0,h1,h2,h3]))
 have N2:=Zs (w.heap.size+1+1+1+1≤W2.heap.size) ((L1.out.aH g2).2.2.2.1.lt)
 have OC3:=Zd ((oc.base (b':=w.heap.size+1+1+1+1) (show w.heap.size+1+1+1+1≤W1.heap.size from L1.out.2.2.2.1.lt)).aH (ak W2 (.cells #[.int .i64 h0,.int .i64 h1,.int .i64 h2,.int .i64 h3] 24) none))
 obtain⟨ac,cc,rfl,_,_,_⟩:=oc.form (by rw[yP.out];omega)
 rw[yP.out]at OC3 ⊢
 clear L1 g2 HG oc
 go_upto_region 7 with fail
 generalize W2.alloc (.cells #[.int .i64 h0,.int .i64 h1,.int .i64 h2,.int .i64 h3] 24)=W3 at *
 generalize W2.heap.size=bh at *
 go_upto_region 9 with fail
 have ID:=Zd (d9 [h0,h1,h2,h3])
 have PU:=L3.out.aiZ 0 [h0,h1,h2,h3] (by rw[HE.out];show 0+4≤225;omega)
 have L4:=Zd PU.1
 have OC:=Zd (OC3.out.dK PU.2 gA)
 rw[EE1.out]at L4
 clear PU
 go_upto_region 10 with(first|refine lV 0 BH.out pV (by rw[aM];exact Nat.le_refl _) rfl ?_|refine sV 0 (aO [h0,h1,h2,h3]) L3.out.1 (by rw[CE.out,aM];show 0+4≤226;omega) (by rw[aM];exact pV) ID.out ?_)
 (try simp only[Act.put])
 generalize dQ W3 w.heap.size 0 (aO [h0,h1,h2,h3])=W4 at *
 refine wp_region_held_drew (S:=fun u=>True) (by kernel_rfl) trivial (fun aj=>?_)
 refine bV 0 aj ?_
 refine bV 1 aj ?_
 refine bV 2 aj ?_
 refine bV 3 aj ?_
 refine fI 4 fun K hK=>?_
 (try simp only[sZ])
 have LD:=Zd (L4.out.aH (aZ W4))
 refine GH rfl _ _ rfl w.heap.size 4 120 40 120 40 31 (bK e1 s) (bP e 84 40) ⟨w.heap.size,84,none⟩ LD.out.1 rfl rfl (aR _ _ _) gA (fun j hj=>by rw[Addr.add_mid];have cc:=dP.cell LD.out.1 (84+j);rw[cc];have:=S84.out j hj;exact this) (by rw[ahW.out];omega) ?_
 intro w5 b5 g5
 rw[E2.out]at b5
 have L5:=Zd (LD.out.adI b5 g5)
 have O5:=Zd ((OC.out.aH (aZ W4)).dK g5 gA)
 clear b5 LD
 refine hK.out _ _ trivial (fun aj=>?_)
 (try simp only[sZ])
 clear g5
 refine bV 5 aj ?_
 refine lM ?_
 clear aj
 go_upto_region 11 with fail
 have IC5:=Zd O5.out.ints
 have HAC:=Zd (mY IC5.out).2.2
 go_wp2_with (refine uX rfl _ _ rfl w.heap.size 44 80 80 80 cc 31 (bK e2 s) (iG e l) ⟨ac,0,none⟩ L5.out.1 rfl rfl yP.out gA (fun j hj=>HAC.out j (by rw[yP.out];exact hj)) (by rw[CE2.out];omega) ?_)
 intro w6 b6 g6
 rw[E3.out]at b6
 have L6:=Zd (L5.out.adI b6 g6)
 clear b6 g6
 go_upto_region 12 with fail
 have IN6:=Zd (L6.out.1.input 4 120 120 (by rw[LE3.out];omega) gA)
 rw[EI.out]at IN6
 go_wp2_with fail
 refine(CO.out _ _ IN6.out).mono ?_
 rintro x W7 ⟨rfl,g7⟩
 rw[show rU=.agg (aD (ay 9))from rfl]
 obtain⟨b1,b2,b3⟩:=dL W7 58 9 (ay 9) (au 9)
 have B1:=Zd b1
 have L8:=Zd ((L6.out.aH g7).aH b3)
 rw[J7]at B1 L8
 clear g7 CO b1 b2 b3 IN6
 have SZ9:=Zs ((prog.info? 58).map (·.size)=some (ay 9).length) (by rw[au];exact dz)
 generalize ay 9=Z9 at *
 go_upto_region 13 with(first|refine sA Z9 B1.out rfl SZ9.out ?_)
 (try simp only[Act.put])
 generalize bT _ W7.heap.size Z9=W8 at *
 have yZ:=Zs ((e3).length=225) (LE3.out)
 have Ad:=Zd (bY yZ.out s)
 have AE1:=Zd (fU.all s yZ.out)
 have QL:=Zd (au 8)
 have NQ:=Zd (Nat.le_refl (w.heap.size+1+1+1))
 have LS:=L8
 replace F:=Zd (fun w' q=>F.out _ w' yZ.out q)
 unfold eX at F
 go_upto_region 14 with fail
 refine wp_region_held_drew (S:=fun u=>fU u w.heap.size (e3) s∧bO u (w.heap.size+1+1+1) 26 (ay 8)) (by kernel_rfl) ⟨LS.out.1.aH (aZ _),LS.out.2.2.2.1.aH (aZ _)⟩ (fun aj=>?_)
 refine bV (hy:=by intro w' bL;exact dD rfl rfl bL.1 _ underlying31 rfl dH (by rw[Ad.out];omega) _ AE1.out) (v:=.agg (bK (e3) s).toArray) 0 aj ?_
 refine bV (hy:=by intro w' bL;exact yA bL.2 (by rw[QL.out];exact dV)) (v:=.agg (aD (ay 8))) 1 aj ?_
 refine bV 2 aj ?_
 refine fI 3 fun K hK=>?_
 (try simp only[sZ])
 have LD:=Zd (LS.out.aH (aZ _))
 have PU:=LD.out.2.1.fu (m:=(e3)) (t:=s) (au 225) yZ.out
 have R1:=Zd (LD.out.2.2.1.aJ PU.2 gA)
 have P1:=Zd PU.1
 have G1:=Zd (aG LD.out.2.2.2.2 PU.2 gA)
 have A_:=And.intro (aj.1.aJ PU.2 gA) (aj.2.aJ PU.2 (by have:=NQ.out;omega))
 clear PU
 refine dG rfl 31 _ _ rfl (w.heap.size+1) 0 31 (bK (ay 225) false) (bK (e3) s) rfl rfl LD.out.2.1 (by rw[ZC.out,Ad.out];omega) (by rw[Ad.out];exact dH) (gu _ _) ?_
 refine hK.out _ _ A_ (fun aj=>?_)
 (try simp only[sZ])
 clear LD A_
 generalize dQ _ (w.heap.size+1) 0 (bK (e3) s)=wa at *
 refine fI 4 fun K hK=>?_
 (try simp only[sZ])
 have PU:=bB (rs':=(ay 8)) R1.out (QL.out.trans (au 8).symm)
 have R2:=Zd PU.1
 have P2:=Zd (P1.out.aJ PU.2 gA)
 have G2:=Zd (aG G1.out PU.2 gA)
 have HS2:=And.intro (aj.1.aJ PU.2 gA) (aj.2.aJ PU.2 (by have:=NQ.out;omega))
 clear PU
 refine dW rfl 26 _ _ rfl (w.heap.size+1+1) (ay 8) (ay 8) rfl rfl R1.out (QL.out.trans (au 8).symm) (by rw[au];exact dV) ?_
 refine hK.out _ _ HS2 (fun aj=>?_)
 (try simp only[sZ])
 clear HS2 R1
 generalize bT wa (w.heap.size+1+1) (ay 8)=wb at *
 refine bV 5 aj ?_
 refine lM ?_
 clear aj
 have FF:=Zd (F.out _ G2.out)
 clear F
 have eO:=wV P2.out (by rw[Ad.out];exact dH)
 have hlw:=lS R2.out (by rw[QL.out];exact dV)
 go_wp2_with fail
 refine bodyPost_ret (v:=.tuple #[.agg (bK (e3) s).toArray,.agg (aD (ay 8)),.int .i64 2]) ?_ rfl FF.out
 simp[results,results10,asAddr,Act.put,eO,hlw]
theorem Dc (w:World)(e:List Int)(s:Bool)(he:e.length=225)(v:Value)(l:List Int)(hi:aS w v l)(hsz:l.length*8≤140737488351232)(hW:uf w)(hk:q9 e l):Calls prog 10 #[eX e s,v] w fun x w'=>x=.returned (.tuple #[eX (vG e l++(lT e l++fF e)) s,.agg (aD (kG e l)),.int .i64 0])∧w.grownBy w' none:=by
 have L0:=Zd (xW.new w e s)
 have HE:=Zd he
 have CE:=Zd (bY he s)
 have AE:=Zd (fU.all s he)
 have ZC:=Zd (bY (au 225) false)
 have hz:=jo
 obtain⟨hl,hg,hh,hc⟩:=hk
 have yP:=Zs ((iG e l).length=80) ((xH hh).trans hl)
 have IW:=Zd (xJ hl hh)
 obtain⟨al,cl,rfl⟩:=nY hi gA
 have HI:=Zd (fun wr (g:w.grownBy wr none)=>aP hi g)
 rw[hl]at HI ⊢
 have HL:=Zd hl
 have GD:=Zd (fun wr=>mZ (fF e) s (aR _ _ _) wr)
 rw[hg]at GD
 have PM:=Zd (lZ s he)
 rw[show bP e 124 101=fF e from rfl]at PM
 have PH:=Zd (show((bK e s).drop 0).take 4=aO [aC e 0,aC e 1,aC e 2,aC e 3]from by
  rw[m_ s 0 4 gA];rfl)
 have HG:=Zd (fun wr (h:aS wr (.slice (some al) 80 cl) l)=>Fz (aC e 0) (aC e 1) (aC e 2) (aC e 3) (.slice (some al) 80 cl) l wr h gA)
 rw[show Vx (aC e 0) (aC e 1) (aC e 2) (aC e 3) l=iG e l from rfl]at HG
 unfold hiT at HG
 generalize hh0:hiM (aC e 0) (aC e 1) (aC e 2) (aC e 3) l 0=h0 at HG
 generalize hh1:hiM (aC e 0) (aC e 1) (aC e 2) (aC e 3) l 1=h1 at HG
 generalize Zb:hiM (aC e 0) (aC e 1) (aC e 2) (aC e 3) l 2=h2 at HG
 generalize hh3:hiM (aC e 0) (aC e 1) (aC e 2) (aC e 3) l 3=h3 at HG
 have hE:Qr (aC e 0) (aC e 1) (aC e 2) (aC e 3) l=0:=by unfold Qr;unfold vH at hh;rw[if_pos hh]
 rw[hE]at HG
 have CO:=Zd (fun v wr (h:aS wr v (lT e l))=>aaV v (lT e l) wr h IW.out hc)
 have RL:=Zd (zR (lT e l))
 have LV:=Zd (fun wr=>Nr (oz (lT e l)) (zR _) wr)
 have KL:=Zd (zk (oz (lT e l)))
 have QA:=Zd (fun wr (g:w.grownBy wr none)=>afg (lN (oz (lT e l))) (zk _) wr (kJ hW g))
 rw[(DL _ (YZ (oz (lT e l)))).1,(DL _ (YZ (oz (lT e l)))).2]at QA
 rw[show quL (lN (oz (lT e l)))=kG e l from rfl]at QA
 have QL:=Zs ((kG e l).length=8) (uS _)
 obtain⟨e1,he1⟩:∃e1,jr e 0 [h0,h1,h2,h3]=e1:=⟨_,rfl⟩
 have le1:e1.length=225:=by rw[←he1,eG];exact he
 obtain⟨e2,he2⟩:∃e2,jr e1 4 (bP e 84 40)=e2:=⟨_,rfl⟩
 have le2:e2.length=225:=by rw[←he2,eG];exact le1
 obtain⟨e3,he3⟩:∃e3,jr e2 44 (iG e l)=e3:=⟨_,rfl⟩
 have le3:e3.length=225:=by rw[←he3,eG];exact le2
 have EE1:=Zd he1
 have ahW:=Zd (bY le1 s)
 have S84:=Zd (show ∀j,j<40→(bK e1 s)[84+j]?=some (.int .i64 (aC (bP e 84 40) j))from fun j hj=>by
  unfold bK
  rw[jU _ _ _ gA,fV _ _ _ _ hj,←he1,gD _ _ _ _ gA,if_neg (fun k=>by have:=k.2;simp at this;omega)])
 have E2:=Zs (mG (bK e1 s) 4 (aO (bP e 84 40))=bK e2 s) (by unfold bK;rw[oN _ _ _ _ (by rw[aR];omega),he2])
 have CE2:=Zd (bY le2 s)
 have E3:=Zs (mG (bK e2 s) 44 (aO (iG e l))=bK e3 s) (by unfold bK;rw[oN _ _ _ _ (by rw[yP.out];omega),he3])
 have LE3:=Zd le3
 have EI:=Zd (show bP e3 4 120=lT e l from by
  refine(dJ IW.out (fun i hi=>?_)).symm
  rw[←he3,gD _ _ _ _ gA,yP.out,←he2]
  unfold lT
  by_cases h:i<40
  ·rw[if_neg gA,gD _ _ _ _ gA,aR,if_pos gA,jf _ _ _ (by rw[aR];exact h),Nat.add_sub_cancel_left]
  rw[if_pos gA,iw _ _ _ (by rw[aR];omega),aR,show 4+i-44=i-40 by omega])
 have EF:e3=vG e l++(lT e l++fF e):=by
  have mm:(fF e).length=101:=aR _ _ _
  have hp:vG e l=[h0,h1,h2,h3]:=by unfold vG;rw[hh0,hh1,Zb,hh3]
  rw[hp]
  refine FU (by rw[le3,List.length_append,List.length_append,IW.out,mm];rfl) (fun i hi=>?_)
  rw[le3]at hi
  by_cases h4:i<4
  ·rw[jf _ _ _ h4,←he3,gD _ _ _ _ gA,if_neg gA,←he2,gD _ _ _ _ gA,if_neg gA,←he1,gD _ _ _ _ gA,if_pos (by simp;omega),Nat.sub_zero]
  rw[iw _ _ _ (by simp;omega),show([h0,h1,h2,h3]:List Int).length=4 from rfl]
  by_cases h5:i<124
  ·rw[jf _ _ _ (by rw[IW.out];omega),←EI.out,fV _ _ _ _ gA,show 4+(i-4)=i by omega]
  rw[iw _ _ _ (by rw[IW.out];omega),IW.out]
  unfold fF
  rw[fV _ _ _ _ gA,show 124+(i-4-120)=i by omega,←he3,gD _ _ _ _ gA,yP.out,if_neg gA,←he2,gD _ _ _ _ gA,aR,if_neg gA,←he1,gD _ _ _ _ gA,if_neg (fun k=>by have:=k.2;simp at this;omega)]
 have F:=Zs (∀w',w.grownBy w' none→ahV w e s l (.returned (.tuple #[eX e3 s,.agg (aD (kG e l)),.int .i64 0])) w') (fun w' q=>⟨by rw[EF],q⟩)
 show Calls prog 10 _ w (ahV w e s l)
 clear hl hg hh hE hc hh0 hh1 Zb hh3 he1 he2 he3 le1 le2 le3 he EF hW
 generalize ahV w e s l=T at *
 generalize vw (oz (lT e l))=le at *
 generalize vC (oz (lT e l))=lg at *
 generalize lN (oz (lT e l))=KK at *
 generalize hcx:((VP (lT e l):Int)-31)=cx at CO
 clear hcx
 generalize oz (lT e l)=R at *
 generalize kG e l=QQ at *
 unfold dI at GD
 unfold eX at hz F ⊢
 go_enter func10,ntmps10
 go_upto_region 2 with fail
 generalize (((w.alloc (.cells (bK e s).toArray 31)).alloc (.cells (bK (ay 225) false).toArray 31)).alloc (.cells #[.int .i64 0,.int .i64 0,.int .i64 0,.int .i64 0,.int .i64 0,.int .i64 0,.int .i64 0,.int .i64 0] 26)).alloc (.cells #[.int .i64 0,.int .i64 0,.int .i64 0,.int .i64 0,.int .i64 0,.int .i64 0,.int .i64 0,.int .i64 0] 26)=W0 at *
 clear hz
 go_wp2_with (first|refine lV 124 L0.out.1 aY (by rw[CE.out];omega) PM.out ?_)
 refine(GD.out W0).mono ?_
 rintro x W1 ⟨rfl,g1⟩
 have L1:=Zd (L0.out.aH g1)
 clear g1 GD
 go_wp2_with (first|refine lV 0 L1.out.1 pV (by rw[CE.out];omega) PH.out ?_)
 refine(HG.out W1 (HI.out W1 L1.out.2.2.2.2)).mono ?_
 rintro x W2 ⟨vc,rfl,oc,g2⟩
 have L3:=Zd ((L1.out.aH g2).aH (ak W2 (.cells #[.int .i64 h0,.int .i64 h1,.int .i64 h2,.int .i64 h3] 24) none))
 have BH:=Zs (dP (W2.alloc (.cells #[.int .i64 h0,.int .i64 h1,.int .i64 h2,.int .i64 h3] 24)) W2.heap.size 24 (aO [h0,h1,h2,h3])) (dP.new W2 24 (aO [h0,h1,h2,h3]))
 have N2:=Zs (w.heap.size+1+1+1+1≤W2.heap.size) ((L1.out.aH g2).2.2.2.1.lt)
 have OC3:=Zd ((oc.base (b':=w.heap.size+1+1+1+1) (show w.heap.size+1+1+1+1≤W1.heap.size from L1.out.2.2.2.1.lt)).aH (ak W2 (.cells #[.int .i64 h0,.int .i64 h1,.int .i64 h2,.int .i64 h3] 24) none))
 obtain⟨ac,cc,rfl,_,_,_⟩:=oc.form (by rw[yP.out];omega)
 rw[yP.out]at OC3 ⊢
 clear L1 g2 HG oc
 go_upto_region 7 with fail
 generalize W2.alloc (.cells #[.int .i64 h0,.int .i64 h1,.int .i64 h2,.int .i64 h3] 24)=W3 at *
 generalize W2.heap.size=bh at *
 go_upto_region 9 with fail
 have ID:=Zd (d9 [h0,h1,h2,h3])
 have PU:=L3.out.aiZ 0 [h0,h1,h2,h3] (by rw[HE.out];show 0+4≤225;omega)
 have L4:=Zd PU.1
 have OC:=Zd (OC3.out.dK PU.2 gA)
 rw[EE1.out]at L4
 clear PU
 go_upto_region 10 with(first|refine lV 0 BH.out pV (by rw[aM];exact Nat.le_refl _) rfl ?_|refine sV 0 (aO [h0,h1,h2,h3]) L3.out.1 (by rw[CE.out,aM];show 0+4≤226;omega) (by rw[aM];exact pV) ID.out ?_)
 (try simp only[Act.put])
 generalize dQ W3 w.heap.size 0 (aO [h0,h1,h2,h3])=W4 at *
 refine wp_region_held_drew (S:=fun u=>True) (by kernel_rfl) trivial (fun aj=>?_)
 refine bV 0 aj ?_
 refine bV 1 aj ?_
 refine bV 2 aj ?_
 refine bV 3 aj ?_
 refine fI 4 fun K hK=>?_
 (try simp only[sZ])
 have LD:=Zd (L4.out.aH (aZ W4))
 refine GH rfl _ _ rfl w.heap.size 4 120 40 120 40 31 (bK e1 s) (bP e 84 40) ⟨w.heap.size,84,none⟩ LD.out.1 rfl rfl (aR _ _ _) gA (fun j hj=>by rw[Addr.add_mid];have cc:=dP.cell LD.out.1 (84+j);rw[cc];have:=S84.out j hj;exact this) (by rw[ahW.out];omega) ?_
 intro w5 b5 g5
 rw[E2.out]at b5
 have L5:=Zd (LD.out.adI b5 g5)
 have O5:=Zd ((OC.out.aH (aZ W4)).dK g5 gA)
 clear b5 LD
 refine hK.out _ _ trivial (fun aj=>?_)
 (try simp only[sZ])
 clear g5
 refine bV 5 aj ?_
 refine lM ?_
 clear aj
 go_upto_region 11 with fail
 have IC5:=Zd O5.out.ints
 have HAC:=Zd (mY IC5.out).2.2
 go_wp2_with (refine uX rfl _ _ rfl w.heap.size 44 80 80 80 cc 31 (bK e2 s) (iG e l) ⟨ac,0,none⟩ L5.out.1 rfl rfl yP.out gA (fun j hj=>HAC.out j (by rw[yP.out];exact hj)) (by rw[CE2.out];omega) ?_)
 intro w6 b6 g6
 rw[E3.out]at b6
 have L6:=Zd (L5.out.adI b6 g6)
 clear b6 g6
 go_upto_region 12 with fail
 have IN6:=Zd (L6.out.1.input 4 120 120 (by rw[LE3.out];omega) gA)
 rw[EI.out]at IN6
 go_wp2_with fail
 refine(CO.out _ _ IN6.out).mono ?_
 rintro x W7 ⟨rfl,g7⟩
 obtain⟨b1,b2,b3⟩:=dL W7 58 9 R RL.out
 have B1:=Zd b1
 have B2:=Zd b2
 have L8:=Zd ((L6.out.aH g7).aH b3)
 rw[J7]at B1 B2 L8
 clear g7 CO b1 b2 b3 IN6
 go_upto_region 13 with(first|refine sA R B1.out (by rw[RL.out,au]) (by rw[au];exact dz) ?_)
 (try simp only[Act.put])
 generalize bT _ W7.heap.size R=W8 at *
 generalize W7.heap.size=b9 at *
 go_upto_region 15 with fail
 go_wp2_with (first|refine lA B2.out (by rw[RL.out];exact dz) ?_)
 refine(LV.out _).mono ?_
 rintro x W9 ⟨rfl,g9⟩
 obtain⟨b1,b2,b3⟩:=dL W9 26 8 KK KL.out
 have B3:=Zd b1
 have B4:=Zd b2
 have L10:=Zd ((L8.out.aH g9).aH b3)
 rw[rF]at B3 B4 L10
 clear g9 LV b1 b2 b3
 go_upto_region 16 with(first|refine sA KK B3.out (by rw[KL.out,au]) (by rw[au];exact dV) ?_)
 (try simp only[Act.put])
 generalize bT _ W9.heap.size KK=W10 at *
 generalize W9.heap.size=b10 at *
 go_wp2_with (first|refine lA B4.out (by rw[KL.out];exact dV) ?_)
 refine(QA.out _ L10.out.2.2.2.2).mono ?_
 rintro x W11 ⟨rfl,g11⟩
 obtain⟨b1,b2,b3⟩:=dL W11 26 8 QQ QL.out
 have B5:=Zd b1
 have B6:=Zd b2
 have L12:=Zd ((L10.out.aH g11).aH b3)
 have NQ:=Zs (w.heap.size+1+1+1≤W11.heap.size) (Nat.le_of_lt (L10.out.aH g11).2.2.2.1.lt)
 rw[rF]at B5 B6 L12
 clear g11 QA b1 b2 b3 L10
 go_upto_region 17 with(first|refine sA QQ B5.out (by rw[QL.out,au]) (by rw[au];exact dV) ?_)
 (try simp only[Act.put])
 generalize bT _ W11.heap.size QQ=W12 at *
 generalize W11.heap.size=bq at *
 have yZ:=LE3
 have Ad:=Zd (bY yZ.out s)
 have AE1:=Zd (fU.all s yZ.out)
 have LS:=L12
 refine wp_region_held_drew (S:=fun u=>fU u w.heap.size e3 s∧bO u bq 26 QQ) (by kernel_rfl) ⟨LS.out.1.aH (aZ _),B6.out.aH (aZ _)⟩ (fun aj=>?_)
 refine bV (hy:=by intro w' bL;exact dD rfl rfl bL.1 _ underlying31 rfl dH (by rw[Ad.out];omega) _ AE1.out) (v:=.agg (bK e3 s).toArray) 0 aj ?_
 refine bV (hy:=by intro w' bL;exact yA bL.2 (by rw[QL.out];exact dV)) (v:=.agg (aD QQ)) 1 aj ?_
 refine bV 2 aj ?_
 refine fI 3 fun K hK=>?_
 (try simp only[sZ])
 have LD:=Zd (LS.out.aH (aZ _))
 have PU:=LD.out.2.1.fu (m:=e3) (t:=s) (au 225) yZ.out
 have R1:=Zd (LD.out.2.2.1.aJ PU.2 gA)
 have P1:=Zd PU.1
 have G1:=Zd (aG LD.out.2.2.2.2 PU.2 gA)
 have A_:=And.intro (aj.1.aJ PU.2 gA) (aj.2.aJ PU.2 (by have:=NQ.out;omega))
 clear PU
 refine dG rfl 31 _ _ rfl (w.heap.size+1) 0 31 (bK (ay 225) false) (bK e3 s) rfl rfl LD.out.2.1 (by rw[ZC.out,Ad.out];omega) (by rw[Ad.out];exact dH) (gu _ _) ?_
 refine hK.out _ _ A_ (fun aj=>?_)
 (try simp only[sZ])
 clear LD A_
 generalize dQ _ (w.heap.size+1) 0 (bK e3 s)=wa at *
 refine fI 4 fun K hK=>?_
 (try simp only[sZ])
 have PU:=bB (rs':=QQ) R1.out (QL.out.trans (au 8).symm)
 have R2:=Zd PU.1
 have P2:=Zd (P1.out.aJ PU.2 gA)
 have G2:=Zd (aG G1.out PU.2 gA)
 have HS2:=And.intro (aj.1.aJ PU.2 gA) (aj.2.aJ PU.2 (by have:=NQ.out;omega))
 clear PU
 refine dW rfl 26 _ _ rfl (w.heap.size+1+1) (ay 8) QQ rfl rfl R1.out (QL.out.trans (au 8).symm) (by rw[au];exact dV) ?_
 refine hK.out _ _ HS2 (fun aj=>?_)
 (try simp only[sZ])
 clear HS2 R1
 generalize bT wa (w.heap.size+1+1) QQ=wb at *
 refine bV 5 aj ?_
 refine lM ?_
 clear aj
 have FF:=Zd (F.out _ G2.out)
 have eO:=wV P2.out (by rw[Ad.out];exact dH)
 have hlw:=lS R2.out (by rw[QL.out];exact dV)
 go_wp2_with fail
 refine bodyPost_ret (v:=.tuple #[.agg (bK e3 s).toArray,.agg (aD QQ),.int .i64 0]) ?_ rfl FF.out
 simp[results,results10,asAddr,Act.put,eO,hlw]
theorem Df (w:World)(e:List Int)(s:Bool)(he:e.length=225)(v:Value)(l:List Int)(hi:aS w v l)(hsz:l.length*8≤140737488351232)(hk:¬q9 e l):Calls prog 10 #[eX e s,v] w (Ac w (je e l)):=by
 by_cases hl:l.length=80
 ·rcases hg:cO (fF e)with _|_
  ·exact Db w e s he v l hi hsz hl hg
  rcases hh:vH e l with _|_
  ·exact Bw w e s he v l hi hsz hl hg hh
  rcases hc:aL (lT e l)with _|_
  ·exact Bz w e s he v l hi hsz hl hg hh hc
  exact absurd ⟨hl,hg,hh,hc⟩ hk
 exact Bv w e s he v l hi hsz hl
theorem NI {w:World}{b:Nat}{l:List Int}(h:bO w b 3 l)(hl:l.length=40):aS w (.slice (some ⟨b,0,none⟩) 40 40) l:=by
 refine⟨some ⟨b,0,none⟩,40,by rw[hl],gA,fun _=>⟨_,rfl,fun i hi=>?_⟩⟩
 rw[Addr.add_mid,Nat.zero_add,h.cell i hi]
theorem ai3 (U X:List Int)(s:Int)(hU:U.length=8)(hX:X.length=4):bP ((jr U 2 X).set 6 s) 2 4=X:=by
 refine(dJ hX (fun i hi=>?_)).symm
 rw[qm _ _ _ (by rw[eG,hU];omega),if_neg gA,gD _ _ _ _ (by rw[hU];omega),if_pos gA,show 2+i-2=i by omega]
theorem adW (X:List Int)(hX:X.length=4)(p g s l:Int):(((jr [p,g,0,0,0,0,0,0] 2 X).set 6 s).set 7 l)=[p,g,aC X 0,aC X 1,aC X 2,aC X 3,s,l]:=by
 match X,hX with
 | [a,b,c,d],_=>rfl
theorem aa1 (b:Nat)(vr:Value)(r:List Int)(v:Value)(l:List Int)(w:World)(hc:w.cell? ⟨b,0,none⟩=some vr)(hr:aS w vr r)(hl:aS w v l)(br:r.length≤1000000000000000000)(bl:l.length≤1000000000000000000) :
 Calls prog 108 #[v,.pointer (some ⟨b,0,none⟩)] w fun e w'=>∃v',e=.returned v'∧gP w.heap.size w' v' (Es r l)∧w.grownBy w' none:=by
 have F:=Zd (adP vr v r l w hr hl br bl)
 obtain⟨ad,c,rfl,_,_⟩:=hr
 generalize Es r l=L at *
 generalize J_ r l=en at *
 clear hl
 go_enter func108,ntmps108
 go_wp2_with fail
 refine F.out.mono ?_
 rintro e w1 ⟨v1,rfl,o1,g1⟩
 have I:=Zd o1
 have G:=Zd g1
 clear o1 g1 F hc
 go_wp2_with fail
 go_ret
 exact⟨_,rfl,I.out,G.out⟩
theorem Xa (args:Array Value)(u:World):(callFunc 108 args).run prog u=.ok (.enter 108 args) u:=by kernel_rfl
structure NuB (w W:World) (m a:List Int) (s:Bool) (br:Nat) (vr:Value):Prop where
 mem:dA W w.heap.size m s
 wU:dP W (w.heap.size+1) 58 (aO a)
 res:gN W (w.heap.size+1+1) 46 (ay 8)
 rng:W.cell? ⟨br,0,none⟩=some vr
 ring:aS W vr (om a)
 Uz:w.grownBy W none
theorem NuB.aH {w W W':World}{m a:List Int}{s:Bool}{br:Nat}{vr:Value}(h:NuB w W m a s br vr)(g:W.grownBy W' none):NuB w W' m a s br vr:=⟨h.mem.aH g,h.wU.aH g,h.res.aH g,bA g h.rng,aP h.ring g,aB h.Uz g⟩
def alm (W0:World)(L:List Int)(v:Value)(wx:World):Prop:=gP W0.heap.size wx v L∧W0.grownBy wx none
def NuS (W:World)(bu:Nat)(u:List Int)(wr:World):Prop:=W.grownBy wr none∧gN wr bu 46 u
theorem NuS.aH {W:World}{bu:Nat}{u:List Int}{wr wr':World}(h:NuS W bu u wr)(g:wr.grownBy wr' none):NuS W bu u wr':=⟨aB h.1 g,h.2.aH g⟩
theorem NuS.Xb {W:World}{bu:Nat}{u:List Int}{wr:World}(h:NuS W bu u wr)(hw:W.heap.size≤bu)(k:Nat)(z:Int)(hk:k<u.length):NuS W bu (u.set k z) (wr.setCell ⟨bu,k,none⟩ (.int .i64 z)):=
 ⟨aG h.1 (aF wr ⟨bu,k,none⟩ _) hw,h.2.set k z hk⟩
theorem NuS.ah3 {W:World}{bu:Nat}{u:List Int}{wr:World}(h:NuS W bu u wr)(hw:W.heap.size≤bu)(o:Nat)(M:List Int)(hl:o+M.length≤u.length):NuS W bu (jr u o M) (dQ wr bu o (aO M)):=by
 have:=h.2.put o M hl
 exact⟨aG h.1 this.2 hw,this.1⟩
theorem Hl (w:World)(hT:TabA w 2 gains 8)(hG:r_ w)(m:List Int)(s:Bool)(hm:m.length=101)(hg:cO m=true)(a:List Int)(hA:j6 a)(vx:Value)(x:List Int)(hx:aS w vx x)(xl:x.length=40)(xr:aL x=true) :
 Calls prog 40 #[dI m s,.agg (aD a),vx] w (jk w (.agg (aD (Qh m a x)))):=by
 have F:=Zs (∀w',w.grownBy w' none→jk w (.agg (aD (Qh m a x))) (.returned (.agg (aD (Qh m a x)))) w') (fun w' q=>⟨rfl,q⟩)
 have B0:=Zd (show dA (((w.alloc (.cells (aU m s).toArray 29)).alloc (.cells (aD a) 58)).alloc (.cells #[.int .i64 0,.int .i64 0,.int .i64 0,.int .i64 0,.int .i64 0,.int .i64 0,.int .i64 0,.int .i64 0] 46)) w.heap.size m s∧dP (((w.alloc (.cells (aU m s).toArray 29)).alloc (.cells (aD a) 58)).alloc (.cells #[.int .i64 0,.int .i64 0,.int .i64 0,.int .i64 0,.int .i64 0,.int .i64 0,.int .i64 0,.int .i64 0] 46)) (w.heap.size+1) 58 (aO a)∧gN (((w.alloc (.cells (aU m s).toArray 29)).alloc (.cells (aD a) 58)).alloc (.cells #[.int .i64 0,.int .i64 0,.int .i64 0,.int .i64 0,.int .i64 0,.int .i64 0,.int .i64 0,.int .i64 0] 46)) (w.heap.size+1+1) 46 (ay 8)∧w.grownBy (((w.alloc (.cells (aU m s).toArray 29)).alloc (.cells (aD a) 58)).alloc (.cells #[.int .i64 0,.int .i64 0,.int .i64 0,.int .i64 0,.int .i64 0,.int .i64 0,.int .i64 0,.int .i64 0] 46)) none from by
  refine⟨((dA.new w m s).aH (ak _ _ none)).aH (ak _ _ none),?_,?_,aB (aB (ak _ _ none) (ak _ _ none)) (ak _ _ none)⟩
  ·have:=(dP.new (w.alloc (.cells (aU m s).toArray 29)) 58 (aO a)).aH (ak _ (.cells #[.int .i64 0,.int .i64 0,.int .i64 0,.int .i64 0,.int .i64 0,.int .i64 0,.int .i64 0,.int .i64 0] 46) none)
   rw[qy]at this
   simpa using this
  have:=gN.new ((w.alloc (.cells (aU m s).toArray 29)).alloc (.cells (aD a) 58)) 46 (ay 8)
  rw[rF]at this
  simpa using this)
 have HX:=Zd (fun wr (g:w.grownBy wr none)=>aP hx g)
 have SPK:=Zd (fun v wr (h:aS wr v (ay 40)) (sh:rR v (ay 40))=>sI a m (ay 40) s hA.len hm v wr h sh (by rw[au];omega))
 rw[show uM a m (ay 40)=Vn m a from rfl]at SPK
 have LZ:=Zs ((qo a m (ay 40)).length=101) (by rw[vU];exact hm)
 have NJ:=Zd (fun b=>show rR (.slice (some ⟨b,0,none⟩) 40 40) (ay 40)from .inr ⟨_,_,by rw[au]⟩)
 have RG:=Zd (fun wr=>adL a hA.len 40 wr)
 rw[show rgL a 40=om a from rfl]at RG
 have ZK:=Zd (Ms hg hA)
 have RK:=Zd (pQ hA)
 have TK:=Zd (sM m a x)
 have UK:=Zd (mQ m a x)
 have LT:=Zd (fun v u wr (h1:aS wr v x) (h2:aS wr u (Vn m a))=>Ct v u x (Vn m a) wr h1 h2 xl (Ms hg hA).1)
 rw[afl hg hA xl xr]at LT
 have CF:=Zd (fun W br vr (h:NuB w W m a s br vr) v (l:List Int) (hl:aS W v l) (ll:l.length=40)=>aa1 br vr (om a) v l W h.rng h.ring hl (by rw[(pQ hA).1];omega) gA)
 have PK:=Zd (fun W br vr (h:NuB w W m a s br vr) vt (it:aS W vt (Fh m a x))=>RQ (bP m 16 80) (Fh m a x) (aR _ _ _) 108 #[.pointer (some ⟨br,0,none⟩)] (chF a) vt W Xa (fun wx v l g il sl ll rl=>(CF.out wx br vr (h.aH g) v l il ll).mono (fun e w' ⟨v',e1,o,g'⟩=>⟨v',e1,o.ints,by rw[(Bh hA ll rl).1];omega,g'⟩)) it (by rw[(sM m a x).1];omega))
 rw[YF x hg hA]at PK
 have PB:=Dz m a x
 have PC:=Qj m a x
 have NE:=Zd (fun wr (g:w.grownBy wr none)=>QK (vE m a x).2.1 (vE m a x).2.2 wr (gF hT g) gA gA)
 rw[show Ym (vE m a x).2.1 (vE m a x).2.2=Fj m a x from rfl]at NE
 have PA:=Zd (fun wr=>rX (bP m 16 80) (aR _ _ _) ((vE m a x).1:Int) wr)
 have PAL:=Zs ((mJ (bP m 16 80) ((vE m a x).1:Int)).length=40) (by rw[(acy m a x).1];exact kW _ _)
 have PAV:=Zs (Es (om a) (mJ (bP m 16 80) ((vE m a x).1:Int))=OY m a x) (rfl)
 have VK:=Zd (Bn x hg hA)
 have LO:=Zd (fun v wr (h:aS wr v (OY m a x)) (g:w.grownBy wr none)=>Jk v (OY m a x) (Fj m a x) wr h (Bn x hg hA).1 (Bn x hg hA).2.1 (gF hT g))
 have LU:=Zd (fun v u wr (h1:aS wr v (Fh m a x)) (h2:aS wr u (Bp (OY m a x) (Aq (Fj m a x))))=>Ct v u (Fh m a x) (Bp (OY m a x) (Aq (Fj m a x))) wr h1 h2 (sM m a x).1 (by rw[acY];exact(Bn x hg hA).1))
 rw[afm x hg hA]at LU
 have TG:=Zd (fun vt vr wr (h1:aS wr vt (yL m a x)) (sh:rR vt (yL m a x)) (h2:aS wr vr (om a))=>Jq vt vr (yL m a x) (om a) wr h1 h2 sh (by rw[(mQ m a x).1];omega) (by rw[(pQ hA).1];omega))
 rw[show Jb (yL m a x) (om a)=Au m a x from rfl]at TG
 have DK:=Zd (Bo (m:=m) x hA)
 have FW:=Zd (fun vd vr wr (h1:aS wr vd (Au m a x)) (h2:aS wr vr (om a))=>W_ vd vr (Au m a x) (om a) wr h1 h2 (by rw[(Bo (m:=m) x hA).2.2.1];omega) (by rw[(pQ hA).1];omega))
 rw[show Fe (Au m a x) (om a) (kR (Au m a x) (om a))=oq m a x from rfl,show Jc (Au m a x) (om a) (kR (Au m a x) (om a))=vF m a x from rfl]at FW
 have XK:=Zd (yM (m:=m) x hA)
 have BU:=Zd (fun wr=>zT (oq m a x) (yM (m:=m) x hA).1 (vF m a x) 4096 wr)
 rw[show Vd (oq m a x) (vF m a x) 4096=chO m a x from rfl]at BU
 have OK:=Zd (Mt (m:=m) x hA)
 have KO:=Zs (Es (om a) (chO m a x)=tV m a x) (rfl)
 have KK:=Zd (jY (m:=m) x hA)
 have D1:=Zd (fun vt vf wr (h1:aS wr vt (yL m a x)) (h2:aS wr vf (tV m a x))=>ru vt vf (yL m a x) (tV m a x) wr h1 h2 (by rw[(mQ m a x).1,(jY (m:=m) x hA).1];omega) (by rw[(mQ m a x).1];omega) (mQ m a x).2 (jY (m:=m) x hA).2.1)
 rw[(mQ m a x).1]at D1
 have D2:=Zd (fun vf wr (h2:aS wr vf (tV m a x))=>ru vf vf (tV m a x) (tV m a x) wr h2 h2 (Nat.le_refl _) (by rw[(jY (m:=m) x hA).1];omega) (jY (m:=m) x hA).2.1 (jY (m:=m) x hA).2.1)
 rw[(jY (m:=m) x hA).1]at D2
 have DB1:=zM (yL m a x) (tV m a x) (mQ m a x).2 (jY (m:=m) x hA).2.1
 have DB2:=zM (tV m a x) (tV m a x) (jY (m:=m) x hA).2.1 (jY (m:=m) x hA).2.1
 have GO:=Zd (fun wr (g:w.grownBy wr none)=>Wp (4096*fE (yL m a x) (tV m a x) 40) (fE (tV m a x) (tV m a x) 40) wr (lq hG g) gA gA)
 rw[show Yg (4096*fE (yL m a x) (tV m a x) 40) (fE (tV m a x) (tV m a x) 40)=YE m a x from rfl]at GO
 have h_:=Zd (adW (oq m a x) XK.out.1 (((vE m a x).1:Int)-20) (Fj m a x) (vF m a x) (YE m a x))
 rw[show[((vE m a x).1:Int)-20,Fj m a x,aC (oq m a x) 0,aC (oq m a x) 1,aC (oq m a x) 2,aC (oq m a x) 3,vF m a x,YE m a x]=Qh m a x from rfl]at h_
 have GB:0≤Fj m a x∧Fj m a x≤7:=Vq _ _
 obtain⟨pn,hpn⟩:∃pn:Nat,Fj m a x=(pn:Int):=⟨(Fj m a x).toNat,gA⟩
 have LA:=Zd hA.len
 have CM:=Zd (aX hm s)
 have AM:=Zd (dA.all s hm)
 have AA:=Zd (gN.all a 9 hA.len)
 have PX:=Zd (dA.part (l:=m) s 16 80 gA)
 have ZL:=Zd (aX (au 101) false)
 have hz:=gV
 have jg:=fZ 40 gA
 rw[show((40:Nat):Int)=40 from rfl]at jg
 have hmf:∀(fn:Fn) (first cap:Array Value) (w:World),(Instr.makeFunc fn first cap).run prog w=.ok (.func fn first cap) w:=fun _ _ _ _=>rfl
 rw[hpn]at NE h_ LO LU
 clear hT hG hm hg hA xl xr hpn GB hx
 generalize jk w (.agg (aD (Qh m a x)))=T at *
 unfold vX at PK
 generalize Qh m a x=CW at *
 generalize qo a m (ay 40)=MZ at *
 have CZ:=Zd (aX LZ.out s)
 generalize rgE a 40=en2 at *
 generalize vE m a x=PP at *
 obtain⟨eH,pc,pe⟩:=PP
 simp only at PK NE PA PAL PAV PB PC h_ VK
 generalize AU (eH:Int)=en3 at *
 generalize mJ (bP m 16 80) (eH:Int)=PL at *
 generalize Vn m a=Z at *
 generalize Km (yL m a x) (om a)=en4 at *
 generalize vJ (Au m a x) (om a)=en5 at *
 generalize Ux (oq m a x) (vF m a x) 4096=en6 at *
 generalize Bp (OY m a x) (Aq (pn:Int))=LQ at *
 unfold Kg at SPK
 unfold V9 at LT LO LU
 unfold dI at *
 go_enter func40,ntmps40
 go_upto_region 1 with fail
 generalize ((w.alloc (.cells (aU m s).toArray 29)).alloc (.cells (aD a) 58)).alloc (.cells #[.int .i64 0,.int .i64 0,.int .i64 0,.int .i64 0,.int .i64 0,.int .i64 0,.int .i64 0,.int .i64 0] 46)=W0 at *
 go_wp2_with (first|refine lV 0 B0.out.2.1 dz (by rw[aM,LA.out];omega) AA.out ?_)
 refine(RG.out _).mono ?_
 rintro e W2 ⟨vr,rfl,o2,g2⟩
 have N2:=Zs (w.heap.size+1+1+1≤W2.heap.size) (by have:=(B0.out.2.2.1.aH g2).lt;omega)
 have BB:=Zd (show NuB w (W2.alloc (.cells #[vr] 32)) m a s W2.heap.size vr from by
  have g:=aB g2 (ak W2 (.cells #[vr] 32) none)
  exact⟨B0.out.1.aH g,B0.out.2.1.aH g,B0.out.2.2.1.aH g,by rw[aI (cK W2 (.cells #[vr] 32))];rfl,aP o2.ints (ak W2 _ none),aB B0.out.2.2.2 g⟩)
 obtain⟨gr,cr',hvr,_,_,_⟩:=o2.form (by rw[RK.out.1];omega)
 rw[RK.out.1]at hvr
 subst hvr
 clear o2 g2 RG
 go_upto_region 2 with fail
 generalize W2.alloc (.cells #[.slice (some ⟨gr,0,none⟩) 40 cr'] 32)=W3 at *
 generalize W2.heap.size=br at *
 go_upto_region 3 with fail
 clear hmf
 go_cut [10,11]from 26 (fun s10 s11 wx=>alm W3 Z s11 wx)
 case first=>
  refine wp_region_held_drew (S:=dM W3) (by kernel_rfl) (aZ _) (fun aj=>?_)
  refine bV (hy:=by intro w' bL;exact dD rfl rfl (BB.out.mem.aH bL) _ underlying29 rfl aY (by rw[CM.out];omega) _ AM.out) (v:=.agg (aU m s).toArray) 0 aj ?_
  refine bV (hy:=by intro w' bL;exact dD rfl rfl (BB.out.wU.aH bL) _ underlying58 rfl dz (by rw[aM,LA.out];omega) _ AA.out) (v:=.agg (aO a).toArray) 1 aj ?_
  refine oL 2 7 (fun K hK=>?aln) fun K hK=>?alo
  case aln=>
   (try simp only[sZ])
   go_simp
   go_wp2_with fail
   refine hK.out _ _ (dX aj (.cells (aD (ay 40)) 3)) (fun aj=>?_)
   have OM:=Zs (bO ((W3.alloc (.cells (aD (ay 40)) 3)).drew) W3.heap.size 3 (ay 40)) (bO.new W3.drew 3 (ay 40))
   generalize (W3.alloc (.cells (aD (ay 40)) 3)).drew=Ho at *
   (try simp only[sZ])
   refine oL 3 7 (fun K hK=>?alp) fun K hK=>?alq
   case alp=>
    (try simp only[sZ])
    go_simp
    refine(SPK.out _ _ (NI OM.out (au 40)) (NJ.out _)).mono ?_
    rintro e Sd ⟨vx',rfl,ox,ai4⟩
    have ai5:=Zd ai4
    have OX:=Zd (ox.base (b':=W3.heap.size) (World.grownBy.size aj))
    clear ai4 ox
    (try unfold dI)
    (try unfold eX)
    go_wp2_with fail
    refine hK.out _ _ (bD aj ai5.out) (fun aj=>?_)
    have OM:=Zd (OM.out.aH ai5.out)
    (try simp only[sZ])
    refine bV 4 aj ?_
    refine bV 5 aj ?_
    refine bV 6 aj ?_
    refine fI 7 fun K hK=>?_
    (try simp only[sZ])
    go_simp
    go_wp2_with fail
    have HB:=Zs (W3.heap.size≤Sd.heap.size) (by first|exact Nat.le_refl _|exact World.grownBy.size aj)
    refine hK.out _ _ (dX aj (.cells (aU (ay 101) false).toArray 29)) (fun aj=>?_)
    have HZ:=Zs (dA (Sd.alloc (.cells (aU (ay 101) false).toArray 29)) Sd.heap.size (ay 101) false) (dA.new Sd (ay 101) false)
    have OM:=Zd (OM.out.aH (ak Sd (.cells (aU (ay 101) false).toArray 29) none))
    have OX:=Zd (OX.out.aH (ak Sd (.cells (aU (ay 101) false).toArray 29) none))
    generalize Sd.alloc (.cells (aU (ay 101) false).toArray 29)=alr at *
    (try simp only[sZ])
    refine fI 8 fun K hK=>?_
    (try simp only[sZ])
    refine dG rfl 29 _ _ rfl (Sd.heap.size) 0 29 (aU (ay 101) false) (aU MZ s) rfl rfl HZ.out (by rw[ZL.out,CZ.out];omega) (by rw[CZ.out];exact aY) (dY _ _) ?_
    have PU:=HZ.out.fu (m:=MZ) (t:=s) (au 101) LZ.out
    have OX:=Zd (OX.out.aJ PU.2 HZ.out (by decide))
    refine hK.out _ _ (iV aj PU.2 HB.out) (fun aj=>?_)
    (try simp only[sZ])
    refine bV 9 aj ?_
    refine lM ?_
    go_wp2_with fail
    go_meet
    exact⟨OX.out,aj⟩
   case alq=>
    (try simp only[sZ])
    go_simp
    go_wp2_with fail
    have HB:=Zs (W3.heap.size≤Ho.heap.size) (by first|exact Nat.le_refl _|exact World.grownBy.size aj)
    refine hK.out _ _ (dX aj (.cells (aU (ay 101) false).toArray 29)) (fun aj=>?_)
    have HZ:=Zs (dA (Ho.alloc (.cells (aU (ay 101) false).toArray 29)) Ho.heap.size (ay 101) false) (dA.new Ho (ay 101) false)
    have OM:=Zd (OM.out.aH (ak Ho (.cells (aU (ay 101) false).toArray 29) none))
    generalize Ho.alloc (.cells (aU (ay 101) false).toArray 29)=als at *
    (try simp only[sZ])
    refine fI 3 fun K hK=>?_
    (try simp only[sZ])
    go_simp
    refine(SPK.out _ _ (NI OM.out (au 40)) (NJ.out _)).mono ?_
    rintro e am7 ⟨vx',rfl,ox,ag3⟩
    have adX:=Zd ag3
    have OX:=Zd (ox.base (b':=W3.heap.size) (World.grownBy.size aj))
    clear ag3 ox
    (try unfold dI)
    (try unfold eX)
    go_wp2_with fail
    refine hK.out _ _ (bD aj adX.out) (fun aj=>?_)
    have OM:=Zd (OM.out.aH adX.out)
    have HZ:=Zd (HZ.out.aH adX.out)
    (try simp only[sZ])
    refine bV 4 aj ?_
    refine bV 5 aj ?_
    refine bV 6 aj ?_
    refine fI 8 fun K hK=>?_
    (try simp only[sZ])
    refine dG rfl 29 _ _ rfl (Ho.heap.size) 0 29 (aU (ay 101) false) (aU MZ s) rfl rfl HZ.out (by rw[ZL.out,CZ.out];omega) (by rw[CZ.out];exact aY) (dY _ _) ?_
    have PU:=HZ.out.fu (m:=MZ) (t:=s) (au 101) LZ.out
    have OX:=Zd (OX.out.aJ PU.2 HZ.out (by decide))
    refine hK.out _ _ (iV aj PU.2 HB.out) (fun aj=>?_)
    (try simp only[sZ])
    refine bV 9 aj ?_
    refine lM ?_
    go_wp2_with fail
    go_meet
    exact⟨OX.out,aj⟩
  case alo=>
   (try simp only[sZ])
   go_simp
   go_wp2_with fail
   have HB:=Zs (W3.heap.size≤W3.heap.size) (by first|exact Nat.le_refl _|exact World.grownBy.size aj)
   refine hK.out _ _ (dX aj (.cells (aU (ay 101) false).toArray 29)) (fun aj=>?_)
   have HZ:=Zs (dA ((W3.alloc (.cells (aU (ay 101) false).toArray 29)).drew) W3.heap.size (ay 101) false) (dA.new W3.drew (ay 101) false)
   generalize (W3.alloc (.cells (aU (ay 101) false).toArray 29)).drew=Hq at *
   (try simp only[sZ])
   refine fI 2 fun K hK=>?_
   (try simp only[sZ])
   go_simp
   go_wp2_with fail
   refine hK.out _ _ (dX aj (.cells (aD (ay 40)) 3)) (fun aj=>?_)
   have OM:=Zs (bO (Hq.alloc (.cells (aD (ay 40)) 3)) Hq.heap.size 3 (ay 40)) (bO.new Hq 3 (ay 40))
   have HZ:=Zd (HZ.out.aH (ak Hq (.cells (aD (ay 40)) 3) none))
   generalize Hq.alloc (.cells (aD (ay 40)) 3)=alu at *
   (try simp only[sZ])
   refine fI 3 fun K hK=>?_
   (try simp only[sZ])
   go_simp
   refine(SPK.out _ _ (NI OM.out (au 40)) (NJ.out _)).mono ?_
   rintro e am8 ⟨vx',rfl,ox,ag4⟩
   have adY:=Zd ag4
   have OX:=Zd (ox.base (b':=W3.heap.size) (World.grownBy.size aj))
   clear ag4 ox
   (try unfold dI)
   (try unfold eX)
   go_wp2_with fail
   refine hK.out _ _ (bD aj adY.out) (fun aj=>?_)
   have HZ:=Zd (HZ.out.aH adY.out)
   have OM:=Zd (OM.out.aH adY.out)
   (try simp only[sZ])
   refine bV 4 aj ?_
   refine bV 5 aj ?_
   refine bV 6 aj ?_
   refine fI 8 fun K hK=>?_
   (try simp only[sZ])
   refine dG rfl 29 _ _ rfl (W3.heap.size) 0 29 (aU (ay 101) false) (aU MZ s) rfl rfl HZ.out (by rw[ZL.out,CZ.out];omega) (by rw[CZ.out];exact aY) (dY _ _) ?_
   have PU:=HZ.out.fu (m:=MZ) (t:=s) (au 101) LZ.out
   have OX:=Zd (OX.out.aJ PU.2 HZ.out (by decide))
   refine hK.out _ _ (iV aj PU.2 HB.out) (fun aj=>?_)
   (try simp only[sZ])
   refine bV 9 aj ?_
   refine lM ?_
   go_wp2_with fail
   go_meet
   exact⟨OX.out,aj⟩
 case rest=>
 obtain⟨o4,g4⟩:=hcut
 have B4:=Zd (BB.out.aH g4)
 have I4:=Zd o4.ints
 clear jg hz SPK NJ CZ o4 g4
 go_wp2_with fail
 refine(LT.out _ _ _ (HX.out _ B4.out.Uz) I4.out).mono ?_
 rintro e W5 ⟨vt,rfl,ot,g5⟩
 have B5:=Zd (B4.out.aH g5)
 have IT:=Zd ot.ints
 have PK1:=Zd (PK.out W5 br _ B5.out vt ot.ints)
 clear LT HX B4 I4 g5 ot
 go_upto_region 5 with fail
 go_wp2_with (first|refine lV 16 B5.out.mem fP (by rw[CM.out];omega) PX.out ?_)
 refine PK1.out.mono ?_
 rintro e W6 ⟨rfl,g6⟩
 have B6:=Zd (B5.out.aH g6)
 have IT6:=Zd (aP IT.out g6)
 clear PK1 g6
 have w20:(20:Int)≤eH:=gA
 go_upto_region 6 with fail
 go_wp2_with fail
 refine(NE.out _ B6.out.Uz).mono ?_
 rintro e W7 ⟨rfl,g7⟩
 have B7:=Zd (B6.out.aH g7)
 have IT7:=Zd (aP IT6.out g7)
 clear NE g7 B6
 obtain⟨U8,hU8⟩:∃U8,[(eH:Int)-20,(pn:Int),0,0,0,0,0,0]=U8:=⟨_,rfl⟩
 have UL:=Zs (U8.length=8) (by rw[←hU8];rfl)
 have UP:=Zs (aC U8 1=(pn:Int)) (by rw[←hU8];rfl)
 rw[hU8]at h_
 obtain⟨c1,c2,c3⟩:=dL W7 46 8 U8 UL.out
 have C1:=Zd c1
 have S8:=Zs (NuS W7 W7.heap.size U8 _) (⟨c3,c2⟩)
 have NW:=Zd (Nat.le_refl W7.heap.size)
 rw[rF]at C1 S8
 clear c1 c2 c3
 go_upto_region 7 with(first|refine og rfl 46 _ _ rfl _ (ay 8) U8 rfl (by rw[←hU8];rfl) C1.out (by rw[UL.out,au]) (by rw[au];exact rz) ?_)
 (try simp only[Act.put])
 clear hU8
 generalize bT _ W7.heap.size U8=W8 at *
 generalize hbu:W7.heap.size=bu at S8 NW ⊢
 have NWu:=Zs (W7.heap.size≤bu) gA
 clear NW hbu
 have B8:=Zd (B7.out.aH S8.out.1)
 go_wp2_with (first|refine lV 16 B8.out.mem fP (by rw[CM.out];omega) PX.out ?_)
 refine(PA.out _).mono ?_
 rintro e W9 ⟨vp,rfl,op,g9⟩
 have S9:=Zd (S8.out.aH g9)
 have B9:=Zd (B8.out.aH g9)
 have IP:=Zd op.ints
 have IT9:=Zd (aP IT7.out S9.out.1)
 have NB9:=Zs (bu+1≤W9.heap.size) (S9.out.2.lt)
 clear PA g9 S8 op
 go_upto_region 8 with fail
 refine wp_region_held_drew (S:=dM W9) (by kernel_rfl) (aZ _) (fun aj=>?_)
 refine bV 0 aj ?_
 refine bV 1 aj ?_
 refine bV 2 aj ?_
 refine bV 4 aj ?_
 refine bV (hy:=by intro w' bL;have cc:=(S9.out.2.aH bL).cell 1 (by rw[UL.out];omega);rw[UP.out]at cc;go_simp;(try with_reducible rfl)) (v:=.int .i64 (pn:Int)) 5 aj ?_
 refine fI 3 fun K hK=>?_
 (try simp only[sZ])
 go_simp
 refine(CF.out _ br _ (B9.out.aH aj) vp PL (aP IP.out aj) PAL.out).mono ?_
 rintro e w1 ⟨vv,rfl,ov,q1⟩
 have Q1:=Zd q1
 rw[PAV.out]at ov
 have OV:=Zd (ov.base (b':=W9.heap.size) aj.size)
 clear q1 ov
 go_wp2_with fail
 refine hK.out _ _ (bD aj Q1.out) (fun aj=>?_)
 (try simp only[sZ])
 refine fI 6 fun K hK=>?_
 (try simp only[sZ])
 go_simp
 refine(LO.out vv _ OV.out.ints (aB B9.out.Uz aj)).mono ?_
 rintro e w2 ⟨vl,rfl,ol,q2⟩
 have Q2:=Zd q2
 have OL:=Zd (ol.base (b':=W9.heap.size) aj.size)
 clear q2 ol
 go_wp2_with fail
 refine hK.out _ _ (bD aj Q2.out) (fun aj=>?_)
 (try simp only[sZ])
 refine fI 7 fun K hK=>?_
 (try simp only[sZ])
 go_simp
 refine(LU.out vt vl _ (aP IT9.out aj) OL.out.ints).mono ?_
 rintro e w3 ⟨vu,rfl,ou,q3⟩
 have Q3:=Zd q3
 have OU:=Zd (ou.base (b':=W9.heap.size) aj.size)
 clear q3 ou
 go_wp2_with fail
 refine hK.out _ _ (bD aj Q3.out) (fun aj=>?_)
 (try simp only[sZ])
 refine bV 8 aj ?_
 refine lM ?_
 have S11:=Zd (S9.out.aH aj)
 have B11:=Zd (B9.out.aH aj)
 have O11:=Zd (OU.out.base (b':=bu+1) NB9.out)
 clear OV OL Q1 Q2 Q3 aj B9 IP IT9 LO LU PAL
 go_upto_region 9 with fail
 have rc:=B11.out.rng
 have TG1:=Zd (TG.out _ _ _ O11.out.ints O11.out.Iy B11.out.ring)
 go_wp2_with fail
 refine TG1.out.mono ?_
 rintro e W12 ⟨vd,rfl,od,g12⟩
 have S12:=Zd (S11.out.aH g12)
 have B12:=Zd (B11.out.aH g12)
 have O12:=Zd (O11.out.aH g12)
 have FW1:=Zd (FW.out _ _ _ od.ints B12.out.ring)
 clear TG1 g12 rc od
 have rc:=B12.out.rng
 go_upto_region 10 with fail
 go_wp2_with fail
 refine FW1.out.mono ?_
 rintro e W13 ⟨rfl,g13⟩
 have S13:=Zd (S12.out.aH g13)
 have O13:=Zd (O12.out.aH g13)
 have X4:=Zs ((aO (oq m a x)).length=4) (by rw[aM];exact XK.out.1)
 have IX:=Zd (d9 (oq m a x))
 have U4:=Zs ((aO U8).length=8) (by rw[aM];exact UL.out)
 have S14:=Zd (S13.out.ah3 NWu.out 2 (oq m a x) (by rw[XK.out.1,UL.out];omega))
 have O14:=Zd (O13.out.dK (S13.out.2.put 2 (oq m a x) (by rw[XK.out.1,UL.out];omega)).2 gA)
 have U14:=Zs ((jr U8 2 (oq m a x)).length=8) (by rw[eG];exact UL.out)
 have S15:=Zd (S14.out.Xb NWu.out 6 (vF m a x) (by rw[U14.out];omega))
 have O15:=Zd (O14.out.dK (aF (dQ W13 bu 2 (aO (oq m a x))) ⟨bu,6,none⟩ (.int .i64 (vF m a x))) (by simp))
 have c6:=S14.out.2.cell 6 (by rw[U14.out];omega)
 have f6:=S14.out.2.free 6
 clear FW1 g13 rc
 go_upto_region 11 with(first|refine sV 2 (aO (oq m a x)) S13.out.2 (by rw[X4.out,U4.out];omega) (by rw[X4.out];exact Wq) IX.out ?_)
 (try simp only[Act.put])
 clear c6 f6
 generalize (dQ W13 bu 2 (aO (oq m a x))).setCell ⟨bu,6,none⟩ (.int .i64 (vF m a x))=W15 at *
 have P4:=Zs (bP ((jr U8 2 (oq m a x)).set 6 (vF m a x)) 2 4=oq m a x) (ai3 U8 (oq m a x) (vF m a x) UL.out XK.out.1)
 have P6:=Zs (aC ((jr U8 2 (oq m a x)).set 6 (vF m a x)) 6=vF m a x) (by rw[qm _ _ _ (by rw[U14.out];omega),if_pos rfl])
 have U15:=Zs (((jr U8 2 (oq m a x)).set 6 (vF m a x)).length=8) (by rw[List.length_set];exact U14.out)
 generalize (jr U8 2 (oq m a x)).set 6 (vF m a x)=U16 at *
 have c6:=S15.out.2.cell 6 (by rw[U15.out];omega)
 rw[P6.out]at c6
 have PT:=Zd (gN.part (l:=U16) 2 4 (by rw[U15.out];omega))
 rw[P4.out]at PT
 have UV:=Zs ((aO U16).length=8) (by rw[aM];exact U15.out)
 go_wp2_with (first|refine lV 2 S15.out.2 Wq (by rw[UV.out];omega) PT.out ?_)
 refine(BU.out _).mono ?_
 rintro e W16 ⟨vo,rfl,oo,g16⟩
 have S16:=Zd (S15.out.aH g16)
 have O16:=Zd (O15.out.aH g16)
 have B16:=Zd (B7.out.aH S16.out.1)
 have CF2:=Zd (CF.out W16 br _ B16.out vo (chO m a x) oo.ints OK.out.1)
 rw[KO.out]at CF2
 clear BU g16 oo c6 CF
 go_upto_region 12 with fail
 go_wp2_with fail
 refine CF2.out.mono ?_
 rintro e W17 ⟨vf,rfl,of,g17⟩
 have S17:=Zd (S16.out.aH g17)
 have O17:=Zd (O16.out.aH g17)
 have IF:=Zd of.ints
 have D11:=Zd (D1.out _ _ _ O17.out.ints IF.out)
 clear CF2 g17 of
 go_upto_region 13 with fail
 generalize fE (yL m a x) (tV m a x) 40=d1 at *
 generalize fE (tV m a x) (tV m a x) 40=d2 at *
 go_wp2_with fail
 refine D11.out.mono ?_
 rintro e w18 ⟨rfl,rfl⟩
 have D21:=Zd (D2.out _ _ IF.out)
 clear D11
 go_wp2_with fail
 refine D21.out.mono ?_
 rintro e w19 ⟨rfl,rfl⟩
 have GO1:=Zd (GO.out _ (aB B7.out.Uz S17.out.1))
 clear D21
 go_wp2_with fail
 refine GO1.out.mono ?_
 rintro e an8 ⟨rfl,rfl⟩
 have c7:=S17.out.2.cell 7 (by rw[U15.out];omega)
 have f7:=S17.out.2.free 7
 have S21:=Zd (S17.out.Xb NWu.out 7 (YE m a x) (by rw[U15.out];omega))
 rw[h_.out]at S21
 clear GO1
 go_upto_region 14 with fail
 clear c7 f7
 generalize World.setCell _ ⟨bu,7,none⟩ (.int .i64 (YE m a x))=W21 at *
 have B21:=Zd (B7.out.aH S21.out.1)
 have CW8:=Zs ((aO CW).length=8) (by rw[aM,←h_.out,List.length_set];exact U15.out)
 have CA:=Zd (gN.all CW 8 (by have:=CW8.out;rwa [aM]at this))
 have ZV:=Zs ((aO (ay 8)).length=8) (by rw[aM,au])
 have IC:=Zd (d9 CW)
 have PB:=Zd (B21.out.res.fu (m:=CW) (by have:=CW8.out;rw[aM]at this;rw[this,au]))
 have FF:=Zd (F.out _ (aG B21.out.Uz PB.out.2 gA))
 go_wp2_with (first|refine lV 0 S21.out.2 rz (by rw[CW8.out];omega) CA.out ?_|refine sV 0 (aO CW) B21.out.res (by rw[CW8.out,ZV.out];omega) (by rw[CW8.out];exact rz) IC.out ?_)
 have eO:=wV PB.out.1.v (by rw[CW8.out];exact rz)
 refine bodyPost_ret (v:=.agg (aD CW)) ?_ rfl FF.out
 simp[results,results40,asAddr,Act.put,eO]
 rfl
theorem D6:(prog.info? 47).map (·.size)=some 16:=by kernel_rfl
theorem ai6:(prog.info? 47).bind (·.zero)=some (.agg (aD (ay 16))):=by kernel_rfl
def Cb (w:World)(l:List Int)(s:Bool)(p:List Int)(wr:World):Prop:=dA wr w.heap.size l s∧dP wr (w.heap.size+1) 49 (aO p)∧dP wr (w.heap.size+1+1) 47 (aO (ay 16))∧w.grownBy wr none
theorem Cb.new (w:World)(l:List Int)(s:Bool)(p:List Int):Cb w l s p (((w.alloc (.cells (aU l s).toArray 29)).alloc (.cells (aD p) 49)).alloc (.cells (aD (ay 16)) 47)):=by
 refine⟨((dA.new w l s).aH (ak _ _ none)).aH (ak _ _ none),?_,?_,aB (aB (ak _ _ none) (ak _ _ none)) (ak _ _ none)⟩
 ·have:=(dP.new (w.alloc (.cells (aU l s).toArray 29)) 49 (aO p)).aH (ak _ (.cells (aD (ay 16)) 47) none)
  rw[qy]at this
  simpa using this
 have:=dP.new ((w.alloc (.cells (aU l s).toArray 29)).alloc (.cells (aD p) 49)) 47 (aO (ay 16))
 rw[qy]at this
 simpa using this
theorem Cb.aH {w:World}{l:List Int}{s:Bool}{p:List Int}{wr wr':World}(h:Cb w l s p wr)(g:wr.grownBy wr' none):Cb w l s p wr':=⟨h.1.aH g,h.2.1.aH g,h.2.2.1.aH g,aB h.2.2.2 g⟩
theorem Cb.all {w:World}{l m:List Int}{s t:Bool}{p:List Int}{wr:World}(h:Cb w l s p wr)(hl:l.length=101)(hm:m.length=101):Cb w m t p (dQ wr w.heap.size 0 (aU m t))∧wr.grownBy (dQ wr w.heap.size 0 (aU m t)) (some w.heap.size):=by
 have:=h.1.fu (m:=m) (t:=t) hl hm
 exact⟨⟨this.1,h.2.1.aJ this.2 gA,h.2.2.1.aJ this.2 gA,aG h.2.2.2 this.2 (Nat.le_refl _)⟩,this.2⟩
theorem Cb.ac_ {w:World}{l:List Int}{s:Bool}{p:List Int}{wr:World}(h:Cb w l s p wr)(o:Nat)(M:List Int)(hl:o+M.length≤p.length):Cb w l s (jr p o M) (dQ wr (w.heap.size+1) o (aO M))∧wr.grownBy (dQ wr (w.heap.size+1) o (aO M)) (some (w.heap.size+1)):=by
 have:=aht h.2.1 o M hl
 exact⟨⟨h.1.aJ this.2 gA,this.1,h.2.2.1.aJ this.2 gA,aG h.2.2.2 this.2 gA⟩,this.2⟩
theorem aa2 {P:List Int}(U:Nat→List Int)(hP:P.length=25)(u0:(U 0).length=8)(u1:(U 1).length=8):bP (nC P U 2) 9 16=U 0++U 1:=by
 have e:(U 0++U 1).length=16:=by simp[u0,u1]
 refine(dJ e (fun i hi=>?_)).symm
 rw[Ru U (aC P 0) hP rfl (aR P 1 8) (fun i hi=>by rw[fV _ _ _ _ hi]) u0 u1]
 show _=aC (aC P 0::(bP P 1 8++(U 0++U 1))) (9+i)
 rw[show 9+i=(8+i)+1 by omega]
 show _=aC (bP P 1 8++(U 0++U 1)) (8+i)
 rw[iw (bP P 1 8) _ _ (by rw[aR];omega),aR,Nat.add_sub_cancel_left]
theorem Xc {W:World}{a:Addr}{c:Nat}{l:List Int}(h:aS W (.slice (some a) l.length c) l)(i:Nat)(hi:i<l.length) :
 (∀u,Sem.run prog (Instr.slice 32 (.slice (some a) l.length c) (some (.int .i64 (i:Int))) none none) u=.ok (.slice (some (a.add i)) (l.length-i) (c-i)) u)∧aS W (.slice (some (a.add i)) (l.length-i) (c-i)) (l.drop i):=by
 obtain⟨_,hc,bH⟩:=mY h
 refine⟨fun u=>?_,⟨_,c-i,by rw[List.length_drop],by rw[List.length_drop];omega,fun hp=>⟨_,rfl,fun x hx=>?_⟩⟩⟩
 ·rw[run_slice_l (P:=prog) u 32 (some a) l.length c (by kernel_rfl) .i64 i gA gA]
  simp[go_sem,sliced]
  omega
 rw[List.length_drop]at hx
 rw[Addr.add_add,bH (i+x) gA,zm]
theorem slice_head {W:World}{a:Addr}{c:Nat}{l:List Int}(h:aS W (.slice (some a) l.length c) l)(j:Nat)(hj:j≤l.length) :
 (∀u,Sem.run prog (Instr.slice 32 (.slice (some a) l.length c) none (some (.int .i64 (j:Int))) none) u=.ok (.slice (some a) j c) u)∧aS W (.slice (some a) j c) (l.take j):=by
 obtain⟨_,hc,bH⟩:=mY h
 refine⟨fun u=>?_,⟨_,c,by rw[List.length_take];congr 1;omega,by rw[List.length_take];omega,fun hp=>⟨_,rfl,fun x hx=>?_⟩⟩⟩
 ·rw[run_slice_h (P:=prog) u 32 (some a) l.length c (by kernel_rfl) .i64 j gA gA]
  simp[go_sem,sliced]
 rw[List.length_take]at hx
 rw[bH x gA,qN _ _ _ gA]
theorem JE (w:World)(hW:uf w)(hT:TabA w 2 gains 8)(hG:r_ w)(m:List Int)(s:Bool)(hm:m.length=101)(hg:cO m=true)(p:List Int)(hp:p.length=25)(hq:VO (bP p 1 8))(hk2:¬aC p 0=2)(vx:Value)(x:List Int)(hx:aS w vx x)(xl:x.length=80)(xr:aL x=true)(m0:List Int)(hm0:(if aC p 0=1 then iL else m)=m0) :
 Calls prog 12 #[dI m s,.agg (aD p),vx] w (jk w (.agg (aD (pR (gY (bP p 1 8)) m0 x 0++pR (gY (bP p 1 8)) m0 x 1)))):=by
 have M0:=Zd (Cb.new w m s p)
 obtain⟨kd,hkd⟩:∃kd,aC p 0=kd:=⟨_,rfl⟩
 obtain⟨now,pz⟩:∃now,gY (bP p 1 8)=now:=⟨_,rfl⟩
 have nl:now.length=8:=by rw[←pz];exact kX _
 have ns:bN now=true:=by rw[←pz];exact rW _ hq
 obtain⟨f1,f2⟩:m0.length=101∧cO m0=true:=by
  rw[←hm0]
  split
  ·exact⟨jH,AZ⟩
  exact⟨hm,hg⟩
 rw[pz]
 have AH:=Zd (fun wr=>zC m s kd hm wr)
 rw[show(if kd=1 then iL else m)=m0 from by rw[←hkd];exact hm0]at AH
 obtain⟨s0,hs0⟩:∃s0:Bool,(if kd=1 then false else s)=s0:=⟨_,rfl⟩
 rw[hs0]at AH
 have VA:=Zd (fun wr (g:w.grownBy wr none)=>FH (bP p 1 8) (aR _ _ _) wr (kJ hW g))
 rw[(zQ _ hq).1,(zQ _ hq).2,pz]at VA
 have PR:=Zd (fun wr=>rY (bP m0 0 8) now (aR _ _ _) nl (jI f2) ns wr)
 have IX':=Zd (fun k (hk:k<2) u=>KR (O0 (bP m0 0 8) now 2) (DU _ _ 2) k hk u)
 have IE:=Zd (fun k (hk:k<2)=>QD (bP m0 0 8) now k hk)
 have LL:=Zd (fun k=>oJ now x f1 k)
 have AL':=Zd (fun k=>wm (bP m0 0 8) now k)
 have GU:=fun k=>uh x f1 f2 nl ns k
 have WD:=fun k=>FK x f1 f2 nl ns k
 have NU:=Zd (show ∀(k:Nat),k<2→∀wr,w.grownBy wr none→∀v,aS wr v (bP x (40*k) 40)→Calls prog 40 #[dI (sU now m0 x k) s0,.agg (aD (gK (bP m0 0 8) now k)),v] wr (jk wr (.agg (aD (pR now m0 x k))))from fun k hk wr q v hv=>by
  have c:=Hl wr (gF hT q) (lq hG q) (sU now m0 x k) s0 (LL.out k) (vZ x f1 f2 nl ns k) (enA now m0 x k) (WD k) v (bP x (40*k) 40) hv (aR _ _ _) (by
   rw[aV,aR]
   intro i hi
   rw[fV _ _ _ _ hi]
   exact qI xr _)
  rw[VT now x f1 k]at c
  unfold pR
  rw[VT now x f1 k]
  exact c)
 have SP:=Zd (show ∀(k:Nat),k<2→∀wr,w.grownBy wr none→Calls prog 41 #[dI (sU now m0 x k) s0,.agg (aD (gK (bP m0 0 8) now k)),.int .i64 kd,.agg (aD (pR now m0 x k))] wr (Kg wr (sU now m0 x (k+1)) s0 (VQ (gK (bP m0 0 8) now k) false (sU now m0 x k) (pR now m0 x k)))from fun k hk wr q=>by
  have c:=Cw (gK (bP m0 0 8) now k) (sU now m0 x k) (pR now m0 x k) s0 kd (AL'.out k) (LL.out k) (vZ x f1 f2 nl ns k) (GU k) wr (gF hT q) (lq hG q)
  rw[decide_eq_false (show ¬kd=2 by rw[←hkd];exact hk2),acX now m0 x f1 k]at c
  exact c)
 have UL':=Zd (fun k=>(GU k).len)
 have HX:=Zd (fun wr (g:w.grownBy wr none)=>aP hx g)
 obtain⟨ax,cx,hvx⟩:=nY hx gA
 have XT:=Zd (fun k (hk:k<2) wr (h:aS wr (.slice (some ax) x.length cx) x)=>Xc h (40*k) gA)
 rw[←hvx]at XT
 clear hvx
 have XP:=Zd (fun k (hk:k<2)=>show(x.drop (40*k)).take 40=bP x (40*k) 40 from UD x (40*k) 40 gA)
 have XL:=Zd xl
 have E0:=Zs (sU now m0 x 0=m0) (rfl)
 have F:=Zs (∀w',w.grownBy w' none→jk w (.agg (aD (pR now m0 x 0++pR now m0 x 1))) (.returned (.agg (aD (bP (nC p (pR now m0 x) 2) 9 16)))) w') (fun w' q=>⟨by rw[aa2 (pR now m0 x) hp (UL'.out 0) (UL'.out 1)],q⟩)
 have LP:=Zd (fun k=>show(nC p (pR now m0 x) k).length=25 by rw[rC];exact hp)
 have KD:=Zd (fun k=>show aC (nC p (pR now m0 x) k) 0=kd by rw[Ab _ hp 0 gA k];exact hkd)
 have ST:=Zd (fun k=>show jr (nC p (pR now m0 x) k) (9+8*k) (pR now m0 x k)=nC p (pR now m0 x) (k+1)from rfl)
 have PS:=Zd (fun k (hk:k<2)=>show((aO (nC p (pR now m0 x) (k+1))).drop (9+8*k)).take 8=aO (pR now m0 x k)from by
  rw[mM _ _ _ (by rw[LP.out];omega),Rt (pR now m0 x) hp k hk (UL'.out k)])
 have P9:=Zd (mM (nC p (pR now m0 x) 2) 9 16 (by rw[LP.out];omega))
 have E1:=Zs (nC p (pR now m0 x) 0=p) (rfl)
 have NL:=Zd nl
 have HP:=Zd hp
 have HL:=Zd hm
 have HL0:=Zd f1
 have CL:=Zd (aX hm s)
 have C0:=Zd (aX f1 s0)
 have AL0:=Zd (dA.all s hm)
 have PV:=Zd (mM p 1 8 gA)
 have P0:=Zd (dA.part (l:=m0) s0 0 8 gA)
 have KD0:=Zd hkd
 have hz:=gV
 have hz2:=gM ai6
 clear hg hm hp hq f1 f2 nl ns pz hkd hm0 hs0 hW hT hG GU WD hk2 hx xr xl
 generalize jk w (.agg (aD (pR now m0 x 0++pR now m0 x 1)))=T at *
 generalize sU now m0 x=EM at *
 generalize pR now m0 x=U at *
 generalize O0 (bP m0 0 8) now 2=PRL at *
 unfold jk at AH PR NU
 unfold Kg at SP
 unfold dI at hz AH NU SP ⊢
 go_enter func12,ntmps12
 go_upto_region 1 with fail
 generalize ((w.alloc (.cells (aU m s).toArray 29)).alloc (.cells (aD p) 49)).alloc (.cells (aD (ay 16)) 47)=W0 at *
 clear hz hz2
 have cp:=(M0.out.2.1.cell 0).trans (qB p 0 (by rw[HP.out];omega))
 rw[KD0.out]at cp
 go_wp2_with (first|refine lV 0 M0.out.1 aY (by rw[CL.out];omega) AL0.out ?_)
 refine(AH.out W0).mono ?_
 rintro e W1 ⟨rfl,g1⟩
 have M1:=Zd (M0.out.aH g1)
 have MA:=M1.out.all (m:=m0) (t:=s0) HL.out HL0.out
 have M2:=Zd MA.1
 have I0:=Zd (dY m0 s0)
 clear MA g1 AH cp
 go_upto_region 2 with(first|refine sV 0 (aU m0 s0) M1.out.1 (by rw[CL.out,C0.out];omega) (by rw[C0.out];exact aY) I0.out ?_)
 (try simp only[Act.put])
 generalize dQ W1 w.heap.size 0 (aU m0 s0)=W2 at *
 go_wp2_with (first|refine lV 1 M2.out.2.1 dV (by rw[aM,HP.out];omega) PV.out ?_)
 refine(VA.out _ M2.out.2.2.2).mono ?_
 rintro e W3 ⟨rfl,g3⟩
 obtain⟨b1,b2,b3⟩:=dL W3 26 8 now NL.out
 have B1:=Zd b1
 have B2:=Zd b2
 have M3:=Zd ((M2.out.aH g3).aH b3)
 have NB:=Zs (w.heap.size+1+1+1≤W3.heap.size) ((M2.out.aH g3).2.2.1.lt)
 rw[rF]at B1 B2 M3
 clear g3 VA b1 b2 b3 M2
 go_upto_region 3 with(first|refine sA now B1.out (by rw[NL.out,au]) (by rw[au];exact dV) ?_)
 (try simp only[Act.put])
 generalize bT _ W3.heap.size now=W4 at *
 generalize W3.heap.size=ba at *
 have PR1:=Zd (PR.out W4)
 go_wp2_with (first|refine lV 0 M3.out.1 dV (by rw[C0.out];omega) P0.out ?_|refine lA B2.out (by rw[NL.out];exact dV) ?_)
 refine PR1.out.mono ?_
 rintro e W6 ⟨rfl,g6⟩
 have M6:=Zd (M3.out.aH g6)
 have B6:=Zd (B2.out.aH g6)
 clear g6 PR1
 go_wp2_with fail
 go_loopw [25] (fun i wr=>∃k:Nat,i=.int .i64 (k:Int)∧k≤2∧Hid (Cb w (EM k) s0 (nC p U k) wr)∧Hid (bO wr ba 26 now)) (fun i _=>2-(intOf i).toNat)
 case atStart=>exact⟨0,rfl,Nat.zero_le _,by rw[E0.out,E1.out];exact M6.out,B6.out⟩
 case round=>
  obtain⟨k,rfl,hk,hM,hB⟩:=hrel
  clear M6 B6
  by_cases jS:k<2
  ·have hk3:(k:Int)<2:=gA
   have A1:=Zd (dA.all s0 (LL.out k))
   have C1:=Zd (aX (LL.out k) s0)
   have CK:=Zd (aX (LL.out (k+1)) s0)
   have IK:=Zd (dY (EM (k+1)) s0)
   have NU1:=Zd (NU.out k jS)
   have Jt:=Zd (SP.out k jS)
   have AL:=Zd (AL'.out k)
   have UL:=Zd (UL'.out k)
   have PU:=Zd (PS.out k jS)
   have uT:=IX'.out k jS
   rw[IE.out k jS]at uT
   have T1:=XT.out k jS wr (HX.out wr hM.out.2.2.2)
   have XE:=Zd (XP.out k jS)
   obtain⟨vl1,af3⟩:∃vl1,Value.slice (some (ax.add (40*k))) (x.length-40*k) (cx-40*k)=vl1:=⟨_,rfl⟩
   rw[af3]at T1
   have T2:=slice_head (W:=wr) (a:=ax.add (40*k)) (c:=cx-40*k) (l:=x.drop (40*k)) (by rw[List.length_drop,af3];exact T1.2) 40 (by rw[List.length_drop,XL.out];omega)
   rw[List.length_drop,af3,XE.out]at T2
   obtain⟨vl2,ai7⟩:∃vl2,Value.slice (some (ax.add (40*k))) 40 (cx-40*k)=vl2:=⟨_,rfl⟩
   rw[ai7]at T2
   have hs1:=T1.1
   rw[show((40*k:Nat):Int)=40*(k:Int) by omega]at hs1
   have hs2:=T2.1
   rw[show((40:Nat):Int)=40 from rfl]at hs2
   have IS0:=Zd T2.2
   have m40:(k:Int)*40=40*(k:Int):=gA
   have w40:=fH (40*(k:Int)) gA gA
   clear T1 T2 af3 ai7
   generalize VQ (gK (bP m0 0 8) now k) false (EM k) (U k)=LX at *
   generalize gK (bP m0 0 8) now k=AK at *
   obtain⟨b1,b2,b3⟩:=dL wr 58 9 AK AL.out
   have B1:=Zd b1
   have BA:=Zd b2
   have M1:=Zd (hM.out.aH b3)
   have BN:=Zd (hB.out.aH b3)
   have IS:=Zd (aP IS0.out b3)
   have NQ:=Zs (w.heap.size+1+1+1≤wr.heap.size) (hM.out.2.2.1.lt)
   rw[J7]at B1 BA M1 BN IS
   clear b1 b2 b3 hM hB
   go_upto_region 6 with(first|refine sA AK B1.out (by rw[AL.out,au]) (by rw[au];exact dz) ?_)
   (try simp only[Act.put])
   clear uT
   generalize bT _ wr.heap.size AK=wq at *
   generalize wr.heap.size=bq at *
   have hM:=M1
   have hB:=BN
   refine b_ 11 (dM wq) 12 (by rfl) _ rfl (by kernel_rfl) (fun aK=>?_)
   have aj:=(aZ wq)
   refine bF 0 aj aK fun aK=>?_
   refine jq (hy:=by intro w' bL;(try dsimp only at bL);exact dD rfl rfl (hM.out.1.aH bL) _ underlying29 rfl aY (by rw[C1.out];omega) _ A1.out) (v:=.agg (aU (EM k) s0).toArray) 1 aj aK fun aK=>?_
   refine jq (hy:=by intro w' bL;(try dsimp only at bL);exact yA (BA.out.aH bL) (by rw[AL.out];exact dz)) (v:=.agg (aD AK)) 2 aj aK fun aK=>?_
   refine bF 3 aj aK fun aK=>?_
   refine bF 4 aj aK fun aK=>?_
   refine jq (hy:=by intro w' bL;(try dsimp only at bL);go_simp;(try simp only[m40,w40]);(try with_reducible rfl)) (v:=.int .i64 (40*(k:Int))) 5 aj aK fun aK=>?_
   refine jq (hy:=by intro w' bL;(try dsimp only at bL);go_simp;(try(rw[hs1];rfl))) (v:=vl1) 6 aj aK fun aK=>?_
   refine jq (hy:=by intro w' bL;(try dsimp only at bL);go_simp;(try(rw[hs2];rfl))) (v:=vl2) 7 aj aK fun aK=>?_
   refine bF 9 aj aK fun aK=>?_
   refine kT 8 aK fun K hK=>?_
   (try simp only[sZ])
   go_simp
   refine(NU1.out _ (aB hM.out.2.2.2 aj) vl2 (aP IS.out aj)).mono ?_
   rintro e w2 ⟨rfl,q2⟩
   have Q2:=Zd q2
   clear q2
   go_wp2_with fail
   have iB:=(bD aj Q2.out)
   refine hK.out _ _ (fun _=>iB) (fun aK=>?_)
   replace aj:=iB
   clear iB
   (try simp only[sZ])
   refine jq (hy:=by intro w' bL;(try dsimp only at bL);go_simp;(try simp only[Nat.mul_comm]);(try with_reducible rfl)) (v:=.pointer (some ⟨w.heap.size+1,9+8*k,none⟩)) 10 aj aK fun aK=>?_
   refine kT 11 aK fun K hK=>?_
   (try simp only[sZ])
   have M2:=Zd (hM.out.aH aj)
   have MA:=M2.out.ac_ (9+8*k) (U k) (by rw[UL.out,LP.out k];omega)
   have M3:=Zd MA.1
   rw[ST.out k]at M3
   have A3:=Zd ((BA.out.aH aj).aJ MA.2 (by have:=NQ.out;omega))
   have B3:=Zd ((hB.out.aH aj).aJ MA.2 (by have:=NB.out;omega))
   clear MA
   refine dG rfl 46 _ _ rfl (w.heap.size+1) (9+8*k) 49 (aO (nC p U k)) (aO (U k)) rfl rfl M2.out.2.1 (by rw[aM,aM,UL.out,LP.out k];omega) (by rw[aM,UL.out];exact rz) (d9 _) ?_
   refine hK.out _ _ (fun h=>by cases h) (fun aK=>?_)
   clear aj
   (try simp only[sZ])
   clear M2 hM hB
   generalize dQ w2 (w.heap.size+1) (9+8*k) (aO (U k))=w3 at *
   refine bI _ _ _ _ (by rfl) ?_
   refine xP ?_
   clear NU1 hs1 hs2 IS m40 w40
   go_upto_region 7 with fail
   refine b_ 12 (dM w3) 13 (by rfl) _ rfl (by kernel_rfl) (fun aK=>?_)
   have aj:=(aZ w3)
   refine jq (hy:=by intro w' bL;(try dsimp only at bL);exact dD rfl rfl (M3.out.1.aH bL) _ underlying29 rfl aY (by rw[C1.out];omega) _ A1.out) (v:=.agg (aU (EM k) s0).toArray) 0 aj aK fun aK=>?_
   refine jq (hy:=by intro w' bL;(try dsimp only at bL);exact yA (A3.out.aH bL) (by rw[AL.out];exact dz)) (v:=.agg (aD AK)) 1 aj aK fun aK=>?_
   refine bF 2 aj aK fun aK=>?_
   refine jq (hy:=by intro w' bL;(try dsimp only at bL);have cc:=((M3.out.2.1.aH bL).cell 0).trans (qB (nC p U (k+1)) 0 (by rw[LP.out (k+1)];omega));rw[KD.out (k+1)]at cc;go_simp;(try with_reducible rfl)) (v:=.int .i64 kd) 3 aj aK fun aK=>?_
   refine bF 4 aj aK fun aK=>?_
   refine bF 5 aj aK fun aK=>?_
   refine jq (hy:=by intro w' bL;(try dsimp only at bL);go_simp;(try simp only[Nat.mul_comm]);(try with_reducible rfl)) (v:=.pointer (some ⟨w.heap.size+1,9+8*k,none⟩)) 6 aj aK fun aK=>?_
   refine jq (hy:=by intro w' bL;(try dsimp only at bL);exact dD rfl rfl (M3.out.2.1.aH bL) _ underlying46 rfl rz (by rw[aM,LP.out (k+1)];omega) _ PU.out) (v:=.agg (aO (U k)).toArray) 7 aj aK fun aK=>?_
   refine kT 8 aK fun K hK=>?_
   (try simp only[sZ])
   go_simp
   refine(Jt.out _ (aB M3.out.2.2.2 aj)).mono ?_
   rintro e w4 ⟨v4,rfl,_,q4⟩
   have Q4:=Zd q4
   clear q4
   (try unfold dI)
   go_wp2_with fail
   have iB:=(bD aj Q4.out)
   refine hK.out _ _ (fun _=>iB) (fun aK=>?_)
   replace aj:=iB
   clear iB
   (try simp only[sZ])
   refine bF 9 aj aK fun aK=>?_
   refine bF 10 aj aK fun aK=>?_
   refine kC (i:=11) (v:=?am9) rfl (by kernel_rfl) aK (fun _ _ _ h=>h) (Or.inl ⟨by rfl,?ai8⟩) aj (fun aK=>?am_)
   case ai8=>(intro w' _;go_simp;(try with_reducible rfl))
   (try simp only[sZ])
   refine kT 12 aK fun K hK=>?_
   (try simp only[sZ])
   have M4:=Zd (M3.out.aH aj)
   have MA:=M4.out.all (m:=EM (k+1)) (t:=s0) (LL.out k) (LL.out (k+1))
   have M5:=Zd MA.1
   have B5:=Zd ((B3.out.aH aj).aJ MA.2 (by have:=NB.out;omega))
   clear MA
   refine dG rfl 29 _ _ rfl w.heap.size 0 29 (aU (EM k) s0) (aU (EM (k+1)) s0) rfl rfl M4.out.1 (by rw[C1.out,CK.out];omega) (by rw[CK.out];exact aY) IK.out ?_
   refine hK.out _ _ (fun h=>by cases h) (fun aK=>?_)
   clear aj
   (try simp only[sZ])
   clear M4 M3
   generalize dQ w4 w.heap.size 0 (aU (EM (k+1)) s0)=w5 at *
   refine bI _ _ _ _ (by rfl) ?_
   refine xP ?_
   clear C1 Jt jS
   go_wp2_with fail
   go_roundw
   case rel=>exact⟨k+1,by go_num,gA,M5.out,B5.out⟩
   case measure=>simp[intOf];omega
  obtain rfl:k=2:=gA
  have L2:=Zd (LP.out 2)
  clear LP
  generalize nC p U 2=P2 at *
  have PL:=Zd (aR P2 9 16)
  generalize bP P2 9 16=SS at *
  have ID:=Zd (d9 SS)
  have IL:=Zs ((aO SS).length=16) (by rw[aM];exact PL.out)
  have IZ:=Zs ((aO (ay 16)).length=16) (by rw[aM];exact au 16)
  have PU:=tC hM.out.2.2.1 0 (aO SS) (by rw[IL.out,IZ.out];omega)
  rw[qM _ _ (by rw[IL.out,IZ.out])]at PU
  have PB:=Zd PU
  have FF:=Zd (F.out _ (aG hM.out.2.2.2 PU.2 gA))
  rw[show aD SS=(aO SS).toArray from rfl]at FF
  clear PU
  go_wp2_with (first|refine lV 9 hM.out.2.1 D6 (by rw[aM,L2.out];omega) P9.out ?_|refine sV 0 (aO SS) hM.out.2.2.1 (by rw[IL.out,IZ.out];omega) (by rw[IL.out];exact D6) ID.out ?_)
  have eO:=wV PB.out.1 (by rw[IL.out];exact D6)
  refine bodyPost_ret (v:=.agg (aO SS).toArray) ?_ rfl FF.out
  simp[results,results12,asAddr,Act.put,eO]
theorem aa6 (w:World):Sem.run prog (zeroValue 49) w=.ok (.agg (aD (ay 25))) w:=by
 have hz:=aiL
 cases hq:prog.info? 49 with
 | none=>simp[hq]at hz
 | some i=>
  have hi:i.zero=some (.agg (aD (ay 25))):=by simpa [hq] using hz
  simp[zeroValue,typeInfo,hq,hi]
theorem af5 {q:List Int}(hl:q.length=25)(h:j4 q=true):jv q:=fun i=>by
 by_cases hi:i<25
 ·have:=(kF q).1 h i hi
  have:=Bf i hi
  omega
 rw[dO _ i gA];omega
theorem JG (kd:Int)(q:List Int)(hq:q.length=8)(w:World):Sem.run prog (Instr.build 49 #[(0,.int .i64 kd),(1,.agg (aD q))]) w=.ok (.agg (aO (kd::(q++ay 16))).toArray) w:=by
 obtain⟨a,b,c,d,e,f,g,h,rfl⟩:∃a b c d e f g h,q=[a,b,c,d,e,f,g,h]:=by
  match q,hq with
  | [a,b,c,d,e,f,g,h],_=>exact⟨a,b,c,d,e,f,g,h,rfl⟩
 kernel_rfl
theorem uz {w:World}{a:Act}{op:Oper}{x y:Operand}(kd:Int)(q P:List Int)(hq:∀u,Sem.run prog (Instr.build 49 #[(0,.int .i64 kd),(1,.agg (aD q))]) u=.ok (.agg (aO P).toArray) u)(ho:op.op=.build 49 #[(0,x),(1,y)])(hx:a.eval x=.int .i64 kd)(hy:a.eval y=.agg (aD q)) :
 (execOp a.eval op).run prog w=.ok (.value (.agg (aO P).toArray)) w:=by
 have e:(#[(0,x),(1,y)]:Array (Nat×Operand)).map (fun(i,x)=>(i,a.eval x))=#[(0,.int .i64 kd),(1,.agg (aD q))]:=by simp[hx,hy]
 unfold execOp
 simp only[ho,e,Sem.run_bind,hq,Result.andThen_ok,Sem.run_pure]
theorem af6 (kd:Int)(q S:List Int)(hq:q.length=8)(hS:S.length=16):jr (kd::(q++ay 16)) 9 S=kd::(q++S):=by
 refine FU (by rw[eG];simp[hq,hS,au]) (fun i hi=>?_)
 rw[eG]at hi
 have h25:i<25:=by simp[hq,au]at hi;omega
 rw[gD _ _ _ _ hi]
 by_cases h0:i=0
 ·subst h0;rw[if_neg gA];rfl
 obtain⟨j,rfl⟩:∃j,i=j+1:=⟨i-1,gA⟩
 show(if 9≤j+1∧j+1<9+S.length then aC S (j+1-9)else aC (q++ay 16) j)=aC (q++S) j
 by_cases h8:j<8
 ·rw[if_neg gA,jf _ _ _ gA,jf _ _ _ gA]
 rw[if_pos gA,iw q S j gA,hq,show j+1-9=j-8 by omega]
theorem ad4 (A I M0 M:List Int)(s t:Bool)(hA:A.length=4)(hI:I.length=120)(h0:M0.length=101)(hM:M.length=101):mG (bK (A++(I++M0)) s) 124 (aU M t)=bK (A++(I++M)) t:=by
 have e0:bK (A++(I++M0)) s=(aO A++aO I)++((aO M0++[.bool s])++[]):=by unfold bK kE aO;simp
 rw[e0,Gy _ _ _ _ 124 (by rw[List.length_append,aM,aM,hA,hI]) (by unfold aU;rw[tF,hM,List.length_append,aM,h0];rfl)]
 unfold bK aU kE aO
 simp
def alx (W:World)(P:List Int)(v:Value)(wx:World):Prop:=∃b,v=.pointer (some ⟨b,0,none⟩)∧dP wx b 49 (aO P)∧W.heap.size≤b∧W.grownBy wx none
theorem JH (w:World)(e:List Int)(s:Bool)(he:e.length=225)(v:Value)(l:List Int)(hi:aS w v l)(hsz:l.length*8≤140737488351232)(r:Bool)(hk:¬q9 e l):Calls prog 4 #[eX e s,v,.bool r] w (pW w (nQ e l r) (oC e l r) (oD e l r) (nR e l r) (je e l)):=by
 have Q0:=Zd (Jw.new w e s)
 have HE:=Zd he
 have CE:=Zd (bY he s)
 have AE:=Zd (fU.all s he)
 have ZC:=Zd (bY (au 225) false)
 have ZO:=Zd (gu (ay 225) false)
 have hz:=jo
 have LI:=Zd (fun wr (g:w.grownBy wr none)=>Df wr e s he v l (aP hi g) hsz hk)
 have hne:je e l≠0:=by unfold je;(repeat' split)<;>first|exact absurd ‹_› hk|decide
 have F:=Zs (∀w',w.grownBy w' none→pW w (nQ e l r) (oC e l r) (oD e l r) (nR e l r) (je e l) (.returned (.tuple #[eX (ay 225) false,.slice none 0 0,.slice none 0 0,.int .i64 (je e l)])) w') (fun w' q=>⟨_,_,by rw[(jZ r hk).1,(jZ r hk).2.1],by rw[(jZ r hk).2.2.1];exact uj _ _,by rw[(jZ r hk).2.2.2];exact bZ _ _,q⟩)
 clear hk hi
 generalize pW w (nQ e l r) (oC e l r) (oD e l r) (nR e l r) (je e l)=T at *
 generalize je e l=en at *
 have hnb:(en==0)=false:=beq_eq_false_iff_ne.2 hne
 clear hne
 unfold Ac at LI
 obtain⟨Z8,hZ8⟩:∃Z8,ay 8=Z8:=⟨_,rfl⟩
 have LQ:=Zs (Z8.length=8) (by rw[←hZ8];exact au 8)
 rw[hZ8]at LI
 clear hZ8
 unfold eX at LI hz F ⊢
 go_enter func4,ntmps4
 go_upto_region 1 with fail
 generalize (w.alloc (.cells (bK e s).toArray 31)).alloc (.cells (bK (ay 225) false).toArray 31)=W0 at *
 go_wp2_with (first|refine lV 0 Q0.out.1 dH (by rw[CE.out];omega) AE.out ?_)
 refine(LI.out W0 Q0.out.2.2).mono ?_
 rintro x W1 ⟨m,t,lm,rfl,g1⟩
 have LMM:=Zd lm
 clear lm LI
 obtain⟨b1,b2,b3⟩:=dL W1 26 8 Z8 LQ.out
 have B1:=Zd b1
 have NB:=Zs (w.heap.size+1+1≤W1.heap.size) ((Q0.out.aH g1).2.1.lt)
 have GA:=ak W1 (.cells (aD (ay 8)) 26) none
 have QA:=Zd ((Q0.out.aH g1).aH GA)
 have PU:=QA.out.1.fu (m:=m) (t:=t) HE.out LMM.out
 have E2:=Zd PU.1
 have R2:=Zd (QA.out.2.1.aJ PU.2 gA)
 have G2:=Zd (aG QA.out.2.2 PU.2 (Nat.le_refl _))
 have B2:=Zd (b1.aJ PU.2 (by have:=NB.out;omega))
 have PV:=bB (rs':=Z8) B2.out (LQ.out.trans (au 8).symm)
 have B3:=Zd PV.1
 have E3:=Zd (E2.out.aJ PV.2 (by have:=NB.out;omega))
 have R3:=Zd (R2.out.aJ PV.2 (by have:=NB.out;omega))
 have G3:=Zd (aG G2.out PV.2 (by have:=NB.out;omega))
 have CM:=Zd (bY LMM.out t)
 have OM:=Zd (gu m t)
 rw[rF]at B1 QA E2 R2 G2 B2 B3 E3 R3 G3
 clear b1 b2 b3 GA PU PV g1 Q0
 go_upto_region 2 with(first|refine sV 0 (bK m t) QA.out.1 (by rw[CE.out,CM.out];omega) (by rw[CM.out];exact dH) OM.out ?_|refine sA Z8 B2.out (LQ.out.trans (au 8).symm) (by rw[au];exact dV) ?_)
 (try simp only[Act.put])
 generalize bT _ W1.heap.size Z8=W3 at *
 generalize W1.heap.size=bq at *
 have PB:=Zd (R3.out.fu (m:=ay 225) (t:=false) (au 225) (au 225))
 have FF:=Zd (F.out _ (aG G3.out PB.out.2 gA))
 go_wp2_with (first|refine sV 0 (bK (ay 225) false) R3.out (by rw[ZC.out];omega) (by rw[ZC.out];exact dH) ZO.out ?_)
 have eO:=wV PB.out.1 (by rw[ZC.out];exact dH)
 refine bodyPost_ret (v:=.tuple #[.agg (bK (ay 225) false).toArray,.slice none 0 0,.slice none 0 0,.int .i64 en]) ?_ rfl FF.out
 simp[results,results4,asAddr,Act.put,eO]
theorem Sg (w:World)(e:List Int)(s:Bool)(he:e.length=225)(v:Value)(l:List Int)(hi:aS w v l)(hsz:l.length*8≤140737488351232)(r:Bool)(hW:uf w)(hX:TabA w 3 widq 8)(hT:TabA w 2 gains 8)(hG:r_ w)(hk:q9 e l) :Calls prog 4 #[eX e s,v,.bool r] w (pW w (nQ e l r) (oC e l r) (oD e l r) (nR e l r) (je e l)):=by
 have Q0:=Zd (Jw.new w e s)
 have HE:=Zd he
 have CE:=Zd (bY he s)
 have AE:=Zd (fU.all s he)
 have ZC:=Zd (bY (au 225) false)
 have ZO:=Zd (gu (ay 225) false)
 have hz:=jo
 have LI:=Zd (fun wr (g:w.grownBy wr none)=>Dc wr e s he v l (aP hi g) hsz (kJ hW g) hk)
 obtain⟨hl,hg,hh,hc⟩:=id hk
 have cr:=xI hh
 have cl:(iG e l).length=80:=(xH hh).trans hl
 have il:=xJ hl hh
 have mm:(fF e).length=101:=aR _ _ _
 have ql:(kG e l).length=8:=uS _
 have lE:(vG e l++(lT e l++fF e)).length=225:=by rw[List.length_append,List.length_append,il,mm];rfl
 obtain⟨E1,hE1⟩:∃E1,vG e l++(lT e l++fF e)=E1:=⟨_,rfl⟩
 have yZ:=Zs (E1.length=225) (by rw[←hE1];exact lE)
 have pc:bP E1 44 80=iG e l:=by
  refine(dJ cl (fun i hi=>?_)).symm
  rw[←hE1,iw _ _ _ (by show 4≤44+i;omega),show(vG e l).length=4 from rfl,jf _ _ _ (by rw[il];omega)]
  unfold lT
  rw[iw _ _ _ (by rw[aR];omega),aR,show 44+i-4-40=i by omega]
 have pm:bP E1 124 101=fF e:=by
  refine(dJ mm (fun i hi=>?_)).symm
  rw[←hE1,iw _ _ _ (by show 4≤124+i;omega),show(vG e l).length=4 from rfl,iw _ _ _ (by rw[il];omega),il,show 124+i-4-120=i by omega]
 rw[hE1]at LI
 have IF:=Zd (fun wr (h:fU wr w.heap.size E1 s)=>h.input 44 80 80 (by rw[yZ.out];omega) gA)
 rw[pc]at IF
 obtain⟨kd,hkd⟩:∃kd,Jh e l r=kd:=⟨_,rfl⟩
 obtain⟨q,hq⟩:∃q,kG e l=q:=⟨_,rfl⟩
 rw[hq]at ql LI
 have LQ:=Zd ql
 have KI:=Zd (fun wr (g:w.grownBy wr none) (h:aS wr (.slice (some ⟨w.heap.size,44,none⟩) 80 80) (iG e l))=>Rx (.slice (some ⟨w.heap.size,44,none⟩) 80 80) (iG e l) r wr h cl cr)
 rw[show(if r=true then(1:Int)else if fE (iG e l) (iG e l) 80<1280 then 2 else 0)=kd from hkd]at KI
 obtain⟨P0,hP0⟩:∃P0,kd::(q++ay 16)=P0:=⟨_,rfl⟩
 have Zh:=Zs (P0.length=25) (by rw[←hP0];simp[ql,au])
 have RB:=Zd (fun u=>JG kd q ql u)
 rw[hP0]at RB
 have PG:j4 (n_ e l r)=true:=FQ r hg
 have PL:(n_ e l r).length=25:=Y2 r hg
 have PK:=Zd (fun wr (g:w.grownBy wr none)=>Xe (n_ e l r) PL (af5 PL PG) wr (gF hX g))
 unfold PkP at PK
 rw[show pkR (n_ e l r)=Cg (n_ e l r)from if_pos PG]at PK
 have PY:=Zd (fun wr (g:w.grownBy wr none)=>Js wr (kJ hW g) (gF hT g) (lq hG g) (fF e) s mm hg (n_ e l r) PL PG)
 have ML:=Zd (Fg (n_ e l r) mm)
 have F:=Zs (∀vb vl w',jw w.heap.size w' vb (Cg (n_ e l r))→gP w.heap.size w' vl (sK (fF e) (n_ e l r))→w.grownBy w' none→pW w (nQ e l r) (oC e l r) (oD e l r) (nR e l r) (je e l) (.returned (.tuple #[eX (vG e l++(lT e l++oW (fF e) (n_ e l r))) (oV (n_ e l r)),vb,vl,.int .i64 0])) w') (fun vb vl w' o1 o2 qq=>⟨vb,vl,by rw[(oK r hk).1,(oK r hk).2.1,(oK r hk).2.2.2.2],by rw[(oK r hk).2.2.1];exact o1,by rw[(oK r hk).2.2.2.1];exact o2,qq⟩)
 have FL:=Zs ((vG e l++(lT e l++oW (fF e) (n_ e l r))).length=225) (by rw[List.length_append,List.length_append,il,ML.out];rfl)
 have SM:=Zd (show mG (bK E1 s) 124 (aU (oW (fF e) (n_ e l r)) (oV (n_ e l r)))=bK (vG e l++(lT e l++oW (fF e) (n_ e l r))) (oV (n_ e l r))from by
  rw[←hE1]
  exact ad4 (vG e l) (lT e l) (fF e) _ s _ rfl il mm ML.out)
 have PM:=Zd (lZ s yZ.out)
 rw[pm]at PM
 have Ad:=Zd (bY yZ.out s)
 have AE1:=Zd (fU.all s yZ.out)
 have CMM:=Zd (aX mm s)
 have c0:=Zs (aC P0 0=kd) (by rw[←hP0];rfl)
 have p1:bP P0 1 8=q:=by
  refine(dJ ql (fun i hi=>?_)).symm
  rw[←hP0,Nat.add_comm 1 i]
  exact(jf q (ay 16) i gA).symm
 have m0:(if aC P0 0=1 then iL else fF e)=pG e r:=by
  rw[c0.out,←hkd]
  unfold Jh pG
  cases r with
  | true=>rfl
  | false=>
   by_cases hd:fE (iG e l) (iG e l) 80<1280<;>simp[hd]
 have CH:=Zd (fun(kd2:¬kd=2) wr (g:w.grownBy wr none) (h:aS wr (.slice (some ⟨w.heap.size,44,none⟩) 80 80) (iG e l))=>JE wr (kJ hW g) (gF hT g) (lq hG g) (fF e) s mm hg P0 Zh.out (by rw[p1,←hq];exact vY _) (by rw[c0.out];exact kd2) (.slice (some ⟨w.heap.size,44,none⟩) 80 80) (iG e l) h cl cr (pG e r) m0)
 rw[p1]at CH
 obtain⟨SS,hSS⟩:∃SS,pR (gY q) (pG e r) (iG e l) 0++pR (gY q) (pG e r) (iG e l) 1=SS:=⟨_,rfl⟩
 rw[hSS]at CH
 have SE:¬kd=2→enS e l r=SS:=fun h=>by
  unfold enS
  rw[if_neg (fun z=>h (hkd.symm.trans z)),hq,hSS]
 have SL:=Zs (¬kd=2→SS.length=16) (fun h=>by rw[←SE h];exact Y0 r hg)
 have EP:=Zd (show ¬kd=2→jr P0 9 SS=n_ e l r from fun h=>by
  unfold n_
  rw[SE h,hq,hkd,←hP0]
  exact af6 kd q SS ql (SL.out h))
 have EPs:=Zd (show kd=2→P0=n_ e l r from fun h=>by
  rw[←hP0,←hq,←hkd]
  unfold n_ enS
  rw[if_pos (hkd.trans h)])
 have AP:=Zd (gN.all (n_ e l r) 25 PL)
 have LPP:=Zd PL
 clear hk hl hg hh hc cr cl il mm ql lE hE1 pc pm hkd hq hP0 PG PL hi hW hX hT hG p1 m0 hSS SE
 generalize pW w (nQ e l r) (oC e l r) (oD e l r) (nR e l r) (je e l)=T at *
 generalize vG e l++(lT e l++oW (fF e) (n_ e l r))=EF at *
 generalize oW (fF e) (n_ e l r)=MF at *
 generalize oV (n_ e l r)=tf at *
 generalize sK (fF e) (n_ e l r)=LF at *
 generalize Cg (n_ e l r)=BF at *
 generalize ae2 (n_ e l r)=pe at *
 generalize n_ e l r=PP at *
 generalize fF e=MM at *
 generalize iG e l=CC at *
 unfold jk at CH
 unfold Kg at PY
 unfold eX at LI hz F ⊢
 unfold dI at PY CH
 go_enter func4,ntmps4
 go_upto_region 1 with fail
 generalize (w.alloc (.cells (bK e s).toArray 31)).alloc (.cells (bK (ay 225) false).toArray 31)=W0 at *
 go_wp2_with (first|refine lV 0 Q0.out.1 dH (by rw[CE.out];omega) AE.out ?_)
 refine(LI.out W0 Q0.out.2.2).mono ?_
 rintro x W1 ⟨rfl,g1⟩
 clear LI
 obtain⟨b1,b2,b3⟩:=dL W1 26 8 q LQ.out
 have B1:=Zd b1
 have NB:=Zs (w.heap.size+1+1≤W1.heap.size) ((Q0.out.aH g1).2.1.lt)
 have GA:=ak W1 (.cells (aD (ay 8)) 26) none
 have QA:=Zd ((Q0.out.aH g1).aH GA)
 have PU:=QA.out.1.fu (m:=E1) (t:=s) HE.out yZ.out
 have E2:=Zd PU.1
 have R2:=Zd (QA.out.2.1.aJ PU.2 gA)
 have G2:=Zd (aG QA.out.2.2 PU.2 (Nat.le_refl _))
 have B2:=Zd (b1.aJ PU.2 (by have:=NB.out;omega))
 have PV:=bB (rs':=q) B2.out (LQ.out.trans (au 8).symm)
 have B3:=Zd PV.1
 have E3:=Zd (E2.out.aJ PV.2 (by have:=NB.out;omega))
 have R3:=Zd (R2.out.aJ PV.2 (by have:=NB.out;omega))
 have G3:=Zd (aG G2.out PV.2 (by have:=NB.out;omega))
 have CM:=Zd (bY yZ.out s)
 have OM:=Zd (gu E1 s)
 rw[rF]at B1 QA E2 R2 G2 B2 B3 E3 R3 G3
 clear b1 b2 b3 GA PU PV g1 Q0
 go_upto_region 2 with(first|refine sV 0 (bK E1 s) QA.out.1 (by rw[CE.out,CM.out];omega) (by rw[CM.out];exact dH) OM.out ?_|refine sA q B2.out (LQ.out.trans (au 8).symm) (by rw[au];exact dV) ?_)
 (try simp only[Act.put])
 generalize bT _ W1.heap.size q=W3 at *
 generalize W1.heap.size=bq at *
 go_upto_region 4 with fail
 go_upto_region 5 with fail
 replace IF:=Zd (fun wr (g:W3.grownBy wr none)=>IF.out wr (E3.out.aH g))
 clear hz
 have hzp:=aa6
 go_cut [13]from 18 (fun s13 wx=>alx W3 P0 s13 wx)
 case first=>
  refine wp_region_held_drew (S:=dM W3) (by kernel_rfl) (aZ _) (fun aj=>?_)
  refine bV 0 aj ?_
  refine bV 1 aj ?_
  refine bV (hy:=by intro w' bL;exact yA (B3.out.aH bL) (by rw[LQ.out];exact dV)) (v:=.agg (aD q)) 3 aj ?_
  refine oL 2 5 (fun K hK=>?gea) fun K hK=>?geb
  case gea=>
   (try simp only[sZ])
   go_simp
   refine(KI.out _ (aB G3.out aj) (IF.out _ aj)).mono ?_
   rintro x wk ⟨rfl,rfl⟩
   go_wp2_with fail
   refine hK.out _ _ aj (fun aj=>?_)
   (try simp only[sZ])
   refine bV (hy:=by intro w' bL;exact uz kd q P0 RB.out rfl rfl rfl) (v:=.agg (aO P0).toArray) 4 aj ?_
   refine fI 5 fun K hK=>?_
   (try simp only[sZ])
   go_simp
   go_wp2_with fail
   have HB:=Zs (W3.heap.size≤W3.heap.size) (by first|exact Nat.le_refl _|exact World.grownBy.size aj)
   refine hK.out _ _ (dX aj (.cells (aD (ay 25)) 49)) (fun aj=>?_)
   have HZ:=Zs (dP ((W3.alloc (.cells (aD (ay 25)) 49)).drew) (W3.heap.size) 49 (aO (ay 25))) (dP.new W3.drew 49 (aO (ay 25)))
   generalize (W3.alloc (.cells (aD (ay 25)) 49)).drew=wz at *
   (try simp only[sZ])
   refine fI 6 fun K hK=>?_
   (try simp only[sZ])
   refine dG rfl 49 _ _ rfl (W3.heap.size) 0 49 (aO (ay 25)) (aO P0) rfl rfl HZ.out (by rw[aM,aM,Zh.out,au];omega) (by rw[aM,Zh.out];exact nS) (d9 _) ?_
   have PU:=tC HZ.out 0 (aO P0) (by rw[aM,aM,Zh.out,au];omega)
   rw[qM _ _ (by rw[aM,aM,Zh.out,au])]at PU
   refine hK.out _ _ (iV aj PU.2 HB.out) (fun aj=>?_)
   (try simp only[sZ])
   refine lM ?_
   go_wp2_with fail
   go_meet
   exact⟨W3.heap.size,rfl,PU.1,HB.out,aj⟩
  case geb=>
   (try simp only[sZ])
   go_simp
   go_wp2_with fail
   have HB:=Zs (W3.heap.size≤W3.heap.size) (by first|exact Nat.le_refl _|exact World.grownBy.size aj)
   refine hK.out _ _ (dX aj (.cells (aD (ay 25)) 49)) (fun aj=>?_)
   have HZ:=Zs (dP ((W3.alloc (.cells (aD (ay 25)) 49)).drew) (W3.heap.size) 49 (aO (ay 25))) (dP.new W3.drew 49 (aO (ay 25)))
   generalize (W3.alloc (.cells (aD (ay 25)) 49)).drew=wz at *
   (try simp only[sZ])
   refine fI 2 fun K hK=>?_
   (try simp only[sZ])
   go_simp
   refine(KI.out _ (aB G3.out aj) (IF.out _ aj)).mono ?_
   rintro x wk ⟨rfl,rfl⟩
   go_wp2_with fail
   refine hK.out _ _ aj (fun aj=>?_)
   (try simp only[sZ])
   refine bV (hy:=by intro w' bL;exact uz kd q P0 RB.out rfl rfl rfl) (v:=.agg (aO P0).toArray) 4 aj ?_
   refine fI 6 fun K hK=>?_
   (try simp only[sZ])
   refine dG rfl 49 _ _ rfl (W3.heap.size) 0 49 (aO (ay 25)) (aO P0) rfl rfl HZ.out (by rw[aM,aM,Zh.out,au];omega) (by rw[aM,Zh.out];exact nS) (d9 _) ?_
   have PU:=tC HZ.out 0 (aO P0) (by rw[aM,aM,Zh.out,au];omega)
   rw[qM _ _ (by rw[aM,aM,Zh.out,au])]at PU
   refine hK.out _ _ (iV aj PU.2 HB.out) (fun aj=>?_)
   (try simp only[sZ])
   refine lM ?_
   go_wp2_with fail
   go_meet
   exact⟨W3.heap.size,rfl,PU.1,HB.out,aj⟩
 case rest=>
 obtain⟨bp,rfl,HP,hb,gc⟩:=hcut
 have P4:=Zd HP
 have HBP:=Zd hb
 have G4:=Zd (aB G3.out gc)
 have E4:=Zd (E3.out.aH gc)
 have R4:=Zd (R3.out.aH gc)
 have NBP:=Zs (w.heap.size+1+1≤bp) (Nat.le_trans (show w.heap.size+1+1≤W3.heap.size from R3.out.lt) hb)
 have IF4:=Zd (IF.out wc gc)
 clear HP hb gc G3 KI IF hzp
 have cp:=(P4.out.cell 0).trans (qB P0 0 (by rw[Zh.out];omega))
 rw[c0.out]at cp
 have AP0:=Zd (gN.all P0 25 Zh.out)
 go_upto_if 38 with fail
 go_cut []from 18 (fun wx=>dP wx bp 49 (aO PP)∧fU wx w.heap.size E1 s∧fU wx (w.heap.size+1) (ay 225) false∧w.grownBy wx none)
 case first=>
  by_cases h2:kd=2
  ·have hne:(kd==2)=true:=beq_iff_eq.2 h2
   have EP2:=Zd (EPs.out h2)
   clear h2
   go_wp2_with fail
   go_meet
   exact⟨by rw[←EP2.out];exact P4.out,E4.out,R4.out,G4.out⟩
  have hne:(kd==2)=false:=beq_eq_false_iff_ne.2 h2
  have CH1:=Zd (CH.out h2 wc G4.out IF4.out)
  have EP2:=Zd (EP.out h2)
  have SL2:=Zd (SL.out h2)
  clear cp h2
  go_wp2_with (first|refine lV 124 E4.out aY (by rw[Ad.out];omega) PM.out ?_|refine lV 0 P4.out nS (by rw[aM,Zh.out];omega) AP0.out ?_)
  refine CH1.out.mono ?_
  rintro x wd ⟨rfl,gd⟩
  have P4d:=Zd (P4.out.aH gd)
  have PU:=aht P4d.out 9 SS (by rw[SL2.out,Zh.out];omega)
  have P5:=Zd PU.1
  rw[EP2.out]at P5
  have E5:=Zd ((E4.out.aH gd).aJ PU.2 (by have:=NBP.out;omega))
  have R5:=Zd ((R4.out.aH gd).aJ PU.2 (by have:=NBP.out;omega))
  have G5:=Zd (aG (aB G4.out gd) PU.2 (by have:=NBP.out;omega))
  have IS:=Zd (d9 SS)
  have LS:=Zs ((aO SS).length=16) (by rw[aM];exact SL2.out)
  clear PU gd CH1
  go_wp2_with (first|refine sV 9 (aO SS) P4d.out (by rw[LS.out,aM,Zh.out];omega) (by rw[LS.out];exact D6) IS.out ?_)
  go_meet
  exact⟨P5.out,E5.out,R5.out,G5.out⟩
 case rest=>
 obtain⟨p5,e5,r5,g5⟩:=hcut
 have P5:=Zd p5
 have E5:=Zd e5
 have R5:=Zd r5
 have G5:=Zd g5
 clear p5 e5 r5 g5 cp
 generalize hwc:wc=W5 at *
 clear hwc
 go_upto_region 8 with fail
 have N5:=Zs (bp+1≤W5.heap.size) (P5.out.lt)
 go_wp2_with (first|refine lV 0 P5.out nS (by rw[aM,LPP.out];omega) AP.out ?_)
 refine(PK.out W5 G5.out).mono ?_
 rintro x W6 ⟨vb,rfl,ob,g6⟩
 have P6:=Zd (P5.out.aH g6)
 have E6:=Zd (E5.out.aH g6)
 have R6:=Zd (R5.out.aH g6)
 have G6:=Zd (aB G5.out g6)
 have OB6:=Zd (ob.base N5.out)
 have N6:=Zd (Nat.le_trans N5.out g6.size)
 clear PK G5 g6 ob
 go_upto_region 9 with fail
 have PY1:=Zd (PY.out W6 G6.out)
 go_wp2_with (first|refine lV 124 E6.out aY (by rw[Ad.out];omega) PM.out ?_|refine lV 0 P6.out nS (by rw[aM,LPP.out];omega) AP.out ?_)
 refine PY1.out.mono ?_
 rintro x W7 ⟨vl,rfl,ol,g7⟩
 have FB:=Zd (Gd W7 MF tf ML.out)
 have E8:=Zd ((E6.out.aH g7).aH FB.out.2.2)
 have R8:=Zd ((R6.out.aH g7).aH FB.out.2.2)
 have G8:=Zd (aB (aB G6.out g7) FB.out.2.2)
 have OB8:=Zd ((OB6.out.aH g7).aH FB.out.2.2)
 have OL8:=Zd ((ol.base N6.out).aH FB.out.2.2)
 have CF:=Zd (aX ML.out tf)
 have OF:=Zd (dY MF tf)
 have ZM:=Zd (aX (au 101) false)
 have hzm:=gV
 unfold dI at hzm
 clear PY1 g7 ol
 go_upto_region 10 with(first|refine sV 0 (aU MF tf) FB.out.1 (by rw[ZM.out,CF.out];omega) (by rw[CF.out];exact aY) OF.out ?_)
 (try simp only[Act.put])
 have V8:=Zd FB.out.2.1
 clear hzm
 generalize dQ (W7.alloc (.cells (aU (ay 101) false).toArray 29)) W7.heap.size 0 (aU MF tf)=W8 at *
 generalize W7.heap.size=bm at *
 have AF:=Zd (dA.all tf ML.out)
 have PU:=tC E8.out 124 (aU MF tf) (by rw[CF.out,Ad.out];omega)
 rw[SM.out]at PU
 have E9:=Zs (fU _ w.heap.size EF tf) (PU.1)
 have R9:=Zd (R8.out.aJ PU.2 gA)
 have G9:=Zd (aG G8.out PU.2 (Nat.le_refl _))
 have OB9:=Zd (OB8.out.dK PU.2 (by have:=NBP.out;omega))
 have OL9:=Zd (OL8.out.dK PU.2 (by have:=NBP.out;omega))
 clear PU
 go_upto_region 11 with(first|refine lV 0 V8.out aY (by rw[CF.out];omega) AF.out ?_|refine sV 124 (aU MF tf) E8.out (by rw[CF.out,Ad.out];omega) (by rw[CF.out];exact aY) OF.out ?_)
 (try simp only[Act.put])
 generalize dQ W8 w.heap.size 124 (aU MF tf)=W9 at *
 have AEF:=Zd (fU.all tf FL.out)
 have CEF:=Zd (bY FL.out tf)
 have OEF:=Zd (gu EF tf)
 have PB:=Zd (R9.out.fu (m:=EF) (t:=tf) (au 225) FL.out)
 have OBX:=Zd (OB9.out.dK PB.out.2 (by have:=NBP.out;omega))
 have OLX:=Zd (OL9.out.dK PB.out.2 (by have:=NBP.out;omega))
 have FF:=Zd (F.out _ _ _ (OBX.out.base (b':=w.heap.size) (by have:=NBP.out;omega)) (OLX.out.base (b':=w.heap.size) (by have:=NBP.out;omega)) (aG G9.out PB.out.2 gA))
 go_wp2_with (first|refine lV 0 E9.out dH (by rw[CEF.out];omega) AEF.out ?_|refine sV 0 (bK EF tf) R9.out (by rw[ZC.out,CEF.out];omega) (by rw[CEF.out];exact dH) OEF.out ?_)
 have eO:=wV PB.out.1 (by rw[CEF.out];exact dH)
 refine bodyPost_ret (v:=.tuple #[.agg (bK EF tf).toArray,_,_,.int .i64 0]) ?_ rfl FF.out
 simp[results,results4,asAddr,Act.put,eO]
theorem JI (w:World)(e:List Int)(s:Bool)(he:e.length=225)(v:Value)(l:List Int)(hi:aS w v l)(hsz:l.length*8≤140737488351232)(r:Bool)(hW:uf w)(hX:TabA w 3 widq 8)(hT:TabA w 2 gains 8)(hG:r_ w):Calls prog 4 #[eX e s,v,.bool r] w (pW w (nQ e l r) (oC e l r) (oD e l r) (nR e l r) (je e l)):=by
 by_cases hk:q9 e l
 ·exact Sg w e s he v l hi hsz r hW hX hT hG hk
 exact JH w e s he v l hi hsz r hk
theorem N9 (w:World):Calls prog 8 #[] w (jk w (eX uw false)):=by
 have B0:=Zd (fU.new w (ay 225) false)
 have G0:=Zd (ak w (.cells (bK (ay 225) false).toArray 31) none)
 have FR:=Zd (fun u=>zB u)
 have S1:=Zd (bY wI false)
 have S0:=Zd (bY (au 225) false)
 have O1:=Zd (gu uw false)
 have hz:=jo
 have F:=Zs (∀w',w.grownBy w' none→jk w (eX uw false) (.returned (eX uw false)) w') (fun w' q=>⟨rfl,q⟩)
 generalize jk w (eX uw false)=T at *
 have BF:=Zd (fun ops rest op a w Q=>@uy ops rest op a w Q)
 unfold jk at FR
 unfold dI at BF FR
 unfold eX at hz F BF
 go_enter func8,ntmps8
 go_upto_region 1 with fail
 generalize w.alloc (.cells (bK (ay 225) false).toArray 31)=W0 at *
 go_wp2_with fail
 refine(FR.out _).mono ?_
 rintro x W1 ⟨rfl,g1⟩
 have B1:=Zd (B0.out.aH g1)
 have PU:=B1.out.fu (m:=uw) (t:=false) (au 225) wI
 have PB:=Zd PU.1
 have FF:=Zd (F.out _ (aG (aB G0.out g1) PU.2 (Nat.le_refl _)))
 clear PU g1 FR
 unfold fU at B1 PB
 generalize aU iL false=FC at *
 generalize bK uw false=M at *
 go_wp2_with (first|refine BF.out _ _ _ _ _ _ rfl _ rfl rfl ?_|refine sV 0 M B1.out (by rw[S0.out,S1.out];omega) (by rw[S1.out];exact dH) O1.out ?_)
 have eO:=wV PB.out (by rw[S1.out];exact dH)
 refine bodyPost_ret (v:=.agg M.toArray) ?_ rfl FF.out
 simp[results,results8,asAddr,Act.put,eO]

def CEn (f:Nat)(w:World):Prop:=∀(e:List Int) (s:Bool),e.length=225→jv e→∀(v:Value) (l:List Int) (wr:World),w.grownBy wr none→aS wr v l→rR v l→jv l→l.length*8≤140737488351232→∀r:Bool,Calls prog f #[eX e s,v,.bool r] wr (pW wr (nQ e l r) (oC e l r) (oD e l r) (nR e l r) (je e l))
def aly (W0:World)(m:List Int)(s2:Bool)(B L:List Int)(E:Int)(s7 s8 s9 s10:Value)(wx:World):Prop:=∃b,s7=.pointer (some ⟨b,0,none⟩)∧s10=.int .i64 E∧fU wx b m s2∧jw W0.heap.size wx s8 B∧gP W0.heap.size wx s9 L∧W0.heap.size≤b∧W0.grownBy wx none
theorem ag6 {v:Value}{l:List Int}(h:rR v l):v=.slice none 0 0∨∃a n c,v=.slice (some a) n c:=by
 rcases h with h|⟨a,c,h⟩
 ·exact .inl h
 exact .inr ⟨a,_,c,h⟩
theorem af7 {e l:List Int}(r:Bool):(nR e l r).length≤80:=by
 unfold nR
 split
 ·rename_i k
  rw[(Vj (show(fF e).length=101 from aR _ _ _) k.2.1 (FQ r k.2.1)).1];exact Nat.le_refl _
 exact Nat.zero_le _
theorem Hr (w:World)(pc:CEn 4 w)(rc:CEn 6 w)(pb:CBg 8 w)(rb:CBg 9 w)(e0:List Int)(s:Bool)(he:e0.length=225)(iQ:jv e0)(v:Value)(l:List Int)(hi:aS w v l)(hl:l.length*8≤140737488351232)(Xf:jv l)(hsh:rR v l)(r:Bool) :
 Calls prog 3 #[eX e0 s,v,.bool r] w fun e w'=>e=.returned (.bool true)∧Below w.heap.size w w':=by
 have M0:=Zd (fU.new w e0 s)
 have G0:=Zd (ak w (.cells (bK e0 s).toArray 31) none)
 have IN:=Zd (fun wr (q:w.grownBy wr none)=>adC v l wr (aP hi q) gA)
 have A:=Zd (fun v' wr g h sh=>pc e0 s he iQ v' l wr g h sh Xf hl r)
 have B:=Zd (fun wr g=>rc e0 s he iQ v l wr g (aP hi g) hsh Xf hl r)
 have PB:=Zd pb
 have RB:=Zd rb
 have CE:=Zd (bY he s)
 have AE:=Zd (fU.all s he)
 have ZL:=Zd (bY (au 225) false)
 have ML:=Zd (acT (l:=l) r he)
 have LL:=Zd (af7 (e:=e0) (l:=l) r)
 have hz:=jo
 clear pc rc pb rb he iQ hi Xf
 unfold eX at hz ⊢
 unfold pW eX at A B
 unfold CBg jk eX at PB RB
 generalize nQ e0 l r=m at *
 generalize oC e0 l r=s2 at *
 generalize oD e0 l r=BB at *
 generalize nR e0 l r=L at *
 generalize je e0 l=E at *
 have CM:=Zd (bY ML.out s2)
 go_enter func3,ntmps3
 go_upto_region 1 with fail
 generalize w.alloc (.cells (bK e0 s).toArray 31)=W0 at *
 go_cut [7,8,9,10]from 15 (fun s7 s8 s9 s10 wx=>aly W0 m s2 BB L E s7 s8 s9 s10 wx)
 case first=>
  refine wp_region_held_drew (S:=dM W0) (by kernel_rfl) (aZ _) (fun aj=>?_)
  refine bV (hy:=by intro w' bL;exact dD rfl rfl (M0.out.aH bL) _ underlying31 rfl dH (by rw[CE.out];omega) _ AE.out) (v:=.agg (bK e0 s).toArray) 0 aj ?_
  refine bV 1 aj ?_
  refine bV 3 aj ?_
  refine oL 2 10 (fun K hK=>?alz) fun K hK=>?alA
  case alz=>
   (try simp only[sZ])
   go_simp
   refine(IN.out _ (aB G0.out aj)).mono ?_
   rintro e Si ⟨vi,rfl,oi,ai9⟩
   have alB:=Zd ai9
   have OI:=Zd (gP.base (b':=0) (show gP _ _ vi l from oi) (Nat.zero_le _))
   clear ai9 oi
   (try unfold dI)
   (try unfold eX)
   go_wp2_with fail
   refine hK.out _ _ (bD aj alB.out) (fun aj=>?_)
   (try simp only[sZ])
   refine oL 4 10 (fun K hK=>?alC) fun K hK=>?alD
   case alC=>
    (try simp only[sZ])
    go_simp
    refine(A.out vi _ (aB G0.out aj) OI.out.ints OI.out.Iy).mono ?_
    rintro e N_ ⟨vb,vl,rfl,ob,ol,ai_⟩
    have aja:=Zd ai_
    have OB:=Zd (ob.base (b':=W0.heap.size) (World.grownBy.size aj))
    have OL:=Zd (ol.base (b':=W0.heap.size) (World.grownBy.size aj))
    clear ai_ ob ol
    (try unfold dI)
    (try unfold eX)
    go_wp2_with fail
    refine hK.out _ _ (bD aj aja.out) (fun aj=>?_)
    have OI:=Zd (OI.out.aH aja.out)
    (try simp only[sZ])
    refine bV 5 aj ?_
    refine bV 6 aj ?_
    refine bV 7 aj ?_
    refine bV 8 aj ?_
    refine bV 9 aj ?_
    refine fI 10 fun K hK=>?_
    (try simp only[sZ])
    go_simp
    go_wp2_with fail
    have HB:=Zs (W0.heap.size≤N_.heap.size) (by first|exact Nat.le_refl _|exact World.grownBy.size aj)
    refine hK.out _ _ (dX aj (.cells (bK (ay 225) false).toArray 31)) (fun aj=>?_)
    have HZ:=Zs (fU (N_.alloc (.cells (bK (ay 225) false).toArray 31)) N_.heap.size (ay 225) false) (fU.new N_ (ay 225) false)
    have OB:=Zd (OB.out.aH (ak N_ (.cells (bK (ay 225) false).toArray 31) none))
    have OL:=Zd (OL.out.aH (ak N_ (.cells (bK (ay 225) false).toArray 31) none))
    generalize N_.alloc (.cells (bK (ay 225) false).toArray 31)=alE at *
    (try simp only[sZ])
    refine fI 11 fun K hK=>?_
    (try simp only[sZ])
    refine dG rfl 31 _ _ rfl (N_.heap.size) 0 31 (bK (ay 225) false) (bK m s2) rfl rfl HZ.out (by rw[ZL.out,CM.out];omega) (by rw[CM.out];exact dH) (gu _ _) ?_
    have PU:=HZ.out.fu (m:=m) (t:=s2) (au 225) ML.out
    have OB:=Zd (OB.out.aJ PU.2 HZ.out (by decide))
    have OL:=Zd (OL.out.aJ PU.2 HZ.out (by decide))
    refine hK.out _ _ (iV aj PU.2 HB.out) (fun aj=>?_)
    (try simp only[sZ])
    refine bV 12 aj ?_
    refine bV 13 aj ?_
    refine bV 14 aj ?_
    refine lM ?_
    go_wp2_with fail
    go_meet
    exact⟨N_.heap.size,rfl,rfl,PU.1,OB.out,OL.out,HB.out,aj⟩
   case alD=>
    (try simp only[sZ])
    go_simp
    go_wp2_with fail
    have HB:=Zs (W0.heap.size≤Si.heap.size) (by first|exact Nat.le_refl _|exact World.grownBy.size aj)
    refine hK.out _ _ (dX aj (.cells (bK (ay 225) false).toArray 31)) (fun aj=>?_)
    have HZ:=Zs (fU (Si.alloc (.cells (bK (ay 225) false).toArray 31)) Si.heap.size (ay 225) false) (fU.new Si (ay 225) false)
    have OI:=Zd (OI.out.aH (ak Si (.cells (bK (ay 225) false).toArray 31) none))
    generalize Si.alloc (.cells (bK (ay 225) false).toArray 31)=alF at *
    (try simp only[sZ])
    refine fI 4 fun K hK=>?_
    (try simp only[sZ])
    go_simp
    refine(A.out vi _ (aB G0.out aj) OI.out.ints OI.out.Iy).mono ?_
    rintro e ana ⟨vb,vl,rfl,ob,ol,ag7⟩
    have ad5:=Zd ag7
    have OB:=Zd (ob.base (b':=W0.heap.size) (World.grownBy.size aj))
    have OL:=Zd (ol.base (b':=W0.heap.size) (World.grownBy.size aj))
    clear ag7 ob ol
    (try unfold dI)
    (try unfold eX)
    go_wp2_with fail
    refine hK.out _ _ (bD aj ad5.out) (fun aj=>?_)
    have OI:=Zd (OI.out.aH ad5.out)
    have HZ:=Zd (HZ.out.aH ad5.out)
    (try simp only[sZ])
    refine bV 5 aj ?_
    refine bV 6 aj ?_
    refine bV 7 aj ?_
    refine bV 8 aj ?_
    refine bV 9 aj ?_
    refine fI 11 fun K hK=>?_
    (try simp only[sZ])
    refine dG rfl 31 _ _ rfl (Si.heap.size) 0 31 (bK (ay 225) false) (bK m s2) rfl rfl HZ.out (by rw[ZL.out,CM.out];omega) (by rw[CM.out];exact dH) (gu _ _) ?_
    have PU:=HZ.out.fu (m:=m) (t:=s2) (au 225) ML.out
    have OB:=Zd (OB.out.aJ PU.2 HZ.out (by decide))
    have OL:=Zd (OL.out.aJ PU.2 HZ.out (by decide))
    refine hK.out _ _ (iV aj PU.2 HB.out) (fun aj=>?_)
    (try simp only[sZ])
    refine bV 12 aj ?_
    refine bV 13 aj ?_
    refine bV 14 aj ?_
    refine lM ?_
    go_wp2_with fail
    go_meet
    exact⟨Si.heap.size,rfl,rfl,PU.1,OB.out,OL.out,HB.out,aj⟩
  case alA=>
   (try simp only[sZ])
   go_simp
   go_wp2_with fail
   have HB:=Zs (W0.heap.size≤W0.heap.size) (by first|exact Nat.le_refl _|exact World.grownBy.size aj)
   refine hK.out _ _ (dX aj (.cells (bK (ay 225) false).toArray 31)) (fun aj=>?_)
   have HZ:=Zs (fU ((W0.alloc (.cells (bK (ay 225) false).toArray 31)).drew) W0.heap.size (ay 225) false) (fU.new W0.drew (ay 225) false)
   generalize (W0.alloc (.cells (bK (ay 225) false).toArray 31)).drew=alG at *
   (try simp only[sZ])
   refine fI 2 fun K hK=>?_
   (try simp only[sZ])
   go_simp
   refine(IN.out _ (aB G0.out aj)).mono ?_
   rintro e anb ⟨vi,rfl,oi,ag8⟩
   have ag9:=Zd ag8
   have OI:=Zd (gP.base (b':=0) (show gP _ _ vi l from oi) (Nat.zero_le _))
   clear ag8 oi
   (try unfold dI)
   (try unfold eX)
   go_wp2_with fail
   refine hK.out _ _ (bD aj ag9.out) (fun aj=>?_)
   have HZ:=Zd (HZ.out.aH ag9.out)
   (try simp only[sZ])
   refine fI 4 fun K hK=>?_
   (try simp only[sZ])
   go_simp
   refine(A.out vi _ (aB G0.out aj) OI.out.ints OI.out.Iy).mono ?_
   rintro e ane ⟨vb,vl,rfl,ob,ol,ag_⟩
   have ad6:=Zd ag_
   have OB:=Zd (ob.base (b':=W0.heap.size) (World.grownBy.size aj))
   have OL:=Zd (ol.base (b':=W0.heap.size) (World.grownBy.size aj))
   clear ag_ ob ol
   (try unfold dI)
   (try unfold eX)
   go_wp2_with fail
   refine hK.out _ _ (bD aj ad6.out) (fun aj=>?_)
   have HZ:=Zd (HZ.out.aH ad6.out)
   have OI:=Zd (OI.out.aH ad6.out)
   (try simp only[sZ])
   refine bV 5 aj ?_
   refine bV 6 aj ?_
   refine bV 7 aj ?_
   refine bV 8 aj ?_
   refine bV 9 aj ?_
   refine fI 11 fun K hK=>?_
   (try simp only[sZ])
   refine dG rfl 31 _ _ rfl (W0.heap.size) 0 31 (bK (ay 225) false) (bK m s2) rfl rfl HZ.out (by rw[ZL.out,CM.out];omega) (by rw[CM.out];exact dH) (gu _ _) ?_
   have PU:=HZ.out.fu (m:=m) (t:=s2) (au 225) ML.out
   have OB:=Zd (OB.out.aJ PU.2 HZ.out (by decide))
   have OL:=Zd (OL.out.aJ PU.2 HZ.out (by decide))
   refine hK.out _ _ (iV aj PU.2 HB.out) (fun aj=>?_)
   (try simp only[sZ])
   refine bV 12 aj ?_
   refine bV 13 aj ?_
   refine bV 14 aj ?_
   refine lM ?_
   go_wp2_with fail
   go_meet
   exact⟨W0.heap.size,rfl,rfl,PU.1,OB.out,OL.out,HB.out,aj⟩
 case rest=>
 obtain⟨b1,rfl,rfl,v1b,ob1,ol1,hb1,g1⟩:=hcut
 have M1:=Zd (M0.out.aH g1)
 have G1:=Zd (aB G0.out g1)
 have V1:=Zd v1b
 have O1:=Zd ol1
 have Y1:=Zd ob1
 clear v1b ol1 ob1 g1 hb1 G0 A IN
 go_wp2_with (first|refine lV 0 M1.out dH (by rw[CE.out];omega) AE.out ?_)
 refine(B.out _ G1.out).mono ?_
 rintro x W3 ⟨vb,vl,rfl,ob3,ol3,g3⟩
 have FB:=Zd (aa5 W3 m s2 ML.out)
 have GA:=Zd (aB g3 FB.out.2.2)
 have G3:=Zd (aB G1.out GA.out)
 have V1':=Zd (V1.out.aH GA.out)
 have O1':=Zd (O1.out.aH GA.out)
 have Y1':=Zd (Y1.out.aH GA.out)
 have O3:=Zd (ol3.aH FB.out.2.2)
 have Y3:=Zd (ob3.aH FB.out.2.2)
 clear B ol3 ob3 g3 G1
 go_upto_region 3 with(first|refine sV 0 (bK m s2) FB.out.1 (by rw[ZL.out,CM.out];omega) (by rw[CM.out];exact dH) (gu _ _) ?_)
 (try simp only[Act.put])
 have V3:=Zd FB.out.2.1
 clear hz
 generalize dQ (W3.alloc (.cells (bK (ay 225) false).toArray 31)) W3.heap.size 0 (bK m s2)=W4 at *
 generalize W3.heap.size=b3 at *
 have AM:=Zd (fU.all s2 ML.out)
 have SM:=Zd (Np _ _ L L W4 O1'.out.ints O3.out.ints (by have:=LL.out;omega) (by have:=LL.out;omega))
 rw[show decide (L=L)=true from decide_eq_true rfl]at SM
 have EM:=Zd (fun ops rest o a w Q hgd x y ho hx hy k=>@yg ops rest o a w Q hgd x y ho m s2 ML.out hx hy k)
 have EB:=Zd (fun ops rest o a w Q hgd x y ho hx hy k=>@yg ops rest o a w Q hgd x y ho uw false wI hx hy k)
 unfold eX at EM EB
 have hEE:(E==E)=true:=by simp
 have c1:=K5 Y1'.out.aaF (ag6 Y1'.out.Iy)
 have c3:=K5 Y3.out.aaF (ag6 Y3.out.Iy)
 generalize strOfNums BB=SS at *
 go_wp2_with (first|refine EM.out _ _ _ _ _ _ (by rfl) _ _ rfl rfl rfl ?_|refine lV 0 V1'.out dH (by rw[CM.out];omega) AM.out ?_|refine lV 0 V3.out dH (by rw[CM.out];omega) AM.out ?_)
 refine SM.out.mono ?_
 rintro x W8 ⟨rfl,n,rfl⟩
 have G8:=Zd (aB G3.out (dR W4 n none))
 clear SM c1 c3
 go_wp2_with fail
 refine(PB.out _ G8.out).mono ?_
 rintro x W9 ⟨rfl,g9⟩
 have G9:=Zd (aB G8.out g9)
 clear g9 PB G8
 go_wp2_with fail
 refine(RB.out _ G9.out).mono ?_
 rintro x W10 ⟨rfl,g10⟩
 have G10:=Zd (aB G9.out g10)
 clear g10 RB G9
 go_wp2_with (first|refine EB.out _ _ _ _ _ _ (by rfl) _ _ rfl rfl rfl ?_)
 go_ret
 exact⟨rfl,Ec G10.out⟩
theorem ah6 {W:World}(t0:TabA W 5 gro 15)(t1:TabA W 3 widq 8)(t2:TabA W 2 gains 8):CEn 4 W:=
 fun e s he iQ v l wr g hi sh Xf hsz r=>JI wr e s he v l hi gA r (adD (gF t1 g)) (gF t1 g) (gF t2 g) (aaT (gF t0 g))
theorem ah7 (W:World):CBg 8 W:=fun wr g=>N9 wr
theorem af8 (x:Int)(h0:-9223372036854775808≤x)(h1:x≤9223372036854775807):(0≤wrap64 (x-20)∧wrap64 (x-20)≤59)↔(20≤x∧x≤79):=by
 simp only[wrap64]
 omega
theorem uD (x m:Int)(h:0≤x∧x≤m)(w:World):Calls prog 47 #[.int .i64 x,.int .i64 m] w fun e w'=>e=.returned (.bool true)∧w'=w:=by
 obtain⟨h1,h2⟩:=h
 go_enter func47,ntmps47
 go_wp2
 go_ret
 exact⟨rfl,rfl⟩
theorem wJ (x m:Int)(h:¬(0≤x∧x≤m))(w:World):Calls prog 47 #[.int .i64 x,.int .i64 m] w fun e w'=>e=.returned (.bool false)∧w'=w:=by
 by_cases h1:0≤x
 ·have h2:¬x≤m:=gA
  clear h
  go_enter func47,ntmps47
  go_wp2
  go_ret
  exact⟨rfl,rfl⟩
 clear h
 go_enter func47,ntmps47
 go_wp2
 go_ret
 exact⟨rfl,rfl⟩
theorem lI (l:List Int)(s:Bool)(hl:l.length=101)(iQ:jv l)(w:World):Calls prog 15 #[dI l s] w (jk w (.bool (cO l))):=by
 have B0:=Zd (dA.new w l s)
 have G0:=Zd (ak w (.cells (aU l s).toArray 29) none)
 have HL:=Zd hl
 have DY:=Zd iQ
 have PT:=Zd (mX l)
 have RI:=Zd (wW l)
 obtain⟨T,hT⟩:∃T:Ending→World→Prop,jk w (.bool (cO l))=T:=⟨_,rfl⟩
 rw[hT]
 have FN:=Zd (fun(h:¬cO l=true) w' (g:w.grownBy w' none)=>(show T (.returned (.bool false)) w' from by rw[←hT];exact⟨by rw[show cO l=false by simpa using h],g⟩))
 have FY:=Zd (fun(h:cO l=true) w' (g:w.grownBy w' none)=>(show T (.returned (.bool true)) w' from by rw[←hT];exact⟨by rw[h],g⟩))
 clear hT hl iQ
 unfold dI
 have IX:=Zd (fun(m:Nat) (hm:m<8) (u:World)=>fQ (T:=26) (bP l 0 8) underlying26 m (by rw[aR];omega) (aR _ _ _) u)
 generalize hcs:aU l s=cs at *
 have HCS:=Zd hcs
 clear hcs
 go_enter func15,ntmps15
 go_upto_region 1 with fail
 generalize w.alloc (.cells cs.toArray 29)=W0 at *
 have P8:=Zs ((cs.drop 0).take 8=aO (bP l 0 8)) (by rw[←HCS.out];exact dA.part s 0 8 (by rw[HL.out];omega))
 have CL:=Zs (cs.length=102) (by rw[←HCS.out];exact aX HL.out s)
 have BV:=Zs (dP W0 w.heap.size 29 cs) (by rw[←HCS.out];exact B0.out)
 go_wp2_with (refine lV 0 BV.out dV (by rw[CL.out];omega) P8.out ?_)
 rw[show Value.agg (aO (bP l 0 8)).toArray=.agg (aD (bP l 0 8))from rfl]
 generalize Value.agg (aD (bP l 0 8))=AV at *
 go_loopw [8] (fun i wr=>∃m:Nat,i=.int .i64 (m:Int)∧m≤8∧Hid (∀j,j<m→-31000≤aC l j∧aC l j≤31000)∧wr=W0) (fun i _=>8-(intOf i).toNat)
 case atStart=>exact⟨0,rfl,Nat.zero_le _,fun j hj=>gA,rfl⟩
 case round=>
  obtain⟨m,rfl,hm,hA,rfl⟩:=hrel
  by_cases vD:m<8
  ·have i1:(m:Int)<8:=gA
   have ix:=IX.out m vD
   rw[fV _ _ _ _ vD,Nat.zero_add]at ix
   have NO:=Zd (fun(h:¬(-31000≤aC l m∧aC l m≤31000))=>(show ¬cO l=true from fun q=>h ((RI.out.1 (PT.out.1 q).1) m vD)))
   have YES:=Zd (fun(h:-31000≤aC l m∧aC l m≤31000)=>(show ∀j,j<m+1→-31000≤aC l j∧aC l j≤31000 from fun j hj=>by
    by_cases e:j=m
    ·subst e;exact h
    exact hA.out j gA))
   clear hA
   generalize aC l m=x at *
   by_cases hx:31000<x
   ·have F:=Zd (FN.out (NO.out gA) _ G0.out)
    go_wp2_with fail
    exact F.out
   by_cases hy:x < -31000
   ·have F:=Zd (FN.out (NO.out gA) _ G0.out)
    go_wp2_with fail
    exact F.out
   have NA:=Zd (YES.out gA)
   go_wp2_with fail
   go_roundw
   case rel=>exact⟨m+1,by go_num,gA,NA.out,trivial⟩
   case measure=>first|(simp[intOf];done)|(simp[intOf];omega)
  obtain rfl:m=8:=gA
  rw[show((8:Nat):Int)=8 from rfl]
  have RB:=Zd (RI.out.2 hA.out)
  clear hA
  have c98:=B0.out.cell 98 (by rw[HL.out];omega)
  have aaf:=B0.out.cell 100 (by rw[HL.out];omega)
  have c96:=B0.out.cell 96 (by rw[HL.out];omega)
  have c97:=B0.out.cell 97 (by rw[HL.out];omega)
  have c99:=B0.out.cell 99 (by rw[HL.out];omega)
  have IP:=Zd (B0.out.ints 8 8 8 (by rw[HL.out];omega) gA)
  have IE:=Zd (B0.out.ints 16 80 80 (by rw[HL.out];omega) gA)
  have LG:=Zd (af8 (aC l 98) (DY.out 98).1 (DY.out 98).2)
  go_wp2_with fail
  refine(bM _ (bP l 8 8) _ IP.out (by rw[aR];omega)).mono ?_
  rintro e w0 ⟨rfl,rfl⟩
  rcases hb0:aL (bP l 8 8)with _|_
  ·have F:=Zd (FN.out (fun q=>by have:=(PT.out.1 q).2.1;rw[hb0]at this;cases this) _ G0.out)
   go_wp2_with fail
   exact F.out
  go_wp2_with fail
  refine(bM _ (bP l 16 80) _ IE.out (by rw[aR];omega)).mono ?_
  rintro e w1 ⟨rfl,rfl⟩
  rcases hb1:aL (bP l 16 80)with _|_
  ·have F:=Zd (FN.out (fun q=>by have:=(PT.out.1 q).2.2.1;rw[hb1]at this;cases this) _ G0.out)
   go_wp2_with fail
   exact F.out
  go_wp2_with fail
  by_cases hb2:0≤wrap64 (aC l 98-20)∧wrap64 (aC l 98-20)≤59
  rotate_left
  ·refine(wJ _ _ hb2 _).mono ?_
   rintro e w2 ⟨rfl,rfl⟩
   have F:=Zd (FN.out (fun q=>hb2 (LG.out.2 (PT.out.1 q).2.2.2.2.2.1)) _ G0.out)
   go_wp2_with fail
   exact F.out
  refine(uD _ _ hb2 _).mono ?_
  rintro e w2 ⟨rfl,rfl⟩
  go_wp2_with fail
  by_cases hb3:0≤aC l 100∧aC l 100≤65535
  rotate_left
  ·refine(wJ _ _ hb3 _).mono ?_
   rintro e w3 ⟨rfl,rfl⟩
   have F:=Zd (FN.out (fun q=>hb3 (PT.out.1 q).2.2.2.2.2.2.2) _ G0.out)
   go_wp2_with fail
   exact F.out
  refine(uD _ _ hb3 _).mono ?_
  rintro e w3 ⟨rfl,rfl⟩
  go_wp2_with fail
  by_cases hb4:0≤aC l 96∧aC l 96≤32767
  rotate_left
  ·refine(wJ _ _ hb4 _).mono ?_
   rintro e w4 ⟨rfl,rfl⟩
   have F:=Zd (FN.out (fun q=>hb4 (PT.out.1 q).2.2.2.1) _ G0.out)
   go_wp2_with fail
   exact F.out
  refine(uD _ _ hb4 _).mono ?_
  rintro e w4 ⟨rfl,rfl⟩
  go_wp2_with fail
  by_cases hb5:0≤aC l 97∧aC l 97≤18022
  rotate_left
  ·refine(wJ _ _ hb5 _).mono ?_
   rintro e w5 ⟨rfl,rfl⟩
   have F:=Zd (FN.out (fun q=>hb5 (PT.out.1 q).2.2.2.2.1) _ G0.out)
   go_wp2_with fail
   exact F.out
  refine(uD _ _ hb5 _).mono ?_
  rintro e w5 ⟨rfl,rfl⟩
  go_wp2_with fail
  by_cases hb6:0≤aC l 99∧aC l 99≤6
  rotate_left
  ·refine(wJ _ _ hb6 _).mono ?_
   rintro e w6 ⟨rfl,rfl⟩
   have F:=Zd (FN.out (fun q=>hb6 (PT.out.1 q).2.2.2.2.2.2.1) _ G0.out)
   go_wp2_with fail
   exact F.out
  refine(uD _ _ hb6 _).mono ?_
  rintro e w6 ⟨rfl,rfl⟩
  have F:=Zd (FY.out (PT.out.2 ⟨RB.out,hb0,hb1,hb4,hb5,LG.out.1 hb2,hb6,hb3⟩) _ G0.out)
  go_wp2_with fail
  exact F.out
theorem Dk (w:World):Sem.run prog (Instr.build 29 #[(5,.int .i64 20),(7,.int .i64 21845)]) w=.ok (dI iL false) w:=by kernel_rfl
theorem yQ {ops:Array Oper}{rest:List Oper}{op:Oper}{a:Act}{w:World}{Q:Exit→Act→World→Prop}(hgd:op.guard=none)(x y:Operand)(ho:op.op=.build 29 #[(5,x),(7,y)])(hx:a.eval x=.int .i64 20)(hy:a.eval y=.int .i64 21845)
 (k:wpList prog ops Q rest (a.put op.dst (dI iL false)) w):wpList prog ops Q (op::rest) a w:=by
 refine wpList_plain hgd fun _ hK=>?_
 unfold Oper.wp execOp
 have e:(#[(5,x),(7,y)]:Array (Nat×Operand)).map (fun(i,x)=>(i,a.eval x))=#[(5,.int .i64 20),(7,.int .i64 21845)]:=by simp[hx,hy]
 simp only[ho,e,Sem.run_bind,Dk,Result.andThen_ok,Sem.run_pure]
 exact hK _ _ k
theorem qx (w:World):Calls prog 21 #[] w (jk w (dI iL false)):=by
 have B0:=Zd (dA.new w (ay 101) false)
 have PU:=B0.out.fu (m:=iL) (t:=false) (au 101) jH
 have PB:=Zd PU.1
 have PG:=Zd (aG (ak w (.cells (aU (ay 101) false).toArray 29) none) PU.2 (Nat.le_refl _))
 have S1:=Zs ((aU iL false).length=102) (aX jH false)
 have S0:=Zs ((aU (ay 101) false).length=102) (aX (au 101) false)
 have O1:=Zd (dY iL false)
 have hz:=gV
 have F:=Zs (jk w (dI iL false) (.returned (dI iL false)) (dQ (w.alloc (.cells (aU (ay 101) false).toArray 29)) w.heap.size 0 (aU iL false))) (⟨rfl,PG.out⟩)
 clear PU
 generalize jk w (dI iL false)=T at *
 have BF:=Zd (fun ops rest op a w Q=>@yQ ops rest op a w Q)
 unfold dI at hz F BF
 unfold dA at B0 PB
 generalize aU (ay 101) false=Z at *
 generalize aU iL false=M at *
 go_enter func21,ntmps21
 go_wp2_with (first|refine BF.out _ _ _ _ _ _ rfl _ _ rfl rfl rfl ?_|refine sV 0 M B0.out (by rw[S0.out,S1.out];omega) (by rw[S1.out];exact aY) O1.out ?_)
 have eO:=wV PB.out (by rw[S1.out];exact aY)
 refine bodyPost_ret (v:=.agg M.toArray) ?_ rfl F.out
 simp[results,results21,asAddr,Act.put,eO]
def ad7 (w wr:World)(x0 x1 y0 y1:Int)(xs:List Int)(gx:Nat):Prop:=
 wr.heap[w.heap.size]?=some (.cells #[.int .i64 x0,.int .i64 x1,.int .i64 y0,.int .i64 y1] 24 (0,0))∧
 wr.heap[w.heap.size+1]?=some (.cells #[.int .i64 0,.int .i64 0,.int .i64 0,.int .i64 0] 24 (0,0))∧
 (∀j,j<xs.length→wr.cell? ⟨gx,j,none⟩=some (.int .i64 (aC xs j)))∧w.grownBy wr none
theorem ad8 {w w2:World}{x0 x1 y0 y1:Int}{l:List Int}{v':Value}
 (h0:((w.alloc (.cells #[.int .i64 x0,.int .i64 x1,.int .i64 y0,.int .i64 y1] 24)).alloc (.cells #[.int .i64 0,.int .i64 0,.int .i64 0,.int .i64 0] 24)).heap[w.heap.size]?=some (.cells #[.int .i64 x0,.int .i64 x1,.int .i64 y0,.int .i64 y1] 24 (0,0)))
 (ho:w2.ownsRow (w.heap.size+1+1) 3 1 v' (2+l.length) ([.int .i64 x1,.int .i64 x0]++l.map (Value.int .i64)))
 (g:(((w.alloc (.cells #[.int .i64 x0,.int .i64 x1,.int .i64 y0,.int .i64 y1] 24)).alloc (.cells #[.int .i64 0,.int .i64 0,.int .i64 0,.int .i64 0] 24)).alloc (.cells #[.int .i64 x1,.int .i64 x0] 3)).grownBy w2 (some (w.heap.size+1+1))) :
 ∃gx cx,v'=.slice (some ⟨gx,0,none⟩) (2+l.length) cx∧(2+l.length≤cx∧gx<w2.heap.size)∧ad7 w w2 x0 x1 y0 y1 ([x1,x0]++l) gx:=by
 obtain⟨h1,h2⟩:=ho
 rcases h2 with⟨h2,h3⟩|⟨gx,cx,cur,h2,h3,h4,h5,h6,h7,h8⟩
 ·omega
 refine⟨gx,cx,h2,⟨h5,aN h4⟩,?_,?_,fun j hj=>?_,?_⟩
 ·have ga:=ak ((w.alloc (.cells #[.int .i64 x0,.int .i64 x1,.int .i64 y0,.int .i64 y1] 24)).alloc (.cells #[.int .i64 0,.int .i64 0,.int .i64 0,.int .i64 0] 24)) (.cells #[.int .i64 x1,.int .i64 x0] 3) none
  rw[g.block _ (by simp;omega) (by simp;omega),ga.block _ (aN h0) (by simp)]
  exact h0
 ·have h9:=cK (w.alloc (.cells #[.int .i64 x0,.int .i64 x1,.int .i64 y0,.int .i64 y1] 24)) (.cells #[.int .i64 0,.int .i64 0,.int .i64 0,.int .i64 0] 24)
  rw[show(w.alloc (.cells #[.int .i64 x0,.int .i64 x1,.int .i64 y0,.int .i64 y1] 24)).heap.size=w.heap.size+1 by simp]at h9
  have ga:=ak ((w.alloc (.cells #[.int .i64 x0,.int .i64 x1,.int .i64 y0,.int .i64 y1] 24)).alloc (.cells #[.int .i64 0,.int .i64 0,.int .i64 0,.int .i64 0] 24)) (.cells #[.int .i64 x1,.int .i64 x0] 3) none
  rw[g.block _ (by simp) (by simp),ga.block _ (aN h9) (by simp)]
  exact h9
 ·have e:(cur.toList.take ((2+l.length)*1))[j]?=([.int .i64 x1,.int .i64 x0]++l.map (Value.int .i64))[j]?:=by rw[h8]
  have hj':j<2+l.length:=by simp at hj;omega
  rw[List.getElem?_take,if_pos gA,Array.getElem?_toList]at e
  rw[aI h4,e]
  have e2:([Value.int .i64 x1,.int .i64 x0]++l.map (Value.int .i64))=([x1,x0]++l).map (Value.int .i64):=by simp
  rw[e2,List.getElem?_map]
  have hj2:j<([x1,x0]++l).length:=hj
  rw[List.getElem?_eq_getElem hj2]
  simp only[Option.map_some,aC,List.getD,List.getElem?_eq_getElem hj2,Option.getD_some]
 exact aG (aB (aB (ak _ _ none) (ak _ _ none)) (ak _ _ none)) g gA
def HiC (w wr:World)(x0 x1 y0 y1:Int)(xs:List Int)(gx iP k gy cy:Nat):Prop:=
 ad7 w wr x0 x1 y0 y1 xs gx∧wr.ownsRow iP 3 1 (.slice (some ⟨gy,0,none⟩) (k+2) cy) (k+2) ((j5 xs [y1,y0] k).map (Value.int .i64))
theorem Sj {w w2:World}{x0 x1 y0 y1:Int}{xs:List Int}{gx:Nat}(h:ad7 w w2 x0 x1 y0 y1 xs gx)(hg:gx<w2.heap.size):HiC w (w2.alloc (.cells #[.int .i64 y1,.int .i64 y0] 3)) x0 x1 y0 y1 xs gx w2.heap.size 0 w2.heap.size 2:=by
 have g:=ak w2 (.cells #[.int .i64 y1,.int .i64 y0] 3) none
 refine⟨⟨by rw[g.block _ (aN h.1) (by simp)];exact h.1,by rw[g.block _ (aN h.2.1) (by simp)];exact h.2.1,fun j hj=>bA g (h.2.2.1 j hj),aB h.2.2.2 g⟩,World.ownsRow_lit w2 #[.int .i64 y1,.int .i64 y0] 2 (Nat.le_refl _) (by decide) rfl⟩
theorem rD {w wr:World}{x0 x1 y0 y1:Int}{xs:List Int}{gx b k gy cy:Nat}(h:HiC w wr x0 x1 y0 y1 xs gx b k gy cy)(j:Nat)(hj:j<k+2):wr.cell? ⟨gy,j,none⟩=some (.int .i64 (aC (j5 xs [y1,y0] k) j)):=by
 have:=World.ownsRow.cellAt h.2 j gA
 have hl:=rO xs y0 y1 k
 rw[this,List.getElem?_map]
 simp[aC,List.getD,hl,hj]
theorem Zi {w wr wr':World}{x0 x1 y0 y1:Int}{xs:List Int}{gx b k gy cy:Nat}(h:HiC w wr x0 x1 y0 y1 xs gx b k gy cy)(g:wr.grownBy wr' none):HiC w wr' x0 x1 y0 y1 xs gx b k gy cy:=
 ⟨⟨by rw[g.block _ (aN h.1.1) (by simp)];exact h.1.1,by rw[g.block _ (aN h.1.2.1) (by simp)];exact h.1.2.1,fun j hj=>bA g (h.1.2.2.1 j hj),aB h.1.2.2.2 g⟩,h.2.kept g (.inr (by simp[Value.ownBlock]))⟩
theorem af9 {w w4 w5:World}{x0 x1 y0 y1:Int}{xs:List Int}{gx b k gy cy:Nat}{v5:Value}{Z z:Int}(h:HiC w w4 x0 x1 y0 y1 xs gx b k gy cy)(hw:w.heap.size+1<b)(hg:gx<b)(hE:j5 xs [y1,y0] (k+1)=j5 xs [y1,y0] k++[z])(hz:z=Z)
 (h5:w5.ownsRow b 3 1 v5 (k+2+1) ((j5 xs [y1,y0] k).map (Value.int .i64)++[.int .i64 Z])) (g5:(w4.alloc (.cells #[.int .i64 Z] 3)).grownBy w5 (some gy)) :
 ∃gz cz,v5=.slice (some ⟨gz,0,none⟩) (k+1+2) cz∧k+1+2≤cz∧HiC w w5 x0 x1 y0 y1 xs gx b (k+1) gz cz:=by
 have hgy:=(h.2.lt gy rfl).1
 have ga:=ak w4 (.cells #[.int .i64 Z] 3) none
 have e:(j5 xs [y1,y0] k).map (Value.int .i64)++[.int .i64 Z]=(j5 xs [y1,y0] (k+1)).map (Value.int .i64):=by rw[hE,hz];simp
 rw[e]at h5
 have aH:∀a v,a.block<b→w4.cell? a=some v→w5.cell? a=some v:=fun a v hb hc=>by
  have h1:=bA ga hc
  have hs:a.block<w4.heap.size:=by have:=(h.2.lt gy rfl).2;omega
  rw[World.cell?_of_block (w:=w4.alloc (.cells #[.int .i64 Z] 3)) (g5.block a.block (by simp;omega) (by simp;omega))]
  exact h1
 have blk:∀c o,c<b→w4.heap[c]?=some o→w5.heap[c]?=some o:=fun c o hc ho=>by
  rw[g5.block c (by have:=aN ho;simp;omega) (by simp;omega),ga.block c (aN ho) (by simp)];exact ho
 have M:ad7 w w5 x0 x1 y0 y1 xs gx:=⟨blk _ _ gA h.1.1,blk _ _ gA h.1.2.1,fun j hj=>aH _ _ hg (h.1.2.2.1 j hj),aG (aB h.1.2.2.2 ga) g5 gA⟩
 obtain⟨l1,l2⟩:=id h5
 rcases l2 with⟨l2,l3⟩|⟨gz,cz,cur,l2,l3,l4,l5,l6,l7,l8⟩
 ·omega
 subst l2
 refine⟨gz,cz,by rw[show k+2+1=k+1+2 by omega],gA,M,?_⟩
 rw[show k+2+1=k+1+2 by omega]at h5
 exact h5
def Ht (w:World)(x0 x1 y0 y1:Int)(l:List Int)(e:Ending)(w':World):Prop:=
 ∃v',e=.returned (.tuple #[v',.agg #[.int .i64 (aC ([x1,x0]++l) (l.length+1)),.int .i64 (aC ([x1,x0]++l) l.length),.int .i64 (aC (j5 ([x1,x0]++l) [y1,y0] l.length) (l.length+1)),.int .i64 (aC (j5 ([x1,x0]++l) [y1,y0] l.length) l.length)],.int .i64 0])∧
  aS w' v' ((j5 ([x1,x0]++l) [y1,y0] l.length).drop 2)∧w.grownBy w' none
theorem Sk {w wr:World}{x0 x1 y0 y1:Int}{xs:List Int}{gx b k gy cy:Nat}(h:HiC w wr x0 x1 y0 y1 xs gx b k gy cy)(hw:w.heap.size+1<b)(p q s t:Int)(W:World)
 (hW:W=((((wr.setCell ⟨w.heap.size+1,0,none⟩ (.int .i64 p)).setCell ⟨w.heap.size+1,1,none⟩ (.int .i64 q)).setCell ⟨w.heap.size+1,2,none⟩ (.int .i64 s)).setCell ⟨w.heap.size+1,3,none⟩ (.int .i64 t)).drew) :
 W.cell? ⟨w.heap.size+1,0,none⟩=some (.int .i64 p)∧W.cell? ⟨w.heap.size+1,1,none⟩=some (.int .i64 q)∧W.cell? ⟨w.heap.size+1,2,none⟩=some (.int .i64 s)∧W.cell? ⟨w.heap.size+1,3,none⟩=some (.int .i64 t)∧w.grownBy W none∧
  ∀o c,(o=0∧cy=2)∨(o=2∧c=cy-2)→aS W (.slice (some ⟨gy,o,none⟩) k (cy-2)) ((j5 xs [y1,y0] k).drop 2):=by
 have hgy:=h.2.lt gy rfl
 have k0:=heap_setCell (k:=0) h.1.2.1 (.int .i64 p)
 have k1:=heap_setCell (k:=1) k0 (.int .i64 q)
 have k2:=heap_setCell (k:=2) k1 (.int .i64 s)
 have k3:=heap_setCell (k:=3) k2 (.int .i64 t)
 have g0:=aF wr ⟨w.heap.size+1,0,none⟩ (.int .i64 p)
 have g1:=aF (wr.setCell ⟨w.heap.size+1,0,none⟩ (.int .i64 p)) ⟨w.heap.size+1,1,none⟩ (.int .i64 q)
 have g2:=aF ((wr.setCell ⟨w.heap.size+1,0,none⟩ (.int .i64 p)).setCell ⟨w.heap.size+1,1,none⟩ (.int .i64 q)) ⟨w.heap.size+1,2,none⟩ (.int .i64 s)
 have g3:=aF (((wr.setCell ⟨w.heap.size+1,0,none⟩ (.int .i64 p)).setCell ⟨w.heap.size+1,1,none⟩ (.int .i64 q)).setCell ⟨w.heap.size+1,2,none⟩ (.int .i64 s)) ⟨w.heap.size+1,3,none⟩ (.int .i64 t)
 have e4:((((#[Value.int .i64 0,.int .i64 0,.int .i64 0,.int .i64 0].setIfInBounds 0 (.int .i64 p)).setIfInBounds 1 (.int .i64 q)).setIfInBounds 2 (.int .i64 s)).setIfInBounds 3 (.int .i64 t))=#[.int .i64 p,.int .i64 q,.int .i64 s,.int .i64 t]:=rfl
 rw[e4]at k3
 have k4:W.heap[w.heap.size+1]?=some (.cells #[.int .i64 p,.int .i64 q,.int .i64 s,.int .i64 t] 24 (0,0)):=by rw[hW];exact k3
 have acG:wr.grownBy W (some (w.heap.size+1)):=by
  rw[hW]
  exact bW (dB (dB (dB g0 g1 _ (fun i e _=>e) (fun i e _=>e)) g2 _ (fun i e _=>e) (fun i e _=>e)) g3 _ (fun i e _=>e) (fun i e _=>e))
 have hcap:k+2≤cy:=by
  rcases h.2.2 with⟨e,_⟩|⟨g',c',cur,e,_,_,e2,_⟩
  ·cases e
  cases e;exact e2
 have hl:=rO xs y0 y1 k
 clear k0 k1 k2 k3 g0 g1 g2 g3 e4 hW
 refine⟨(aI k4 0),(aI k4 1),(aI k4 2),(aI k4 3),aG h.1.2.2.2 acG gA,fun o c ho=>?_⟩
 have hd:((j5 xs [y1,y0] k).drop 2).length=k:=by rw[List.length_drop,hl];omega
 refine⟨some ⟨gy,o,none⟩,cy-2,by rw[hd],by rw[hd];omega,fun hpos=>⟨_,rfl,fun i hi=>?_⟩⟩
 rw[hd]at hi hpos
 rcases ho with⟨rfl,rfl⟩|⟨rfl,rfl⟩
 ·omega
 have ea:(⟨gy,2,none⟩:Addr).add i=⟨gy,2+i,none⟩:=by unfold Addr.add;split<;>simp_all
 have c:=rD h (2+i) gA
 rw[ea,World.cell?_of_block (w:=wr) (acG.block gy hgy.2 (by simp;omega)),c]
 have:aC ((j5 xs [y1,y0] k).drop 2) i=aC (j5 xs [y1,y0] k) (2+i):=by simp[aC,List.getD]
 rw[this]
theorem Oa (x0 x1 y0 y1:Int)(v:Value)(l:List Int)(w:World)(had:∃a n c,v=.slice (some a) n c)(h:aS w v l)(hl:l.length*8≤140737488351232)(hr:aL l=true)(hx:aL [x0,x1]=true)(hy:aL [y0,y1]=true) :
 Calls prog 16 #[.agg #[.int .i64 x0,.int .i64 x1,.int .i64 y0,.int .i64 y1],v] w (Ht w x0 x1 y0 y1 l):=by
 have HI:=Zd h
 have RB:=Zd (bM v l)
 rw[hr]at RB
 obtain⟨ad,c,rfl,hc,bH⟩:=h
 obtain⟨i0,hi,hz0,hz1,hz2⟩:=info_parts nE
 rcases ad with _|a
 ·obtain⟨_,_,_,e⟩:=had;cases e
 clear had
 have hnews:Hid (∀w',w.grownBy w' none→∀j u,(l.map (Value.int .i64))[j]?=some u→w'.cell? (a.add j)=some u):=by
  intro w' g j u h
  have hj:j<l.length:=by
   by_cases hj:j<l.length
   ·exact hj
   rw[List.getElem?_eq_none (by simp;omega)]at h;cases h
  obtain⟨a',e,hv⟩:=bH gA
  cases e
  rw[bA g (hv j hj)]
  simpa [aC,List.getD,hj] using h
 have hone:Hid (∀u∈l.map (Value.int .i64),u.oneCell'=true):=by
  intro u hu
  obtain⟨x,_,rfl⟩:=List.mem_map.1 hu
  rfl
 clear bH
 go_enter func16,ntmps16
 go_wp2_with fail
 refine(RB.out _ (aP HI.out (aB (ak _ _ none) (ak _ _ none))) gA).mono ?_
 rintro e w1 ⟨rfl,rfl⟩
 have h0:((w.alloc (.cells #[.int .i64 x0,.int .i64 x1,.int .i64 y0,.int .i64 y1] 24)).alloc (.cells #[.int .i64 0,.int .i64 0,.int .i64 0,.int .i64 0] 24)).heap[w.heap.size]?=some (.cells #[.int .i64 x0,.int .i64 x1,.int .i64 y0,.int .i64 y1] 24 (0,0)):=kH (ak _ _ none)
 have RX:=Zd (bM (.slice (some ⟨w.heap.size,0,none⟩) 2 2) [x0,x1] _ (gL h0 0 x0 x1 rfl rfl) (by simp))
 have RY:=Zd (bM (.slice (some ⟨w.heap.size,2,none⟩) 2 2) [y0,y1] _ (gL h0 2 y0 y1 rfl rfl) (by simp))
 rw[hx]at RX
 rw[hy]at RY
 go_wp2_with fail
 refine RX.out.mono ?_
 rintro e w1 ⟨rfl,rfl⟩
 go_wp2_with fail
 refine RY.out.mono ?_
 rintro e w1 ⟨rfl,rfl⟩
 clear RX RY RB
 go_wp2_with (at_builtin;refine wpList_append_own _ rfl _ _ 32 rfl (w.heap.size+1+1) 3 i0 (.int .i64 0) 1 8 underlying32 hi hz0 hz1 hz2 rfl (by decide) _ 2 [.int .i64 x1,.int .i64 x0] rfl ?c0 a l.length c (l.map (Value.int .i64)) rfl ?c1 ?c4 hone.out ?c2 ?c3 ?c5 ?_)
 case c1=>simp
 case c2=>unfold maxLen;omega
 case c3=>omega
 case c5=>simp
 case c4=>exact hnews.out _ (aB (aB (ak _ _ none) (ak _ _ none)) (ak _ _ none))
 case c0=>exact⟨rfl,.inr ⟨w.heap.size+1+1,2,#[.int .i64 x1,.int .i64 x0],rfl,by simp,by simpa using cK (((w.alloc _).alloc _)) _,Nat.le_refl _,by decide,rfl,rfl⟩⟩
 intro v' w2 ho2 g2 _
 have M:=Zd (ad8 h0 ho2 g2)
 clear ho2 g2 h0 hone hnews
 obtain⟨gx,cx,rfl,hgx,hX⟩:=M.out
 have hq0:=aI hX.1 2
 have hq1:=aI hX.1 3
 have XB:=Zd (Pk x0 x1 l hx hr)
 have YB:=Zd (za ([x1,x0]++l) y0 y1 hy)
 have HC:=Zd (Sj hX hgx.2)
 have alH:gx<w2.heap.size:=hgx.2
 have af_:w.heap.size+1<w2.heap.size:=aN hX.2.1
 clear hgx
 go_wp2_with fail
 clear hX hq0 hq1
 generalize hxs:[x1,x0]++l=xs at *
 have HXS:=Zd hxs
 have hxl:xs.length=2+l.length:=by rw[←hxs];simp;omega
 clear hxs
 go_loopw [8,46] (fun y i wr=>∃(k gy cy:Nat),i=.int .i64 k∧y=.slice (some ⟨gy,0,none⟩) (k+2) cy∧k≤l.length∧k+2≤cy∧Hid (HiC w wr x0 x1 y0 y1 xs gx w2.heap.size k gy cy)) (fun _ i _=>l.length-(intOf i).toNat)
 case atStart=>exact⟨0,w2.heap.size,2,rfl,rfl,Nat.zero_le _,gA,HC.out⟩
 case round=>
  obtain⟨k,gy,cy,rfl,rfl,hk,hcy,hC⟩:=hrel
  clear HC
  by_cases jS:k<l.length
  ·have ca:=hC.out.1.2.2.1 (k+2) gA
   have cb:=hC.out.1.2.2.1 (k+1) gA
   have cc:=hC.out.1.2.2.1 k gA
   have da:=rD hC.out (k+1) gA
   have db:=rD hC.out k gA
   obtain⟨a1,a2⟩:=XB.out (k+2)
   obtain⟨b1,b2⟩:=XB.out (k+1)
   obtain⟨c1,c2⟩:=XB.out k
   obtain⟨d1,d2⟩:=YB.out k (k+1)
   obtain⟨e1,e2⟩:=YB.out k k
   have ES:=Zs (j5 xs [y1,y0] (k+1)=j5 xs [y1,y0] k++[hiS (aC xs (k+2)) (aC xs (k+1)) (aC xs k) (aC (j5 xs [y1,y0] k) (k+1)) (aC (j5 xs [y1,y0] k) k)]) (rfl)
   generalize aC xs (k+2)=p at *
   generalize aC xs (k+1)=q at *
   generalize aC xs k=r at *
   generalize aC (j5 xs [y1,y0] k) (k+1)=s at *
   generalize aC (j5 xs [y1,y0] k) k=t at *
   have kl1:(k:Int)+2<2+l.length:=gA
   obtain⟨S,hS⟩:∃S,S=3798*(p-2*q+r)+7807*s-3733*t:=⟨_,rfl⟩
   have DN:=Zd (fun w'=>jM (S+2048) 12 gA gA gA w')
   rw[show((12:Nat):Int)=12 from rfl,show(2:Int)^12=4096 by decide]at DN
   have SS:=Zd (fun w'=>nU ((S+2048) / 4096) w' gA gA)
   have EH:=Zs (hiS p q r s t=eU ((S+2048) / 4096)) (by rw[hS];rfl)
   have HS:=Zd hS
   clear hS
   generalize hZ:eU ((S+2048) / 4096)=Z at *
   clear hZ
   generalize hQ:(S+2048) / 4096=Q at *
   clear hQ
   go_wp2_with fail
   go_quiet (fail)
   go_wp2_with fail
   rw[←HS.out]
   refine(DN.out _).mono ?_
   rintro e w3 ⟨rfl,g3⟩
   have C3:=Zd (Zi hC.out (aB (dR _ _ none) g3))
   clear g3 hC
   go_wp2_with fail
   refine(SS.out _).mono ?_
   rintro e w4 ⟨rfl,g4⟩
   have C4:=Zd (Zi C3.out g4)
   clear g4 DN SS
   have O4:=Zd C4.out.2
   go_wp2_with (at_builtin;refine wpList_append_own _ rfl _ _ 32 rfl w2.heap.size 3 i0 (.int .i64 0) 1 8 underlying32 hi hz0 hz1 hz2 rfl (by decide) _ (k+2) ((j5 xs [y1,y0] k).map (Value.int .i64)) rfl ?f0 ⟨w4.heap.size,0,none⟩ 1 1 [.int .i64 Z] rfl rfl ?f1 ?f2 ?f3 ?f4 ?f5 ?_)
   case f0=>exact O4.out.alloc _
   case f1=>(intro j u h;match j,h with|0,h=>(simp at h;subst h;simp[Addr.add]))
   case f2=>(intro u hu;simp at hu;subst hu;rfl)
   case f3=>(unfold maxLen;omega)
   case f4=>omega
   case f5=>(have:=O4.out.lt gy rfl;simp;omega)
   intro v5 w5 h5 g5 _
   obtain⟨gz,cz,rfl,hcz,N5⟩:=af9 C4.out af_ alH ES.out EH.out h5 g5
   have H5:=Zd N5
   clear h5 g5 N5 O4 ca cb cc da db
   go_wp2_with fail
   go_roundw
   case rel=>exact⟨k+1,gz,cz,by go_num,by first|rfl|(simp;omega),gA,hcz,H5.out⟩
   case measure=>simp[intOf];omega
  obtain rfl:k=l.length:=gA
  have ca:=hC.out.1.2.2.1 (l.length+1) gA
  have cb:=hC.out.1.2.2.1 l.length gA
  have da:=rD hC.out (l.length+1) gA
  have db:=rD hC.out l.length gA
  have r0:=aI hC.out.1.2.1 0
  have r1:=aI hC.out.1.2.1 1
  have r2:=aI hC.out.1.2.1 2
  have r3:=aI hC.out.1.2.1 3
  have t0:=aT hC.out.1.2.1 0
  have t1:=aT hC.out.1.2.1 1
  have t2:=aT hC.out.1.2.1 2
  have t3:=aT hC.out.1.2.1 3
  generalize hp:aC xs (l.length+1)=p at *
  generalize hq:aC xs l.length=q at *
  generalize hs:aC (j5 xs [y1,y0] l.length) (l.length+1)=s at *
  generalize ht:aC (j5 xs [y1,y0] l.length) l.length=t at *
  have PP:=Zd hp
  have QQ:=Zd hq
  have SS:=Zd hs
  have TT:=Zd ht
  clear hp hq hs ht
  have EN:=Zd (Sk hC.out af_ p q s t _ rfl)
  obtain⟨o0,o1,o2,o3,GF',IV'⟩:=EN.out
  have GF:=Zd GF'
  have HT:=Zd (show Ht w x0 x1 y0 y1 l=fun e w'=>∃v',e=.returned (.tuple #[v',.agg #[.int .i64 p,.int .i64 q,.int .i64 s,.int .i64 t],.int .i64 0])∧aS w' v' ((j5 xs [y1,y0] l.length).drop 2)∧w.grownBy w' none from by
   unfold Ht
   rw[HXS.out,PP.out,QQ.out,SS.out,TT.out])
  clear GF' hC
  by_cases ajb:cy=2
  ·have IV:=Zd (IV' 0 (cy-2) (.inl ⟨rfl,ajb⟩))
   subst ajb
   clear IV'
   go_wp2_with fail
   go_region
   go_wp2_with fail
   refine bodyPost_ret (v:=.tuple #[.slice (some ⟨gy,0,none⟩) l.length (2-2),.agg #[.int .i64 p,.int .i64 q,.int .i64 s,.int .i64 t],.int .i64 0]) ?_ rfl ?_
   ·simp[results,results16,go_sem,o0,o1,o2,o3];omega
   rw[HT.out]
   exact⟨_,rfl,IV.out,GF.out⟩
  have IV:=Zd (IV' 2 (cy-2) (.inr ⟨rfl,rfl⟩))
  clear IV'
  go_wp2_with fail
  go_region
  go_wp2_with fail
  refine bodyPost_ret (v:=.tuple #[.slice (some ⟨gy,2,none⟩) l.length (cy-2),.agg #[.int .i64 p,.int .i64 q,.int .i64 s,.int .i64 t],.int .i64 0]) ?_ rfl ?_
  ·simp[results,results16,go_sem,o0,o1,o2,o3]
  rw[HT.out]
  exact⟨_,rfl,IV.out,GF.out⟩
theorem Sm (x0 x1 y0 y1:Int)(v:Value)(l:List Int)(w:World)(h:aS w v l)(hl:l.length*8≤281474976710656)(hr:aL l=false) :
 Calls prog 16 #[.agg #[.int .i64 x0,.int .i64 x1,.int .i64 y0,.int .i64 y1],v] w (rV w):=by
 have HI:=Zd h
 have RB:=Zd (fun u hu=>bM v l u hu gA)
 obtain⟨ad,c,rfl,hc,bH⟩:=h
 clear bH
 have h0:((w.alloc (hp x0 x1 y0 y1)).alloc (hp 0 0 0 0)).heap[w.heap.size]?=some (hp x0 x1 y0 y1):=kH (ak _ _ none)
 have RX:=Zd (bM (.slice (some ⟨w.heap.size,0,none⟩) 2 2) [x0,x1] _ (gL h0 0 x0 x1 rfl rfl) (by simp))
 have RY:=Zd (bM (.slice (some ⟨w.heap.size,2,none⟩) 2 2) [y0,y1] _ (gL h0 2 y0 y1 rfl rfl) (by simp))
 rw[hr]at RB
 simp only[hp]at RX RY
 clear h0
 go_enter func16,ntmps16
 go_wp2_with fail
 refine(RB.out _ (aP HI.out (aB (ak _ _ none) (ak _ _ none)))).mono ?_
 rintro e w1 ⟨rfl,rfl⟩
 go_wp2_with fail
 refine bodyPost_ret (v:=.tuple #[.slice none 0 0,.agg #[.int .i64 0,.int .i64 0,.int .i64 0,.int .i64 0],.int .i64 2]) ?_ rfl ?_
 ·simp[results,results16,go_sem]
 exact⟨rfl,aB (ak _ _ none) (ak _ _ none)⟩
theorem Sn (x0 x1 y0 y1:Int)(v:Value)(l:List Int)(w:World)(h:aS w v l)(hl:l.length*8≤281474976710656)(hr:aL l=true)(hx:aL [x0,x1]=false) :
 Calls prog 16 #[.agg #[.int .i64 x0,.int .i64 x1,.int .i64 y0,.int .i64 y1],v] w (rV w):=by
 have HI:=Zd h
 have RB:=Zd (fun u hu=>bM v l u hu gA)
 obtain⟨ad,c,rfl,hc,bH⟩:=h
 clear bH
 have h0:((w.alloc (hp x0 x1 y0 y1)).alloc (hp 0 0 0 0)).heap[w.heap.size]?=some (hp x0 x1 y0 y1):=kH (ak _ _ none)
 have RX:=Zd (bM (.slice (some ⟨w.heap.size,0,none⟩) 2 2) [x0,x1] _ (gL h0 0 x0 x1 rfl rfl) (by simp))
 have RY:=Zd (bM (.slice (some ⟨w.heap.size,2,none⟩) 2 2) [y0,y1] _ (gL h0 2 y0 y1 rfl rfl) (by simp))
 rw[hr]at RB
 rw[hx]at RX
 simp only[hp]at RX RY
 clear h0
 go_enter func16,ntmps16
 go_wp2_with fail
 refine(RB.out _ (aP HI.out (aB (ak _ _ none) (ak _ _ none)))).mono ?_
 rintro e w1 ⟨rfl,rfl⟩
 go_wp2_with fail
 refine RX.out.mono ?_
 rintro e w1 ⟨rfl,rfl⟩
 go_wp2_with fail
 refine bodyPost_ret (v:=.tuple #[.slice none 0 0,.agg #[.int .i64 0,.int .i64 0,.int .i64 0,.int .i64 0],.int .i64 2]) ?_ rfl ?_
 ·simp[results,results16,go_sem]
 exact⟨rfl,aB (ak _ _ none) (ak _ _ none)⟩
theorem Sq (x0 x1 y0 y1:Int)(v:Value)(l:List Int)(w:World)(h:aS w v l)(hl:l.length*8≤281474976710656)(hr:aL l=true)(hx:aL [x0,x1]=true)(hy:aL [y0,y1]=false) :
 Calls prog 16 #[.agg #[.int .i64 x0,.int .i64 x1,.int .i64 y0,.int .i64 y1],v] w (rV w):=by
 have HI:=Zd h
 have RB:=Zd (fun u hu=>bM v l u hu gA)
 obtain⟨ad,c,rfl,hc,bH⟩:=h
 clear bH
 have h0:((w.alloc (hp x0 x1 y0 y1)).alloc (hp 0 0 0 0)).heap[w.heap.size]?=some (hp x0 x1 y0 y1):=kH (ak _ _ none)
 have RX:=Zd (bM (.slice (some ⟨w.heap.size,0,none⟩) 2 2) [x0,x1] _ (gL h0 0 x0 x1 rfl rfl) (by simp))
 have RY:=Zd (bM (.slice (some ⟨w.heap.size,2,none⟩) 2 2) [y0,y1] _ (gL h0 2 y0 y1 rfl rfl) (by simp))
 rw[hr]at RB
 rw[hx]at RX
 rw[hy]at RY
 simp only[hp]at RX RY
 clear h0
 go_enter func16,ntmps16
 go_wp2_with fail
 refine(RB.out _ (aP HI.out (aB (ak _ _ none) (ak _ _ none)))).mono ?_
 rintro e w1 ⟨rfl,rfl⟩
 go_wp2_with fail
 refine RX.out.mono ?_
 rintro e w1 ⟨rfl,rfl⟩
 go_wp2_with fail
 refine RY.out.mono ?_
 rintro e w1 ⟨rfl,rfl⟩
 go_wp2_with fail
 refine bodyPost_ret (v:=.tuple #[.slice none 0 0,.agg #[.int .i64 0,.int .i64 0,.int .i64 0,.int .i64 0],.int .i64 2]) ?_ rfl ?_
 ·simp[results,results16,go_sem]
 exact⟨rfl,aB (ak _ _ none) (ak _ _ none)⟩
theorem Sr (w:World)(x0 x1 y0 y1:Int):HiC w ((((w.alloc (hp x0 x1 y0 y1)).alloc (hp 0 0 0 0)).alloc (.cells #[.int .i64 x1,.int .i64 x0] 3)).alloc (.cells #[.int .i64 y1,.int .i64 y0] 3)) x0 x1 y0 y1 [x1,x0] (w.heap.size+1+1) (w.heap.size+1+1+1) 0 (w.heap.size+1+1+1) 2:=by
 have h0:=cK w (hp x0 x1 y0 y1)
 have h1:=cK (w.alloc (hp x0 x1 y0 y1)) (hp 0 0 0 0)
 have h2:=cK ((w.alloc (hp x0 x1 y0 y1)).alloc (hp 0 0 0 0)) (.cells #[.int .i64 x1,.int .i64 x0] 3)
 have g1:=ak (w.alloc (hp x0 x1 y0 y1)) (hp 0 0 0 0) none
 have g2:=ak ((w.alloc (hp x0 x1 y0 y1)).alloc (hp 0 0 0 0)) (.cells #[.int .i64 x1,.int .i64 x0] 3) none
 have M:ad7 w (((w.alloc (hp x0 x1 y0 y1)).alloc (hp 0 0 0 0)).alloc (.cells #[.int .i64 x1,.int .i64 x0] 3)) x0 x1 y0 y1 [x1,x0] (w.heap.size+1+1):=by
  refine⟨?_,?_,fun j hj=>?_,aB (aB (ak _ _ none) g1) g2⟩
  ·rw[g2.block _ (aN ((g1.block _ (aN h0) (by simp)).trans h0)) (by simp),g1.block _ (aN h0) (by simp)]
   exact h0
  ·rw[show w.heap.size+1=(w.alloc (hp x0 x1 y0 y1)).heap.size by simp,g2.block _ (aN h1) (by simp)]
   exact h1
  rw[show w.heap.size+1+1=((w.alloc (hp x0 x1 y0 y1)).alloc (hp 0 0 0 0)).heap.size by simp,aI h2]
  match j,hj with
  | 0,_=>rfl
  | 1,_=>rfl
 have:=Sj M (by simp)
 simpa using this
theorem Sv (x0 x1 y0 y1:Int)(w:World)(hx:aL [x0,x1]=true)(hy:aL [y0,y1]=true) :
 Calls prog 16 #[.agg #[.int .i64 x0,.int .i64 x1,.int .i64 y0,.int .i64 y1],.slice none 0 0] w (Ht w x0 x1 y0 y1 []):=by
 have RB:=Zd (fun u=>bM (.slice none 0 0) [] u ⟨none,0,rfl,Nat.le_refl _,fun h=>by simp at h⟩ (by simp))
 rw[show aL []=true from rfl]at RB
 obtain⟨i0,hi,hz0,hz1,hz2⟩:=info_parts nE
 have h0:((w.alloc (hp x0 x1 y0 y1)).alloc (hp 0 0 0 0)).heap[w.heap.size]?=some (hp x0 x1 y0 y1):=kH (ak _ _ none)
 have RX:=Zd (bM (.slice (some ⟨w.heap.size,0,none⟩) 2 2) [x0,x1] _ (gL h0 0 x0 x1 rfl rfl) (by simp))
 have RY:=Zd (bM (.slice (some ⟨w.heap.size,2,none⟩) 2 2) [y0,y1] _ (gL h0 2 y0 y1 rfl rfl) (by simp))
 rw[hx]at RX
 rw[hy]at RY
 simp only[hp]at RX RY h0
 go_enter func16,ntmps16
 go_wp2_with fail
 refine(RB.out _).mono ?_
 rintro e w1 ⟨rfl,rfl⟩
 go_wp2_with fail
 refine RX.out.mono ?_
 rintro e w1 ⟨rfl,rfl⟩
 go_wp2_with fail
 refine RY.out.mono ?_
 rintro e w1 ⟨rfl,rfl⟩
 clear RX RY RB
 go_wp2_with (at_builtin;refine wpList_append_own_none rfl _ _ 32 rfl (w.heap.size+1+1) 3 i0 1 underlying32 hi _ 2 [.int .i64 x1,.int .i64 x0] rfl ?c0 rfl ?_)
 case c0=>exact⟨rfl,.inr ⟨w.heap.size+1+1,2,#[.int .i64 x1,.int .i64 x0],rfl,by simp,by simpa using cK (((w.alloc _).alloc _)) _,Nat.le_refl _,by decide,rfl,rfl⟩⟩
 have HC:=Zd (Sr w x0 x1 y0 y1)
 clear h0
 simp only[hp]at HC
 generalize (((w.alloc (.cells #[.int .i64 x0,.int .i64 x1,.int .i64 y0,.int .i64 y1] 24)).alloc (.cells #[.int .i64 0,.int .i64 0,.int .i64 0,.int .i64 0] 24)).alloc (.cells #[.int .i64 x1,.int .i64 x0] 3)).alloc (.cells #[.int .i64 y1,.int .i64 y0] 3)=W3 at *
 generalize hxs:[x1,x0]=xs at *
 have HXS:=Zd hxs
 have hxl:xs.length=2:=by rw[←hxs];rfl
 clear hxs
 go_loopw [8,46] (fun y i wr=>y=.slice (some ⟨w.heap.size+1+1+1,0,none⟩) 2 2∧i=.int .i64 0∧wr=W3) (fun _ i _=>0)
 case atStart=>exact⟨rfl,rfl,rfl⟩
 case round=>
  obtain⟨rfl,rfl,rfl⟩:=hrel
  have hC:=HC
  have af_:w.heap.size+1<w.heap.size+1+1+1:=gA
  have ca:=hC.out.1.2.2.1 1 gA
  have cb:=hC.out.1.2.2.1 0 gA
  have da:=rD hC.out 1 gA
  have db:=rD hC.out 0 gA
  have r0:=aI hC.out.1.2.1 0
  have r1:=aI hC.out.1.2.1 1
  have r2:=aI hC.out.1.2.1 2
  have r3:=aI hC.out.1.2.1 3
  have t0:=aT hC.out.1.2.1 0
  have t1:=aT hC.out.1.2.1 1
  have t2:=aT hC.out.1.2.1 2
  have t3:=aT hC.out.1.2.1 3
  generalize hp:aC xs 1=p at *
  generalize hq:aC xs 0=q at *
  generalize hs:aC (j5 xs [y1,y0] 0) 1=s at *
  generalize ht:aC (j5 xs [y1,y0] 0) 0=t at *
  have PP:=Zd hp
  have QQ:=Zd hq
  have SS:=Zd hs
  have TT:=Zd ht
  clear hp hq hs ht
  have EN:=Zd (Sk hC.out af_ p q s t _ rfl)
  obtain⟨o0,o1,o2,o3,GF',IV'⟩:=EN.out
  have GF:=Zd GF'
  have HT:=Zd (show Ht w x0 x1 y0 y1 []=fun e w'=>∃v',e=.returned (.tuple #[v',.agg #[.int .i64 p,.int .i64 q,.int .i64 s,.int .i64 t],.int .i64 0])∧aS w' v' ((j5 xs [y1,y0] 0).drop 2)∧w.grownBy w' none from by
   unfold Ht
   simp only[List.append_nil,List.length_nil,Nat.zero_add]
   rw[show[x1,x0]=xs from HXS.out,PP.out,QQ.out,SS.out,TT.out])
  have IV:=Zd (IV' 0 0 (.inl ⟨rfl,rfl⟩))
  clear GF' hC IV'
  go_wp2_with fail
  go_region
  go_wp2_with fail
  refine bodyPost_ret (v:=.tuple #[.slice (some ⟨w.heap.size+1+1+1,0,none⟩) 0 (2-2),.agg #[.int .i64 p,.int .i64 q,.int .i64 s,.int .i64 t],.int .i64 0]) ?_ rfl ?_
  ·simp[results,results16,go_sem,o0,o1,o2,o3]
  rw[HT.out]
  exact⟨_,rfl,IV.out,GF.out⟩
theorem wK (x0 x1 y0 y1:Int)(v:Value)(l:List Int)(w:World)(h:aS w v l)(hsh:v=.slice none 0 0∨∃a c,v=.slice (some a) l.length c)(hl:l.length*8≤140737488351232) :
 Calls prog 16 #[.agg #[.int .i64 x0,.int .i64 x1,.int .i64 y0,.int .i64 y1],v] w fun e w'=>∃v',e=.returned (hiT x0 x1 y0 y1 l v')∧aS w' v' (Vx x0 x1 y0 y1 l)∧w.grownBy w' none:=by
 rcases hk:okH x0 x1 y0 y1 l with _|_
 ·have hN:Calls prog 16 #[.agg #[.int .i64 x0,.int .i64 x1,.int .i64 y0,.int .i64 y1],v] w (rV w):=by
   rcases hr:aL l with _|_
   ·exact Sm x0 x1 y0 y1 v l w h gA hr
   rcases hx:aL [x0,x1]with _|_
   ·exact Sn x0 x1 y0 y1 v l w h gA hr hx
   exact Sq x0 x1 y0 y1 v l w h gA hr hx (by unfold okH at hk;rw[hr,hx]at hk;simpa using hk)
  refine hN.mono fun e w' ⟨he,hg⟩=>⟨.slice none 0 0,?_,?_,hg⟩
  ·rw[he];simp[hiT,hiM,Qr,hk]
  simp[Vx,hk];exact⟨none,0,rfl,Nat.le_refl _,fun h=>by simp at h⟩
 have hk':=hk
 unfold okH at hk'
 simp only[Bool.and_eq_true]at hk'
 have hY:Calls prog 16 #[.agg #[.int .i64 x0,.int .i64 x1,.int .i64 y0,.int .i64 y1],v] w (Ht w x0 x1 y0 y1 l):=by
  rcases hsh with rfl|⟨a,c,rfl⟩
  ·obtain⟨ad,c,e,_,_⟩:=h
   cases e0:l with
   | nil=>exact Sv x0 x1 y0 y1 w hk'.1.1 hk'.1.2
   | cons a t=>rw[e0]at e;simp at e
  exact Oa x0 x1 y0 y1 _ l w ⟨a,_,c,rfl⟩ h hl hk'.2 hk'.1.1 hk'.1.2
 refine hY.mono fun e w' ⟨v',he,ho,hg⟩=>⟨v',?_,?_,hg⟩
 ·rw[he];simp[hiT,hiM,Qr,hk,hiX,hiO]
 simpa [Vx,hk,hiO,hiX] using ho
def nine:Obj:=.cells #[.int .i64 0,.int .i64 0,.int .i64 0,.int .i64 0,.int .i64 0,.int .i64 0,.int .i64 0,.int .i64 0,.int .i64 0] 58
def Ag (w wr:World)(rs:List Int):Prop:=
 wr.heap[w.heap.size]?=some nine∧wr.heap[w.heap.size+1]?=some nine∧wr.heap[w.heap.size+1+1]?=some (.cells (aD rs) 3 (0,0))∧w.grownBy wr none
def Ah (l:List (Option Nat)):Array Value:=(l.map fun o=>Value.pointer (o.map fun b=>⟨b,0,none⟩)).toArray
theorem wL (l:List (Option Nat))(i:Nat)(h:i<l.length):(Ah l)[i]?=some (.pointer ((l.getD i none).map fun b=>⟨b,0,none⟩)):=by
 simp[Ah,List.getD,h]
theorem aeb (l:List (Option Nat))(k b:Nat):(Ah l).setIfInBounds k (.pointer (some ⟨b,0,none⟩))=Ah (l.set k (some b)):=by
 simp[Ah,List.map_set]
def Hu (ps:List (Option Nat))(k:Nat):Prop:=∀i j bi bj,i<j→j<k→ps.getD i none=some bi→ps.getD j none=some bj→bi≠bj
def Sw (f:Nat→Int)(wr:World)(ps:List (Option Nat))(k b0 m:Nat):Prop:=∀j,j<k→∃b,ps.getD j none=some b∧b0<b∧b<m∧jJ wr b (mR f j)
theorem wM {w wr wr':World}{rs:List Int}(h:Ag w wr rs)(g:wr.grownBy wr' none):Ag w wr' rs:=
 ⟨by rw[g.block _ (aN h.1) (by simp)];exact h.1,by rw[g.block _ (aN h.2.1) (by simp)];exact h.2.1,by rw[g.block _ (aN h.2.2.1) (by simp)];exact h.2.2.1,aB h.2.2.2 g⟩
theorem mem_set {w wr:World}{rs:List Int}(h:Ag w wr rs)(k:Nat)(z:Int):Ag w (wr.setCell ⟨w.heap.size+1+1,k,none⟩ (.int .i64 z)) (rs.set k z):=by
 have g:=aF wr ⟨w.heap.size+1+1,k,none⟩ (.int .i64 z)
 refine⟨by rw[g.block _ (aN h.1) (by simp;omega)];exact h.1,by rw[g.block _ (aN h.2.1) (by simp)];exact h.2.1,by rw[heap_setCell h.2.2.1,vO],aG h.2.2.2 g (by simp;omega)⟩
theorem aa8 (w:World):jJ (w.alloc iI) w.heap.size 0:=⟨_,[],cK _ _,qX _,uJ,qb,by rw[mh];rfl,by simp⟩
theorem K6 {w w':World}{b c:Nat}{z:Int}{cs:Array Value}{t:TypeId}(h:jJ w b z)(hg:w.grownBy w' (some c))(hc:w.heap[c]?=some (.cells cs t (0,0)))(ht:t≠157)(hb:b≠c):jJ w' b z:=by
 obtain⟨v,l,h1,h2,h3⟩:=h
 refine⟨v,l,by rw[hg.block b (aN h1) (by simpa using hb)];exact h1,?_,h3⟩
 rcases h2 with h2|⟨b',c',cs',e1,e2,e3,e4⟩
 ·exact Or.inl h2
 refine Or.inr ⟨b',c',cs',e1,e2,?_,e4⟩
 rw[hg.block b' (aN e3) ?_]
 ·exact e3
 intro e
 cases e
 rw[e3]at hc
 simp at hc
 exact ht hc.2.symm
def InC (f:Nat→Int)(w wx:World)(rs:List Int)(bs:Nat)(qs:List (Option Nat))(k bk m:Nat):Prop:=
 Ag w wx rs∧wx.heap[bs]?=some (.cells (Ah qs) 93 (0,0))∧jJ wx bk (gB f k m)∧Sw f wx qs k bs bk
theorem yS {w wr wr':World}{rs:List Int}{b:Nat}(h:Ag w wr rs)(g:wr.grownBy wr' (some b))(hb:w.heap.size+1+1<b):Ag w wr' rs:=
 ⟨by rw[g.block _ (aN h.1) (by simp;omega)];exact h.1,by rw[g.block _ (aN h.2.1) (by simp;omega)];exact h.2.1,by rw[g.block _ (aN h.2.2.1) (by simp;omega)];exact h.2.2.1,aG h.2.2.2 g gA⟩
theorem Xg {f:Nat→Int}{w W wr:World}{rs:List Int}{ps:List (Option Nat)}{k:Nat}(hM:Ag w wr rs)(hH:wr.heap[W.heap.size]?=some (.cells (Ah ps) 93 (0,0)))(hS:Sw f wr ps k W.heap.size wr.heap.size)(Sy:w.heap.size+1+1<W.heap.size)(hk:k<9)(hps:ps.length=9) :
 InC f w ((wr.setCell ⟨W.heap.size,k,none⟩ (.pointer (some ⟨wr.heap.size,0,none⟩))).alloc iI) rs W.heap.size (ps.set k (some wr.heap.size)) k wr.heap.size 0:=by
 have g1:=aF wr ⟨W.heap.size,k,none⟩ (.pointer (some ⟨wr.heap.size,0,none⟩))
 have g2:=ak (wr.setCell ⟨W.heap.size,k,none⟩ (.pointer (some ⟨wr.heap.size,0,none⟩))) iI none
 have es:(wr.setCell ⟨W.heap.size,k,none⟩ (.pointer (some ⟨wr.heap.size,0,none⟩))).heap.size=wr.heap.size:=by simp[World.setCell]
 have h1:=heap_setCell (k:=k) hH (.pointer (some ⟨wr.heap.size,0,none⟩))
 rw[aeb]at h1
 refine⟨wM (yS hM g1 Sy) g2,by rw[g2.block _ (aN h1) (by simp)];exact h1,?_,?_⟩
 ·have:=aa8 (wr.setCell ⟨W.heap.size,k,none⟩ (.pointer (some ⟨wr.heap.size,0,none⟩)))
  rw[es]at this
  exact this
 intro j hj
 obtain⟨b,b1,b2,b3,b4⟩:=hS j hj
 refine⟨b,by simpa [List.getD,List.getElem?_set,show ¬k=j by omega] using b1,b2,b3,bJ (K6 b4 g1 hH (by decide) (show b≠W.heap.size by omega)) g2⟩
theorem aec {ps:List (Option Nat)}{k:Nat}(h:Hu ps k)(b:Nat):Hu (ps.set k (some b)) k:=fun i j bi bj hij hj h1 h2=>by
 refine h i j bi bj hij hj ?_ ?_
 ·simpa [List.getD,List.getElem?_set,show ¬k=i by omega] using h1
 simpa [List.getD,List.getElem?_set,show ¬k=j by omega] using h2
theorem Sz {f:Nat→Int}{l:List Int}{w wx:World}{rs:List Int}{bs:Nat}{qs:List (Option Nat)}{k bk n:Nat}(h:InC f w wx rs bs qs k bk n)(hF:Fq l 120 rs)(Sy:w.heap.size+1+1<bs)(hq:qs.length=9)(hk:k<9)(gk:qs.getD k none=some bk)(m:Nat)(hm:m+k<120) :
 wx.cell? ⟨bs,k,none⟩=some (.pointer (some ⟨bk,0,none⟩))∧wx.cell? ⟨w.heap.size+1+1,m,none⟩=some (.int .i64 (wN l m))∧wx.cell? ⟨w.heap.size+1+1,m+k,none⟩=some (.int .i64 (wN l (m+k))):=by
 obtain⟨h1,h2,-,-⟩:=h
 refine⟨?_,?_,?_⟩
 ·rw[aI h2,wL qs k gA,gk];rfl
 ·rw[aI h1.2.2.1,lU rs m (by rw[hF.1];omega),hF.2 m gA]
 rw[aI h1.2.2.1,lU rs (m+k) (by rw[hF.1];omega),hF.2 (m+k) hm]
theorem aga {f:Nat→Int}{w wx wy:World}{rs:List Int}{bs:Nat}{qs:List (Option Nat)}{k bk n:Nat}(h:InC f w wx rs bs qs k bk n)(g:wx.grownBy wy none):InC f w wy rs bs qs k bk n:=
 ⟨wM h.1 g,by rw[g.block _ (aN h.2.1) (by simp)];exact h.2.1,bJ h.2.2.1 g,fun j hj=>by
  obtain⟨b,b1,b2,b3,b4⟩:=h.2.2.2 j hj
  exact⟨b,b1,b2,b3,bJ b4 g⟩⟩
theorem agb {l:List Int}{w wx:World}{rs:List Int}{bs:Nat}{qs:List (Option Nat)}{k bk:Nat}{m:Nat}(h:InC (wN l) w wx rs bs qs k bk m)(hF:Fq l 120 rs)(hB:∀i,-32768≤wN l i∧wN l i≤32768)(Sy:w.heap.size+1+1<bs)(hq:qs.length=9)(hk:k<9)(gk:qs.getD k none=some bk)(hbk:bs<bk)(hm:m<120-k) :
 ∀w2 iP,wx.drew.grownBy w2 none→jJ w2 iP (wN l m*wN l (m+k))→
  (w2.cell? ⟨bs,k,none⟩=some (.pointer (some ⟨bk,0,none⟩))∧w2.cell? ⟨w.heap.size+1+1,m,none⟩=some (.int .i64 (wN l m))∧w2.cell? ⟨w.heap.size+1+1,m+k,none⟩=some (.int .i64 (wN l (m+k))))∧
  Calls prog 52 #[.pointer (some ⟨bk,0,none⟩),.pointer (some ⟨bk,0,none⟩),.pointer (some ⟨iP,0,none⟩)] w2 (fun e w3=>e=.returned (.pointer (some ⟨bk,0,none⟩))∧InC (wN l) w w3 rs bs qs k bk (m+1)):=by
 intro w2 iP g hy
 have g':wx.grownBy w2 none:=⟨g.os,g.tape,g.output,g.size,g.block⟩
 have h2:=aga h g'
 obtain⟨s1,s2⟩:=tX (wN l) k hB m
 obtain⟨p1,p2⟩:=DF _ _ (hB m).1 (hB m).2 (hB (m+k)).1 (hB (m+k)).2
 refine⟨Sz h2 hF Sy hq hk gk m gA,?_⟩
 have p8:=rA
 refine(jP bk bk iP (gB (wN l) k m) (wN l m*wN l (m+k)) w2 (bU h2.2.2.1) h2.2.2.1 hy gA gA).mono ?_
 rintro e w3 ⟨rfl,i3,g3⟩
 refine⟨rfl,yS h2.1 g3 gA,by rw[g3.block _ (aN h2.2.1) (by simp;omega)];exact h2.2.1,i3,fun j hj=>?_⟩
 obtain⟨b,b1,b2,b3,b4⟩:=h2.2.2.2 j hj
 exact⟨b,b1,b2,b3,dU b4 g3 (bU h2.2.2.1) gA⟩
theorem ah8 {f:Nat→Int}{w wx:World}{rs:List Int}{bs:Nat}{qs:List (Option Nat)}{k bk:Nat}(h:InC f w wx rs bs qs k bk (120-k))(hbk:bs<bk)(gk:qs.getD k none=some bk)(hD:Hu qs k) :
 Ag w wx rs∧wx.heap[bs]?=some (.cells (Ah qs) 93 (0,0))∧Sw f wx qs (k+1) bs wx.heap.size∧Hu qs (k+1):=by
 refine⟨h.1,h.2.1,fun j hj=>?_,fun i j bi bj hij hj h1 h2=>?_⟩
 rotate_left
 ·by_cases e:j=k
  ·subst e
   obtain⟨b,b1,b2,b3,b4⟩:=h.2.2.2 i hij
   rw[h1]at b1
   rw[gk]at h2
   cases b1
   cases h2
   omega
  exact hD i j bi bj hij gA h1 h2
 by_cases e:j=k
 ·subst e
  exact⟨bk,gk,hbk,mV h.2.2.1,h.2.2.1⟩
 obtain⟨b,b1,b2,b3,b4⟩:=h.2.2.2 j gA
 exact⟨b,b1,b2,mV b4,b4⟩
def wO (g:Nat→Int)(w wr:World)(rs ys:List Int)(bs:Nat)(ps:List (Option Nat))(k:Nat):Prop:=
 (wr.heap[w.heap.size]?=some nine∧wr.heap[w.heap.size+1]?=some (.cells (aD ys) 58 (0,0))∧wr.heap[bs]?=some (.cells (Ah ps) 93 (0,0))∧w.grownBy wr none)∧
 (∀j,k≤j→j<9→∃b,ps.getD j none=some b∧bs<b∧jJ wr b (g j))∧Hu ps 9
theorem Xh {l:List Int}{w wr:World}{rs:List Int}{bs:Nat}{ps:List (Option Nat)}{b0:Nat}(hM:Ag w wr rs)(hH:wr.heap[bs]?=some (.cells (Ah ps) 93 (0,0)))(hS:Sw (wN l) wr ps 9 bs wr.heap.size)(hD:Hu ps 9)(hB:∀i,-32768≤wN l i∧wN l i≤32768)(Sy:w.heap.size+1+1<bs)(hb:ps.getD 0 none=some b0)(hb0:bs<b0)(h0:jJ wr b0 (mR (wN l) 0)) :
 ∀w2 iP,wr.drew.grownBy w2 none→jJ w2 iP 1→
  w2.cell? ⟨bs,0,none⟩=some (.pointer (some ⟨b0,0,none⟩))∧
  Calls prog 52 #[.pointer (some ⟨b0,0,none⟩),.pointer (some ⟨b0,0,none⟩),.pointer (some ⟨iP,0,none⟩)] w2 (fun e w3=>e=.returned (.pointer (some ⟨b0,0,none⟩))∧wO (dZ (wN l)) w w3 rs (List.replicate 9 0) bs ps 0):=by
 intro w2 iP g hy
 have g':wr.grownBy w2 none:=⟨g.os,g.tape,g.output,g.size,g.block⟩
 obtain⟨s1,s2⟩:=tX (wN l) 0 hB 120
 have e0:mR (wN l) 0=gB (wN l) 0 120:=rfl
 have p8:=rA
 have hH2:w2.heap[bs]?=some (.cells (Ah ps) 93 (0,0)):=by rw[g'.block _ (aN hH) (by simp)];exact hH
 have M2:=wM hM g'
 have i0:=bJ h0 g'
 have hl:0<ps.length:=by
  rcases Nat.eq_zero_or_pos ps.length with e|e
  ·rw[List.length_eq_zero_iff.1 e]at hb;simp at hb
  exact e
 refine⟨by rw[aI hH2,wL ps 0 hl,hb];rfl,?_⟩
 refine(jP b0 b0 iP (mR (wN l) 0) 1 w2 (bU i0) i0 hy gA gA).mono ?_
 rintro e w3 ⟨rfl,i3,g3⟩
 have M3:=yS M2 g3 gA
 refine⟨rfl,⟨M3.1,M3.2.1,by rw[g3.block _ (aN hH2) (by simp;omega)];exact hH2,M3.2.2.2⟩,fun j _ hj=>?_,hD⟩
 by_cases e:j=0
 ·subst e
  exact⟨b0,hb,hb0,i3⟩
 obtain⟨b,b1,b2,b3,b4⟩:=hS j hj
 have hne:=hD 0 j b0 b gA hj hb b1
 refine⟨b,b1,b2,?_⟩
 unfold dZ
 rw[if_neg e]
 exact dU (bJ b4 g') g3 (bU i0) (Ne.symm hne)
theorem D7 {g:Nat→Int}{w wr:World}{rs ys:List Int}{bs:Nat}{ps:List (Option Nat)}{k:Nat}(h:wO g w wr rs ys bs ps k)(j:Nat)(hj:j<9){b:Nat}(hb:ps.getD j none=some b):wr.cell? ⟨bs,j,none⟩=some (.pointer (some ⟨b,0,none⟩)):=by
 have hl:j<ps.length:=by
  rcases Nat.lt_or_ge j ps.length with e|e
  ·exact e
  rw[List.getD_eq_getElem?_getD,List.getElem?_eq_none e]at hb;simp at hb
 rw[aI h.1.2.2.1,wL ps j hl,hb];rfl
theorem agc {f:Nat→Int}{w wr:World}{rs ys:List Int}{bs:Nat}{ps:List (Option Nat)}{k:Nat}(h:wO (dZ f) w wr rs ys bs ps k)(j:Nat)(hk:k≤j)(hj:j<9){b:Nat}(hb:ps.getD j none=some b):jJ wr b (dZ f j)∧1≤dZ f 0:=by
 obtain⟨b',b1,b2,b3⟩:=h.2.1 j hk hj
 rw[hb]at b1
 cases b1
 exact⟨b3,xq⟩
theorem Xi (bx:Nat)(x:Int)(w:World)(hx:jJ w bx x)(h0:0≤x) :
 Calls prog 55 #[.pointer (some ⟨bx,0,none⟩)] w fun e w'=>∃n:Nat,n≤1280∧Bits x n∧e=.returned (.int .i64 n)∧w'=w:=by
 obtain⟨vx,lx,x0,x1,xb,xs,xw,xt,xv,xl⟩:=fC hx
 have L:=Zd (yR vx lx w xs xw xt gA)
 rw[show val lx=x by rw[xv];omega]at L
 clear xs xw xt xv hx x0
 go_enter func55,ntmps55
 go_wp2_with fail
 refine L.out.mono ?_
 rintro e w1 ⟨n,n1,n2,rfl,rfl⟩
 have N2:=Zd n2
 clear L n2
 go_wp2_with fail
 go_ret
 exact⟨n,n1,N2.out,rfl,rfl⟩
theorem SF {g:Nat→Int}{w wr:World}{rs ys:List Int}{bs:Nat}{ps:List (Option Nat)}{k:Nat}(h:wO g w wr rs ys bs ps k):wO g w wr.drew rs ys bs ps k:=
 ⟨⟨h.1.1,h.1.2.1,h.1.2.2.1,bW h.1.2.2.2⟩,fun j hj hj9=>by
  obtain⟨b,b1,b2,b3⟩:=h.2.1 j hj hj9
  exact⟨b,b1,b2,bJ b3 ⟨rfl,rfl,rfl,Nat.le_refl _,fun _ _ _=>rfl⟩⟩,h.2.2⟩
theorem SQ {g:Nat→Int}{w wr wr':World}{rs ys:List Int}{bs:Nat}{ps:List (Option Nat)}{k bk:Nat}(h:wO g w wr rs ys bs ps k)(hk:k<9)(bp:ps.getD k none=some bk)(bb:bs<bk)(hs:Struct wr bk)(Sy:w.heap.size+1+1<bs)(gg:wr.grownBy wr' (some bk)):wO g w wr' rs ys bs ps (k+1):=by
 refine⟨⟨by rw[gg.block _ (aN h.1.1) (by simp;omega)];exact h.1.1,by rw[gg.block _ (aN h.1.2.1) (by simp;omega)];exact h.1.2.1,by rw[gg.block _ (aN h.1.2.2.1) (by simp;omega)];exact h.1.2.2.1,aG h.1.2.2.2 gg gA⟩,fun j hj hj9=>?_,h.2.2⟩
 obtain⟨b,b1,b2,b3⟩:=h.2.1 j gA hj9
 have hne:=h.2.2 k j bk b gA hj9 bp b1
 exact⟨b,b1,b2,dU b3 gg hs (Ne.symm hne)⟩
theorem aed {f:Nat→Int}{w wr:World}{rs ys:List Int}{bs:Nat}{ps:List (Option Nat)}{k bk n:Nat}(h:wO (dZ f) w wr rs ys bs ps k)(hk:k<9)(bp:ps.getD k none=some bk)(bb:bs<bk)(bi:jJ wr bk (dZ f k))(Sy:w.heap.size+1+1<bs)(hn1:n≤1280)(hn:31<n) :
 Calls prog 56 #[.pointer (some ⟨bk,0,none⟩),.pointer (some ⟨bk,0,none⟩),.int .u64 ((n-31:Nat):Int)] wr.drew (fun e w2=>e=.returned (.pointer (some ⟨bk,0,none⟩))∧wO (dZ f) w w2 rs ys bs ps (k+1)∧jJ w2 bk (Kn n (dZ f k))):=by
 have bi':jJ wr.drew bk (dZ f k):=bJ bi ⟨rfl,rfl,rfl,Nat.le_refl _,fun _ _ _=>rfl⟩
 refine(Zc bk bk (dZ f k) (n-31) gA wr.drew (bU bi') bi').mono ?_
 rintro e w2 ⟨rfl,i2,g2⟩
 refine⟨rfl,SQ (SF h) hk bp bb (bU bi') Sy g2,?_⟩
 unfold Kn
 rw[if_pos hn]
 exact i2
theorem agd {f:Nat→Int}{w wr:World}{rs ys:List Int}{bs:Nat}{ps:List (Option Nat)}{k bk n:Nat}(h:wO (dZ f) w wr rs ys bs ps k)(hk:k<9)(bp:ps.getD k none=some bk)(bb:bs<bk)(bi:jJ wr bk (dZ f k))(Sy:w.heap.size+1+1<bs)(hn1:n≤1280)(hB:Bits (dZ f 0) n)(hn:¬31<n) :
 Calls prog 57 #[.pointer (some ⟨bk,0,none⟩),.pointer (some ⟨bk,0,none⟩),.int .u64 ((31-n:Nat):Int)] wr.drew (fun e w2=>e=.returned (.pointer (some ⟨bk,0,none⟩))∧wO (dZ f) w w2 rs ys bs ps (k+1)∧jJ w2 bk (Kn n (dZ f k))):=by
 have bi':jJ wr.drew bk (dZ f k):=bJ bi ⟨rfl,rfl,rfl,Nat.le_refl _,fun _ _ _=>rfl⟩
 have b:=acB hB k hk
 have p8:=rA
 unfold Kn at b
 rw[if_neg hn]at b
 refine(wF bk bk (dZ f k) (31-n) gA wr.drew (bU bi') bi' gA gA).mono ?_
 rintro e w2 ⟨rfl,i2,g2⟩
 refine⟨rfl,SQ (SF h) hk bp bb (bU bi') Sy g2,?_⟩
 unfold Kn
 rw[if_neg hn]
 exact i2
theorem SX {g:Nat→Int}{w wr wr':World}{rs ys:List Int}{bs:Nat}{ps:List (Option Nat)}{k:Nat}(h:wO g w wr rs ys bs ps k)(gg:wr.grownBy wr' none):wO g w wr' rs ys bs ps k:=
 ⟨⟨by rw[gg.block _ (aN h.1.1) (by simp)];exact h.1.1,by rw[gg.block _ (aN h.1.2.1) (by simp)];exact h.1.2.1,by rw[gg.block _ (aN h.1.2.2.1) (by simp)];exact h.1.2.2.1,aB h.1.2.2.2 gg⟩,fun j hj hj9=>by
  obtain⟨b,b1,b2,b3⟩:=h.2.1 j hj hj9
  exact⟨b,b1,b2,bJ b3 gg⟩,h.2.2⟩
theorem Zj {g:Nat→Int}{w wr:World}{rs ys:List Int}{bs:Nat}{ps:List (Option Nat)}{k:Nat}(h:wO g w wr rs ys bs ps k)(i:Nat)(z:Int)(hb:w.heap.size+1+1<bs):wO g w (wr.setCell ⟨w.heap.size+1,i,none⟩ (.int .i64 z)) rs (ys.set i z) bs ps k:=by
 have gg:=aF wr ⟨w.heap.size+1,i,none⟩ (.int .i64 z)
 refine⟨⟨by rw[gg.block _ (aN h.1.1) (by simp)];exact h.1.1,by rw[heap_setCell h.1.2.1,vO],by rw[gg.block _ (aN h.1.2.2.1) (by simp;omega)];exact h.1.2.2.1,aG h.1.2.2.2 gg (by simp)⟩,fun j hj hj9=>?_,h.2.2⟩
 obtain⟨b,b1,b2,b3⟩:=h.2.1 j hj hj9
 exact⟨b,b1,b2,K6 b3 gg h.1.2.1 (by decide) (show b≠w.heap.size+1 by omega)⟩
theorem ajc (x:Int)(k:Nat)(h1:-2147483648≤x)(h2:x≤2147483648)(hk:k<9):-2147483648*8≤x*k∧x*k≤2147483648*8∧-2147483648*64≤x*k*k∧x*k*k≤2147483648*64:=by
 have h:k=0∨k=1∨k=2∨k=3∨k=4∨k=5∨k=6∨k=7∨k=8:=gA
 rcases h with rfl|rfl|rfl|rfl|rfl|rfl|rfl|rfl|rfl<;>omega
theorem Ai {f:Nat→Int}{n:Nat}{g:Nat→Int}{w wr:World}{rs ys:List Int}{bs:Nat}{ps:List (Option Nat)}(h:wO g w wr rs ys bs ps 9)(hD:Kq f n 9 ys)(j:Nat)(hj:j<9):wr.cell? ⟨w.heap.size+1,j,none⟩=some (.int .i64 (gH f n j)):=by
 rw[aI h.1.2.1,lU ys j (by rw[hD.1];exact hj),hD.2 j hj]
theorem kD {w wr:World}(h:w.grownBy wr none){b:Nat}(hb:w.heap.size≤b)(k:Nat)(v:Value):w.grownBy (wr.setCell ⟨b,k,none⟩ v) none:=aG h (aF wr ⟨b,k,none⟩ v) hb
theorem aa9 (w:World):Ag w (((w.alloc nine).alloc nine).alloc (.cells (aD (List.replicate 120 0)) 3)) (List.replicate 120 0):=by
 have e1:(w.alloc nine).heap.size=w.heap.size+1:=by simp
 have e2:((w.alloc nine).alloc nine).heap.size=w.heap.size+1+1:=by simp
 have h1:=cK w nine
 have h2:=cK (w.alloc nine) nine
 have h3:=cK ((w.alloc nine).alloc nine) (.cells (aD (List.replicate 120 0)) 3)
 rw[e1]at h2
 rw[e2]at h3
 have g1:=ak (w.alloc nine) nine none
 have g2:=ak ((w.alloc nine).alloc nine) (.cells (aD (List.replicate 120 0)) 3) none
 exact⟨by rw[(aB g1 g2).block _ (aN h1) (by simp)];exact h1,by rw[g2.block _ (aN h2) (by simp)];exact h2,h3,aB (ak w nine none) (aB g1 g2)⟩
theorem S_ (v:Value)(l:List Int)(w:World)(h:aS w v l)(hl:l.length=120)(hr:aL l=true) :
 Calls prog 17 #[v] w fun e w'=>∃n:Nat,Bits (dZ (wN l) 0) n∧e=.returned (.tuple #[rT (wN l) n,.int .i64 ((n:Int)-31),.int .i64 0])∧w.grownBy w' none:=by
 have HI:=Zd h
 have RB:=Zd (bM v l)
 have RI:=Zd ((aV l).1 hr)
 have RJ:=Zd (Mw l hl hr)
 rw[hr]at RB
 obtain⟨ad,c,rfl,hc,bH⟩:=h
 obtain⟨a,rfl,hv⟩:=bH gA
 have HV:=Zd hv
 rw[hl]at HI RB RI HV ⊢
 have jg:=fun u=>Ef 120 gA gA u
 rw[hl]at hc
 clear bH hr hv
 go_enter func17,ntmps17
 go_wp2_with fail
 refine(RB.out _ (aP HI.out (aB (ak _ _ none) (ak _ _ none))) gA).mono ?_
 rintro e w1 ⟨rfl,rfl⟩
 clear RB
 go_wp2_with fail
 clear jg
 go_loopw [25] (fun i wr=>∃(k:Nat) (rs:List Int),i=.int .i64 k∧k≤120∧Hid (Fq l k rs)∧Hid (Ag w wr rs)) (fun i _=>120-(intOf i).toNat)
 case atStart=>exact⟨0,List.replicate 120 0,rfl,gA,⟨by simp,fun j hj=>gA⟩,aa9 w⟩
 case round=>
  obtain⟨k,rs,rfl,hk,hF,hM⟩:=hrel
  by_cases hkn:k<120
  ·have hS:=(bA hM.out.2.2.2 (HV.out k hkn))
   obtain⟨z1,z2⟩:=RI.out k hkn
   obtain⟨y1,y2⟩:=yN k
   obtain⟨x1,x2⟩:=Mv _ _ z1 z2 y1 y2
   have F:=Zd (Ko l rs k hF.out hkn)
   have EW:=Zs (wN l k=(aC l k*ku k+16384) / 32768) (rfl)
   have DN:=Zd (jM (aC l k*ku k+16384) 15 gA gA gA)
   rw[show((15:Nat):Int)=15 from rfl,show(2:Int)^15=32768 by decide,←EW.out]at DN
   have hlen:=hF.out.1
   have WT:=Zd (Jd (k:Int))
   generalize hz:aC l k=z at *
   generalize ku k=y at *
   generalize wN l k=q at *
   have FN:=Zd (show ∀w2,wr.drew.grownBy w2 none→w2.cell? (a.add k)=some (.int .i64 z)∧(w2.cell? ⟨w.heap.size+1+1,k,none⟩=some (.int .i64 (aC rs k))∧w2.frozen? ⟨w.heap.size+1+1,k,none⟩=false∧Ag w w2 rs)from fun w2 g=>by
    have g':wr.grownBy w2 none:=⟨g.os,g.tape,g.output,g.size,g.block⟩
    have m:=wM hM.out g'
    exact⟨bA g' hS,by rw[aI m.2.2.1];exact lU rs k gA,aT m.2.2.1 k,m⟩)
   have E1:=Zd (fH (z*y) gA gA)
   have E2:=Zd (fH (z*y+16384) gA gA)
   clear hz hF hM HI hlen
   go_wp2_with fail
   refine b_ 12 ((fun w'=>w'.cell? (a.add k)=some (.int .i64 z))) 13 (by rfl) _ rfl (by kernel_rfl) (fun aK=>?_)
   refine bF 0 hS aK fun aK=>?_
   refine bF 1 hS aK fun aK=>?_
   refine bF 2 hS aK fun aK=>?_
   refine bF 3 hS aK fun aK=>?_
   refine bF 4 hS aK fun aK=>?_
   refine bF 5 hS aK fun aK=>?_
   refine bF 6 hS aK fun aK=>?_
   refine kT 7 aK fun K hK=>?_
   (try simp only[sZ])
   go_simp
   refine(WT.out _).mono ?_
   rintro e w2 ⟨rfl,rfl⟩
   go_wp2_with fail
   refine hK.out _ _ (fun _=>hS) (fun aK=>?_)
   (try simp only[sZ])
   refine bF 8 hS aK fun aK=>?_
   refine bF 9 hS aK fun aK=>?_
   refine kT 10 aK fun K hK=>?_
   (try simp only[sZ])
   go_simp
   rw[E1.out,E2.out]
   refine(DN.out _).mono ?_
   rintro e w2 ⟨rfl,g2⟩
   obtain⟨k1,k2⟩:=FN.out w2 g2
   have K1:=Zd k1
   have K2:=Zd k2
   obtain⟨k3,k4,k5⟩:=k2
   clear g2 k1 k5
   go_wp2_with fail
   refine hK.out _ _ (fun _=>K1.out) (fun aK=>?_)
   (try simp only[sZ])
   refine bF 11 K1.out aK fun aK=>?_
   refine kT 12 aK fun K hK=>?_
   (try simp only[sZ])
   go_simp
   go_wp2_with fail
   refine hK.out _ _ (fun h=>by cases h) (fun aK=>?_)
   (try simp only[sZ])
   refine bI _ _ _ _ (by rfl) ?_
   refine xP ?_
   go_wp2_with fail
   go_roundw
   case rel=>exact⟨k+1,rs.set k q,by go_num,gA,F.out,mem_set K2.out.2.2 k q⟩
   case measure=>simp[intOf];omega
  obtain rfl:k=120:=gA
  clear HI
  have FB:=Zs (∀i,-32768≤wN l i∧wN l i≤32768) (RJ.out)
  go_wp2_with fail
  rw[show((120:Nat):Int)=120 from rfl]
  generalize hW:wr=W at *
  clear hW
  have M0:=Zd (wM hM.out (ak W (.cells (Ah (List.replicate 9 none)) 93) none))
  have H0:=Zd (cK W (.cells (Ah (List.replicate 9 none)) 93))
  have Sy:w.heap.size+1+1<W.heap.size:=aN hM.out.2.2.1
  have FC:=Zd hF.out
  clear hM hF
  go_loopw [41] (fun i wr=>∃(k:Nat) (ps:List (Option Nat)),i=.int .i64 k∧k≤9∧ps.length=9∧Hid (Ag w wr rs)∧Hid (wr.heap[W.heap.size]?=some (.cells (Ah ps) 93 (0,0)))∧Hid (Sw (wN l) wr ps k W.heap.size wr.heap.size∧Hu ps k)) (fun i _=>9-(intOf i).toNat)
  case atStart=>exact⟨0,List.replicate 9 none,rfl,gA,by simp,M0,H0,fun j hj=>gA,fun i j _ _ _ hj=>gA⟩
  case round=>
   obtain⟨k,ps,rfl,hk,hps,hM,hH,hS⟩:=hrel
   clear M0 H0
   by_cases Ku:k<9
   ·have c0:=(aI hH.out k).trans (wL ps k gA)
    have f0:=aT hH.out k
    have hsz:=aN hH.out
    have ST:=Zd (Xg hM.out hH.out hS.out.1 Sy Ku hps)
    have hbk:W.heap.size<wr.heap.size:=hsz
    have ah9:(ps.set k (some wr.heap.size)).length=9:=by simpa using hps
    have gk:=Zs ((ps.set k (some wr.heap.size)).getD k none=some wr.heap.size) (by simp[List.getD,hps,Ku])
    have DS:=Zd (aec hS.out.2 wr.heap.size)
    clear hM hH hS
    go_wp2_with fail
    clear c0 f0 hps
    generalize ps.set k (some wr.heap.size)=qs at *
    generalize hbk0:wr.heap.size=bk at *
    clear hbk0
    rw[show decide ((k:Int)<9)=true by simp;omega]
    go_loopw [10] (fun i wx=>∃m:Nat,i=.int .i64 m∧m≤120-k∧Hid (InC (wN l) w wx rs W.heap.size qs k bk m)) (fun i _=>120-k-(intOf i).toNat)
    case atStart=>exact⟨0,rfl,gA,ST.out⟩
    case round=>
     obtain⟨m,rfl,hm,hI⟩:=hrel
     clear ST
     by_cases jg:m<120-k
     ·have hS2:=Sz hI.out FC.out Sy ah9 Ku gk.out m gA
      obtain⟨x1,x2⟩:=FB.out m
      obtain⟨y1,y2⟩:=FB.out (m+k)
      obtain⟨p1,p2⟩:=DF _ _ x1 x2 y1 y2
      have FN:=Zd (agb hI.out FC.out FB.out Sy ah9 Ku gk.out hbk jg)
      have E1:=Zd (fH (wN l m*wN l (m+k)) gA gA)
      have E3:=Zd (fH ((m:Int)+(k:Int)) gA gA)
      have hm1:m<120:=gA
      have hm6:(m:Int)<120:=gA
      have hm2:m+k<120:=gA
      have hm3:(m:Int)+(k:Int)<120:=gA
      have hm4:0≤(m:Int)+(k:Int):=gA
      have hm5:((m:Int)+(k:Int)).toNat=m+k:=gA
      generalize wN l m=x at *
      generalize wN l (m+k)=y at *
      clear hI x1 x2 y1 y2
      go_wp2_with fail
      refine b_ 18 ((fun w'=>w'.cell? ⟨W.heap.size,k,none⟩=some (.pointer (some ⟨bk,0,none⟩))∧w'.cell? ⟨w.heap.size+1+1,m,none⟩=some (.int .i64 x)∧w'.cell? ⟨w.heap.size+1+1,m+k,none⟩=some (.int .i64 y))) 19 (by rfl) _ rfl (by kernel_rfl) (fun aK=>?_)
      refine bF 0 hS2 aK fun aK=>?_
      refine bF 1 hS2 aK fun aK=>?_
      refine bF 2 hS2 aK fun aK=>?_
      refine bF 3 hS2 aK fun aK=>?_
      refine bF 4 hS2 aK fun aK=>?_
      refine bF 5 hS2 aK fun aK=>?_
      refine bF 6 hS2 aK fun aK=>?_
      refine bF 7 hS2 aK fun aK=>?_
      refine bF 8 hS2 aK fun aK=>?_
      refine bF 9 hS2 aK fun aK=>?_
      refine bF 10 hS2 aK fun aK=>?_
      refine bF 11 hS2 aK fun aK=>?_
      refine bF 12 hS2 aK fun aK=>?_
      refine jq (hy:=by intro w' bL;(try dsimp only at bL);go_simp;first|exact E3.out|rw[E3.out]) (v:=.int .i64 ((m:Int)+(k:Int))) 13 hS2 aK fun aK=>?_
      refine bF 14 hS2 aK fun aK=>?_
      refine bF 15 hS2 aK fun aK=>?_
      refine bF 16 hS2 aK fun aK=>?_
      refine kT 17 aK fun K hK=>?_
      (try simp only[sZ])
      go_simp
      rw[E1.out]
      refine(eD (x*y) _ gA gA).mono ?_
      rintro e w2 ⟨iP,rfl,hby,i2,g2⟩
      obtain⟨k1,k2⟩:=FN.out w2 iP g2 i2
      have K1:=Zd k1
      have K2:=Zd k2
      clear g2 k1 k2 i2 hby
      go_wp2_with fail
      refine hK.out _ _ (fun _=>K1.out) (fun aK=>?_)
      (try simp only[sZ])
      refine kT 18 aK fun K hK=>?_
      (try simp only[sZ])
      go_simp
      refine K2.out.mono ?_
      rintro e w3 ⟨rfl,m3⟩
      have K3:=Zd m3
      clear m3 K2 K1
      go_wp2_with fail
      refine hK.out _ _ (fun h=>by cases h) (fun aK=>?_)
      (try simp only[sZ])
      refine bI _ _ _ _ (by rfl) ?_
      refine xP ?_
      go_wp2_with fail
      go_roundw
      case rel=>exact⟨m+1,by go_num,gA,K3.out⟩
      case measure=>simp[intOf];omega
     obtain rfl:m=120-k:=gA
     have O:=Zd (ah8 hI.out hbk gk.out DS.out)
     clear hI
     go_wp2_with fail
     go_roundw
     case rel=>exact⟨k+1,qs,by go_num,gA,ah9,O.out.1,O.out.2.1,O.out.2.2⟩
     case measure=>simp[intOf];omega
   obtain rfl:k=9:=gA
   obtain⟨b0,u1,u2,u3,u4⟩:=hS.out.1 0 gA
   have c0:=(aI hH.out 0).trans (wL ps 0 gA)
   rw[u1]at c0
   have c0':wr.cell? ⟨W.heap.size,0,none⟩=some (.pointer (some ⟨b0,0,none⟩)):=c0
   have S0:=Zd (Xh hM.out hH.out hS.out.1 hS.out.2 FB.out Sy u1 u2 u4)
   have U1:=Zd u1
   clear hM hH hS c0 u1 u3 u4
   go_wp2_with fail
   refine b_ 5 ((fun w'=>w'.cell? ⟨W.heap.size,0,none⟩=some (.pointer (some ⟨b0,0,none⟩)))) 6 (by rfl) _ rfl (by kernel_rfl) (fun aK=>?_)
   refine bF 0 c0' aK fun aK=>?_
   refine bF 1 c0' aK fun aK=>?_
   refine bF 2 c0' aK fun aK=>?_
   refine bF 3 c0' aK fun aK=>?_
   refine kT 4 aK fun K hK=>?_
   (try simp only[sZ])
   go_simp
   refine(jN 1 _ gA gA).mono ?_
   rintro e w2 ⟨iP,rfl,hby,i2,g2⟩
   obtain⟨k1,k2⟩:=S0.out w2 iP g2 i2
   have K1:=Zd k1
   have K2:=Zd k2
   clear g2 k1 k2 i2 hby
   go_wp2_with fail
   refine hK.out _ _ (fun _=>K1.out) (fun aK=>?_)
   (try simp only[sZ])
   refine kT 5 aK fun K hK=>?_
   (try simp only[sZ])
   go_simp
   refine K2.out.mono ?_
   rintro e w3 ⟨rfl,m3⟩
   have K3:=Zd m3
   have c3:=D7 m3 0 gA U1.out
   clear m3 K2 K1
   go_wp2_with fail
   refine hK.out _ _ (fun h=>by cases h) (fun aK=>?_)
   (try simp only[sZ])
   refine bI _ _ _ _ (by rfl) ?_
   refine xP ?_
   go_wp2_with fail
   obtain⟨i0,hi0⟩:=agc K3.out 0 gA gA U1.out
   obtain⟨v1,v2⟩:=tY FB.out 0 gA
   refine(Xi b0 _ w3 i0 (by have:=hi0;omega)).mono ?_
   rintro e w4 ⟨n,n1,n2,rfl,rfl⟩
   have n3:=Fu FB.out n2
   have BN:=Zd n2
   clear n2 c3 i0 hi0 v1 v2 c0'
   go_wp2_with fail
   go_loopw [83] (fun i wx=>∃(k:Nat) (ys:List Int),i=.int .i64 k∧k≤9∧Hid (Kq (wN l) n k ys)∧Hid (wO (dZ (wN l)) w wx rs ys W.heap.size ps k)) (fun i _=>9-(intOf i).toNat)
   case atStart=>exact⟨0,List.replicate 9 0,rfl,gA,⟨by simp,fun j hj=>gA⟩,K3.out⟩
   case round=>
    obtain⟨k,ys,rfl,hk,hD,hE⟩:=hrel
    clear K3
    by_cases Ku:k<9
    ·obtain⟨bk,bp,bb,bi⟩:=hE.out.2.1 k (Nat.le_refl _) Ku
     have cp:=D7 hE.out k Ku bp
     have an9:(k:Int)<9:=gA
     obtain⟨x1,x2⟩:=acB BN.out k Ku
     have BP:=Zd bp
     have MVB:=Zd (fun hn=>agd hE.out Ku bp bb bi Sy (n:=n) gA BN.out hn)
     have hy9:=hD.out.1
     have MVA:=Zd (fun hn=>aed hE.out Ku bp bb bi Sy (n:=n) gA hn)
     have FD:=Zd (Kr hD.out Ku)
     have EC:=Zs (gH (wN l) n k=Kn n (dZ (wN l) k)-Kn n (dZ (wN l) k)*k*k / 8192) (rfl)
     generalize Kn n (dZ (wN l) k)=x at *
     obtain⟨kk1,kk2,kk3,kk4⟩:=ajc x k x1 x2 gA
     have DN:=Zd (jM (x*k*k) 13 gA gA gA)
     rw[show((13:Nat):Int)=13 from rfl,show(2:Int)^13=8192 by decide]at DN
     have qk1:-2147483648*64≤x*k*k / 8192:=gA
     have qk2:x*k*k / 8192≤2147483648*64:=gA
     clear bi hE hD bp
     by_cases hn:31<n
     ·have hn':0<(n:Int)-31:=gA
      have MV:=Zd (MVA.out hn)
      obtain⟨N,hN⟩:∃N,N=n-31:=⟨_,rfl⟩
      have EU:=Zd (show IntKind.u64.wrap ((n:Int)-31)=((N:Nat):Int)from by
       rw[hN]
       show((n:Int)-31) % 18446744073709551616=_
       omega)
      rw[←hN]at MV
      clear hN
      go_wp2_with fail
      refine b_ 8 ((fun w'=>w'.cell? ⟨W.heap.size,k,none⟩=some (.pointer (some ⟨bk,0,none⟩)))) 9 (by rfl) _ rfl (by kernel_rfl) (fun aK=>?_)
      refine bF 0 cp aK fun aK=>?_
      refine bF 1 cp aK fun aK=>?_
      refine bF 2 cp aK fun aK=>?_
      refine bF 3 cp aK fun aK=>?_
      refine bF 4 cp aK fun aK=>?_
      refine bF 5 cp aK fun aK=>?_
      refine bF 6 cp aK fun aK=>?_
      refine jq (hy:=by intro w' bL;(try dsimp only at bL);go_simp;(first|exact EU.out|rw[EU.out]|(simp;omega)|trace_state)) (v:=.int .u64 ((N:Nat):Int)) 7 cp aK fun aK=>?_
      refine kT 8 aK fun K hK=>?_
      (try simp only[sZ])
      go_simp
      refine MV.out.mono ?_
      rintro e w4 ⟨rfl,m4⟩
      have K4:=Zd m4
      have c4:=D7 m4.1 k Ku BP.out
      have I64:=Zd (nT bk x w4 m4.2 gA gA)
      clear m4 MV
      go_wp2_with fail
      refine hK.out _ _ (fun h=>by cases h) (fun aK=>?_)
      (try simp only[sZ])
      refine bI _ _ _ _ (by rfl) ?_
      refine xP ?_
      go_wp2_with fail
      refine I64.out.mono ?_
      rintro e w5 ⟨rfl,rfl⟩
      clear I64 c4
      go_wp2_with fail
      refine(DN.out _).mono ?_
      rintro e w6 ⟨rfl,g6⟩
      have M6:=Zd (SX K4.out.1 g6)
      have h6:=M6.out.1.2.1
      have c6:=(aI h6 k).trans (lU ys k gA)
      have f6:=aT h6 k
      clear g6 h6
      go_wp2_with fail
      go_roundw
      case rel=>exact⟨k+1,ys.set k (gH (wN l) n k),by go_num,gA,FD.out,by rw[EC.out];exact Zj M6.out k _ gA⟩
      case measure=>simp[intOf];omega
     have hn':¬0<(n:Int)-31:=gA
     have MV:=Zd (MVB.out gA)
     obtain⟨N,hN⟩:∃N,N=31-n:=⟨_,rfl⟩
     have EN:=Zd (fH (-((n:Int)-31)) gA gA)
     have EU:=Zd (show IntKind.u64.wrap (-((n:Int)-31))=((N:Nat):Int)from by
      rw[hN]
      show(-((n:Int)-31)) % 18446744073709551616=_
      omega)
     rw[←hN]at MV
     clear hN
     go_wp2_with fail
     refine b_ 9 ((fun w'=>w'.cell? ⟨W.heap.size,k,none⟩=some (.pointer (some ⟨bk,0,none⟩)))) 10 (by rfl) _ rfl (by kernel_rfl) (fun aK=>?_)
     refine bF 0 cp aK fun aK=>?_
     refine bF 1 cp aK fun aK=>?_
     refine bF 2 cp aK fun aK=>?_
     refine bF 3 cp aK fun aK=>?_
     refine bF 4 cp aK fun aK=>?_
     refine bF 5 cp aK fun aK=>?_
     refine bF 6 cp aK fun aK=>?_
     refine jq (hy:=by intro w' bL;(try dsimp only at bL);go_simp;(first|exact EN.out|rw[EN.out]|(simp;omega)|trace_state)) (v:=.int .i64 (-((n:Int)-31))) 7 cp aK fun aK=>?_
     refine jq (hy:=by intro w' bL;(try dsimp only at bL);go_simp;(first|exact EU.out|rw[EU.out]|(simp;omega)|trace_state)) (v:=.int .u64 ((N:Nat):Int)) 8 cp aK fun aK=>?_
     refine kT 9 aK fun K hK=>?_
     (try simp only[sZ])
     go_simp
     refine MV.out.mono ?_
     rintro e w4 ⟨rfl,m4⟩
     have K4:=Zd m4
     have c4:=D7 m4.1 k Ku BP.out
     have I64:=Zd (nT bk x w4 m4.2 gA gA)
     clear m4 MV
     go_wp2_with fail
     refine hK.out _ _ (fun h=>by cases h) (fun aK=>?_)
     (try simp only[sZ])
     refine bI _ _ _ _ (by rfl) ?_
     refine xP ?_
     go_wp2_with fail
     refine I64.out.mono ?_
     rintro e w5 ⟨rfl,rfl⟩
     clear I64 c4
     go_wp2_with fail
     refine(DN.out _).mono ?_
     rintro e w6 ⟨rfl,g6⟩
     have M6:=Zd (SX K4.out.1 g6)
     have h6:=M6.out.1.2.1
     have c6:=(aI h6 k).trans (lU ys k gA)
     have f6:=aT h6 k
     clear g6 h6
     go_wp2_with fail
     go_roundw
     case rel=>exact⟨k+1,ys.set k (gH (wN l) n k),by go_num,gA,FD.out,by rw[EC.out];exact Zj M6.out k _ gA⟩
     case measure=>simp[intOf];omega
    obtain rfl:k=9:=gA
    have E9:=Zd hE.out
    have D9:=Zd hD.out
    clear hE hD
    have r0:wr.cell? ⟨w.heap.size+1,0,none⟩=some (.int .i64 (gH (wN l) n 0)):=Ai E9.out D9.out 0 gA
    have r1:wr.cell? ⟨w.heap.size+1,1,none⟩=some (.int .i64 (gH (wN l) n 1)):=Ai E9.out D9.out 1 gA
    have r2:wr.cell? ⟨w.heap.size+1,2,none⟩=some (.int .i64 (gH (wN l) n 2)):=Ai E9.out D9.out 2 gA
    have r3:wr.cell? ⟨w.heap.size+1,3,none⟩=some (.int .i64 (gH (wN l) n 3)):=Ai E9.out D9.out 3 gA
    have r4:wr.cell? ⟨w.heap.size+1,4,none⟩=some (.int .i64 (gH (wN l) n 4)):=Ai E9.out D9.out 4 gA
    have r5:wr.cell? ⟨w.heap.size+1,5,none⟩=some (.int .i64 (gH (wN l) n 5)):=Ai E9.out D9.out 5 gA
    have r6:wr.cell? ⟨w.heap.size+1,6,none⟩=some (.int .i64 (gH (wN l) n 6)):=Ai E9.out D9.out 6 gA
    have r7:wr.cell? ⟨w.heap.size+1,7,none⟩=some (.int .i64 (gH (wN l) n 7)):=Ai E9.out D9.out 7 gA
    have r8:wr.cell? ⟨w.heap.size+1,8,none⟩=some (.int .i64 (gH (wN l) n 8)):=Ai E9.out D9.out 8 gA
    have q0:wr.cell? ⟨w.heap.size,0,none⟩=some (.int .i64 0):=aI E9.out.1.1 0
    have t0:wr.frozen? ⟨w.heap.size,0,none⟩=false:=aT E9.out.1.1 0
    have q1:wr.cell? ⟨w.heap.size,1,none⟩=some (.int .i64 0):=aI E9.out.1.1 1
    have t1:wr.frozen? ⟨w.heap.size,1,none⟩=false:=aT E9.out.1.1 1
    have q2:wr.cell? ⟨w.heap.size,2,none⟩=some (.int .i64 0):=aI E9.out.1.1 2
    have t2:wr.frozen? ⟨w.heap.size,2,none⟩=false:=aT E9.out.1.1 2
    have q3:wr.cell? ⟨w.heap.size,3,none⟩=some (.int .i64 0):=aI E9.out.1.1 3
    have t3:wr.frozen? ⟨w.heap.size,3,none⟩=false:=aT E9.out.1.1 3
    have q4:wr.cell? ⟨w.heap.size,4,none⟩=some (.int .i64 0):=aI E9.out.1.1 4
    have t4:wr.frozen? ⟨w.heap.size,4,none⟩=false:=aT E9.out.1.1 4
    have q5:wr.cell? ⟨w.heap.size,5,none⟩=some (.int .i64 0):=aI E9.out.1.1 5
    have t5:wr.frozen? ⟨w.heap.size,5,none⟩=false:=aT E9.out.1.1 5
    have q6:wr.cell? ⟨w.heap.size,6,none⟩=some (.int .i64 0):=aI E9.out.1.1 6
    have t6:wr.frozen? ⟨w.heap.size,6,none⟩=false:=aT E9.out.1.1 6
    have q7:wr.cell? ⟨w.heap.size,7,none⟩=some (.int .i64 0):=aI E9.out.1.1 7
    have t7:wr.frozen? ⟨w.heap.size,7,none⟩=false:=aT E9.out.1.1 7
    have q8:wr.cell? ⟨w.heap.size,8,none⟩=some (.int .i64 0):=aI E9.out.1.1 8
    have t8:wr.frozen? ⟨w.heap.size,8,none⟩=false:=aT E9.out.1.1 8
    have AG:=Zs (rT (wN l) n=.agg #[.int .i64 (gH (wN l) n 0),.int .i64 (gH (wN l) n 1),.int .i64 (gH (wN l) n 2),.int .i64 (gH (wN l) n 3),.int .i64 (gH (wN l) n 4),.int .i64 (gH (wN l) n 5),.int .i64 (gH (wN l) n 6),.int .i64 (gH (wN l) n 7),.int .i64 (gH (wN l) n 8)]) (rfl)
    generalize gH (wN l) n 0=z0 at *
    generalize gH (wN l) n 1=z1 at *
    generalize gH (wN l) n 2=z2 at *
    generalize gH (wN l) n 3=z3 at *
    generalize gH (wN l) n 4=z4 at *
    generalize gH (wN l) n 5=z5 at *
    generalize gH (wN l) n 6=z6 at *
    generalize gH (wN l) n 7=z7 at *
    generalize gH (wN l) n 8=z8 at *
    go_wp2_with fail
    have y0:=heap_setCell (k:=0) (show wr.heap[w.heap.size]?=some (.cells #[.int .i64 0,.int .i64 0,.int .i64 0,.int .i64 0,.int .i64 0,.int .i64 0,.int .i64 0,.int .i64 0,.int .i64 0] 58 (0,0))from E9.out.1.1) (.int .i64 z0)
    have y1:=heap_setCell (k:=1) y0 (.int .i64 z1)
    have y2:=heap_setCell (k:=2) y1 (.int .i64 z2)
    have y3:=heap_setCell (k:=3) y2 (.int .i64 z3)
    have y4:=heap_setCell (k:=4) y3 (.int .i64 z4)
    have y5:=heap_setCell (k:=5) y4 (.int .i64 z5)
    have y6:=heap_setCell (k:=6) y5 (.int .i64 z6)
    have y7:=heap_setCell (k:=7) y6 (.int .i64 z7)
    have y8:=heap_setCell (k:=8) y7 (.int .i64 z8)
    have o0:=aI y8 0
    have o1:=aI y8 1
    have o2:=aI y8 2
    have o3:=aI y8 3
    have o4:=aI y8 4
    have o5:=aI y8 5
    have o6:=aI y8 6
    have o7:=aI y8 7
    have o8:=aI y8 8
    simp at o0 o1 o2 o3 o4 o5 o6 o7 o8
    have GF:=Zd (kD (kD (kD (kD (kD (kD (kD (kD (kD E9.out.1.2.2.2 (Nat.le_refl _) 0 (.int .i64 z0)) (Nat.le_refl _) 1 (.int .i64 z1)) (Nat.le_refl _) 2 (.int .i64 z2)) (Nat.le_refl _) 3 (.int .i64 z3)) (Nat.le_refl _) 4 (.int .i64 z4)) (Nat.le_refl _) 5 (.int .i64 z5)) (Nat.le_refl _) 6 (.int .i64 z6)) (Nat.le_refl _) 7 (.int .i64 z7)) (Nat.le_refl _) 8 (.int .i64 z8))
    refine bodyPost_ret (v:=.tuple #[rT (wN l) n,.int .i64 ((n:Int)-31),.int .i64 0]) ?_ rfl ⟨n,BN.out,rfl,GF.out⟩
    rw[AG.out]
    simp[results,results17,go_sem,o0,o1,o2,o3,o4,o5,o6,o7,o8]
theorem JJ (v:Value)(l:List Int)(w:World)(h:aS w v l)(hl:l.length=120)(hr:aL l=false) :
 Calls prog 17 #[v] w fun e w'=>e=.returned (.tuple #[rU,.int .i64 0,.int .i64 2])∧w.grownBy w' none:=by
 have HI:=Zd h
 have RB:=Zd (bM v l)
 rw[hr]at RB
 obtain⟨ad,c,rfl,hc,bH⟩:=h
 rw[hl]at HI RB ⊢
 clear bH hr
 go_enter func17,ntmps17
 go_wp2_with fail
 refine(RB.out _ (aP HI.out (aB (ak _ _ none) (ak _ _ none))) gA).mono ?_
 rintro e w1 ⟨rfl,rfl⟩
 clear RB HI
 go_wp2_with fail
 have h0:((w.alloc (.cells #[.int .i64 0,.int .i64 0,.int .i64 0,.int .i64 0,.int .i64 0,.int .i64 0,.int .i64 0,.int .i64 0,.int .i64 0] 58)).alloc (.cells #[.int .i64 0,.int .i64 0,.int .i64 0,.int .i64 0,.int .i64 0,.int .i64 0,.int .i64 0,.int .i64 0,.int .i64 0] 58)).heap[w.heap.size]?=some (.cells #[.int .i64 0,.int .i64 0,.int .i64 0,.int .i64 0,.int .i64 0,.int .i64 0,.int .i64 0,.int .i64 0,.int .i64 0] 58 (0,0)):=kH (ak _ _ none)
 have o0:=aI h0 0
 have o1:=aI h0 1
 have o2:=aI h0 2
 have o3:=aI h0 3
 have o4:=aI h0 4
 have o5:=aI h0 5
 have o6:=aI h0 6
 have o7:=aI h0 7
 have o8:=aI h0 8
 simp at o0 o1 o2 o3 o4 o5 o6 o7 o8
 refine bodyPost_ret (v:=.tuple #[rU,.int .i64 0,.int .i64 2]) ?_ rfl ⟨rfl,aB (ak _ _ none) (ak _ _ none)⟩
 simp[results,results17,go_sem,rU,o0,o1,o2,o3,o4,o5,o6,o7,o8]
end Go.Proofs.YtbaccaipcimlhaaGreatDoor
