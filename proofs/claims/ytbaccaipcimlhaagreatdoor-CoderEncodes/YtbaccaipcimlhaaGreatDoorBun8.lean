/- Texts put together: RefEnA, RefPit, RefFad, RefMemB, RefMemC, RefSynA, RefSynB, RefSynC, RefLpc, RefMix, RefGrow, RefDir, RefPrd, RefPulA, RefNea, RefGan, RefSpk, RefDec, RefPly, RefSynD, RefRng. -/
import Derived.Test.YtbaccaipcimlhaaGreatDoorBun6
import Derived.Test.YtbaccaipcimlhaaGreatDoorBun7
import Derived.Test.YtbaccaipcimlhaaGreatDoorBun1
import Derived.BigQuiet
import Derived.Deep.QuietTactic
import Derived.Test.YtbaccaipcimlhaaGreatDoorBun4
import Derived.Test.YtbaccaipcimlhaaGreatDoorBun2
import Derived.OpenShut
import Derived.Test.YtbaccaipcimlhaaGreatDoorBun3
import Derived.Deep.Cut
namespace Go.Proofs.YtbaccaipcimlhaaGreatDoor
open Go.RowKit
open Tryz
set_option linter.unusedSimpArgs false
set_option linter.unusedVariables false
set_option maxHeartbeats 4000000
set_option maxRecDepth 100000
theorem Ta {wr wr':World}{b:Nat}{T:TypeId}{a:List Int}{r:Option Nat}(h:gN wr b T a)(g:wr.grownBy wr' r)(hr:∀x,r=some x→b≠x):gN wr' b T a:=by
 rcases r with _|x
 ·exact h.aH g
 exact h.aJ g (hr x rfl)
theorem Tc {w w1 w2:World}{v:Value}{l:List Int}{r:Option Nat}(h:aS w v l)(g1:w.grownBy w1 none)(g2:w1.grownBy w2 r)(hr:∀x,r=some x→w.heap.size≤x):aS w2 v l:=by
 refine aP h ?_
 rcases r with _|x
 ·exact aB g1 g2
 exact aG g1 g2 (hr x rfl)
theorem Hw (w:World)(e:List Int)(s:Bool)(he:e.length=225)(iQ:jv e)(v:Value)(l:List Int)(hi:aS w v l)(hsz:l.length*8≤140737488351232)(r:Bool)(hl:l.length≠80):Calls prog 6 #[eX e s,v,.bool r] w (pW w (nQ e l r) (oC e l r) (oD e l r) (nR e l r) (je e l)):=by
 have Q0:=Zd (Jw.new w e s)
 have CE:=Zd (bY he s)
 have ZC:=Zd (bY (au 225) false)
 have ZO:=Zd (gu (ay 225) false)
 have hz:=jo
 have HE:=Zd he
 have hno:¬q9 e l:=fun k=>hl k.1
 have F:=Zs (∀w',w.grownBy w' none→pW w (nQ e l r) (oC e l r) (oD e l r) (nR e l r) (je e l) (.returned (.tuple #[eX (ay 225) false,.slice none 0 0,.slice none 0 0,.int .i64 1])) w') (fun w' q=>⟨_,_,by rw[(jZ r hno).1,(jZ r hno).2.1,(show je e l=1 from if_neg hl)],by rw[(jZ r hno).2.2.1];exact uj _ _,by rw[(jZ r hno).2.2.2];exact bZ _ _,q⟩)
 have ZB:=Zd (fun wr (h:Jw w e s wr)=>h.fin (ay 225) false (au 225))
 obtain⟨ad,c,rfl,hc,_⟩:=hi
 have hne:((l.length:Int)==80)=false:=beq_eq_false_iff_ne.2 gA
 clear hno hl iQ
 generalize pW w (nQ e l r) (oC e l r) (oD e l r) (nR e l r) (je e l)=T at *
 unfold eX at hz F ⊢
 go_enter func6,ntmps6
 go_upto_region 1 with fail
 generalize (w.alloc (.cells (bK e s).toArray 31)).alloc (.cells (bK (ay 225) false).toArray 31)=W0 at *
 have PB:=Zd (ZB.out W0 Q0.out)
 have FF:=Zd (F.out _ PB.out.2.1)
 go_wp2_with (first|refine sV 0 (bK (ay 225) false) Q0.out.2.1 (by rw[ZC.out];omega) (by rw[ZC.out];exact dH) ZO.out ?_)
 have eO:=wV PB.out.1 (by rw[ZC.out];exact dH)
 refine bodyPost_ret (v:=.tuple #[.agg (bK (ay 225) false).toArray,.slice none 0 0,.slice none 0 0,.int .i64 1]) ?_ rfl FF.out
 simp[results,results6,asAddr,Act.put,eO]
theorem JK (w:World)(e:List Int)(s:Bool)(he:e.length=225)(iQ:jv e)(v:Value)(l:List Int)(hi:aS w v l)(hsz:l.length*8≤140737488351232)(r:Bool)(hl:l.length=80)(hg:cO (fF e)=false):Calls prog 6 #[eX e s,v,.bool r] w (pW w (nQ e l r) (oC e l r) (oD e l r) (nR e l r) (je e l)):=by
 have Q0:=Zd (Jw.new w e s)
 have CE:=Zd (bY he s)
 have ZC:=Zd (bY (au 225) false)
 have ZO:=Zd (gu (ay 225) false)
 have hz:=jo
 have HE:=Zd he
 have hno:¬q9 e l:=fun k=>by have:=k.2.1;rw[hg]at this;cases this
 have F:=Zs (∀w',w.grownBy w' none→pW w (nQ e l r) (oC e l r) (oD e l r) (nR e l r) (je e l) (.returned (.tuple #[eX (ay 225) false,.slice none 0 0,.slice none 0 0,.int .i64 2])) w') (fun w' q=>⟨_,_,by rw[(jZ r hno).1,(jZ r hno).2.1,xM hno hl],by rw[(jZ r hno).2.2.1];exact uj _ _,by rw[(jZ r hno).2.2.2];exact bZ _ _,q⟩)
 have ZB:=Zd (fun wr (h:Jw w e s wr)=>h.fin (ay 225) false (au 225))
 obtain⟨al,cl,rfl⟩:=nY hi gA
 have HI:=Zd (fun wr (g:w.grownBy wr none)=>aP hi g)
 rw[hl]at HI ⊢
 have HL:=Zd hl
 have GD:=Zd (fun wr=>lI (fF e) s (aR _ _ _) (fun i=>by
  by_cases q:i<101
  ·unfold fF;rw[fV _ _ _ _ q];exact iQ _
  rw[dO _ i (by unfold fF;rw[aR];omega)];omega) wr)
 rw[hg]at GD
 have PM:=Zd (lZ s he)
 rw[show bP e 124 101=fF e from rfl]at PM
 clear hno hl iQ hg
 generalize pW w (nQ e l r) (oC e l r) (oD e l r) (nR e l r) (je e l)=T at *
 unfold dI at GD
 unfold eX at hz F ⊢
 go_enter func6,ntmps6
 go_upto_region 1 with fail
 generalize (w.alloc (.cells (bK e s).toArray 31)).alloc (.cells (bK (ay 225) false).toArray 31)=W0 at *
 go_wp2_with (first|refine lV 124 Q0.out.1 aY (by rw[CE.out];omega) PM.out ?_)
 refine(GD.out W0).mono ?_
 rintro x W1 ⟨rfl,g1⟩
 have Q1:=Zd (Q0.out.aH g1)
 clear g1 GD
 have PB:=Zd (ZB.out W1 Q1.out)
 have FF:=Zd (F.out _ PB.out.2.1)
 go_wp2_with (first|refine sV 0 (bK (ay 225) false) Q1.out.2.1 (by rw[ZC.out];omega) (by rw[ZC.out];exact dH) ZO.out ?_)
 have eO:=wV PB.out.1 (by rw[ZC.out];exact dH)
 refine bodyPost_ret (v:=.tuple #[.agg (bK (ay 225) false).toArray,.slice none 0 0,.slice none 0 0,.int .i64 2]) ?_ rfl FF.out
 simp[results,results6,asAddr,Act.put,eO]
theorem Hy (w:World)(e:List Int)(s:Bool)(he:e.length=225)(iQ:jv e)(v:Value)(l:List Int)(hi:aS w v l)(hsz:l.length*8≤140737488351232)(r:Bool)(hl:l.length=80)(hg:cO (fF e)=true)(hh:vH e l=false):Calls prog 6 #[eX e s,v,.bool r] w (pW w (nQ e l r) (oC e l r) (oD e l r) (nR e l r) (je e l)):=by
 have Q0:=Zd (Jw.new w e s)
 have CE:=Zd (bY he s)
 have ZC:=Zd (bY (au 225) false)
 have ZO:=Zd (gu (ay 225) false)
 have hz:=jo
 have HE:=Zd he
 have hno:¬q9 e l:=fun k=>by have:=k.2.2.1;rw[hh]at this;cases this
 have F:=Zs (∀w',w.grownBy w' none→pW w (nQ e l r) (oC e l r) (oD e l r) (nR e l r) (je e l) (.returned (.tuple #[eX (ay 225) false,.slice none 0 0,.slice none 0 0,.int .i64 2])) w') (fun w' q=>⟨_,_,by rw[(jZ r hno).1,(jZ r hno).2.1,xM hno hl],by rw[(jZ r hno).2.2.1];exact uj _ _,by rw[(jZ r hno).2.2.2];exact bZ _ _,q⟩)
 have ZB:=Zd (fun wr (h:Jw w e s wr)=>h.fin (ay 225) false (au 225))
 obtain⟨al,cl,rfl⟩:=nY hi gA
 have HI:=Zd (fun wr (g:w.grownBy wr none)=>aP hi g)
 rw[hl]at HI ⊢
 have HL:=Zd hl
 have GD:=Zd (fun wr=>lI (fF e) s (aR _ _ _) (fun i=>by
  by_cases q:i<101
  ·unfold fF;rw[fV _ _ _ _ q];exact iQ _
  rw[dO _ i (by unfold fF;rw[aR];omega)];omega) wr)
 rw[hg]at GD
 have PM:=Zd (lZ s he)
 rw[show bP e 124 101=fF e from rfl]at PM
 have PH:=Zd (show((bK e s).drop 0).take 4=aO [aC e 0,aC e 1,aC e 2,aC e 3]from by
  rw[m_ s 0 4 gA];rfl)
 have HG:=Zd (fun wr (h:aS wr (.slice (some al) 80 cl) l)=>wK (aC e 0) (aC e 1) (aC e 2) (aC e 3) (.slice (some al) 80 cl) l wr h (.inr ⟨al,cl,by rw[HL.out]⟩) gA)
 rw[show Vx (aC e 0) (aC e 1) (aC e 2) (aC e 3) l=iG e l from rfl]at HG
 unfold hiT at HG
 generalize hh0:hiM (aC e 0) (aC e 1) (aC e 2) (aC e 3) l 0=h0 at HG
 generalize hh1:hiM (aC e 0) (aC e 1) (aC e 2) (aC e 3) l 1=h1 at HG
 generalize Zb:hiM (aC e 0) (aC e 1) (aC e 2) (aC e 3) l 2=h2 at HG
 generalize hh3:hiM (aC e 0) (aC e 1) (aC e 2) (aC e 3) l 3=h3 at HG
 have hE:Qr (aC e 0) (aC e 1) (aC e 2) (aC e 3) l=2:=by unfold Qr;unfold vH at hh;rw[if_neg (by rw[hh];decide)]
 rw[hE]at HG
 clear hno hl iQ hg hh hE hh0 hh1 Zb hh3
 generalize pW w (nQ e l r) (oC e l r) (oD e l r) (nR e l r) (je e l)=T at *
 unfold dI at GD
 unfold eX at hz F ⊢
 go_enter func6,ntmps6
 go_upto_region 1 with fail
 generalize (w.alloc (.cells (bK e s).toArray 31)).alloc (.cells (bK (ay 225) false).toArray 31)=W0 at *
 go_wp2_with (first|refine lV 124 Q0.out.1 aY (by rw[CE.out];omega) PM.out ?_)
 refine(GD.out W0).mono ?_
 rintro x W1 ⟨rfl,g1⟩
 have Q1:=Zd (Q0.out.aH g1)
 clear g1 GD
 go_wp2_with (first|refine lV 0 Q1.out.1 pV (by rw[CE.out];omega) PH.out ?_)
 refine(HG.out W1 (HI.out W1 Q1.out.2.2)).mono ?_
 rintro x W2 ⟨vc,rfl,ic,g2⟩
 have Q2:=Zd ((Q1.out.aH g2).aH (ak W2 (.cells #[.int .i64 h0,.int .i64 h1,.int .i64 h2,.int .i64 h3] 24) none))
 clear Q1 g2 HG ic
 go_upto_region 6 with fail
 generalize W2.alloc (.cells #[.int .i64 h0,.int .i64 h1,.int .i64 h2,.int .i64 h3] 24)=W3 at *
 have PB:=Zd (ZB.out W3 Q2.out)
 have FF:=Zd (F.out _ PB.out.2.1)
 go_wp2_with (first|refine sV 0 (bK (ay 225) false) Q2.out.2.1 (by rw[ZC.out];omega) (by rw[ZC.out];exact dH) ZO.out ?_)
 have eO:=wV PB.out.1 (by rw[ZC.out];exact dH)
 refine bodyPost_ret (v:=.tuple #[.agg (bK (ay 225) false).toArray,.slice none 0 0,.slice none 0 0,.int .i64 2]) ?_ rfl FF.out
 simp[results,results6,asAddr,Act.put,eO]
theorem Hz (w:World)(e:List Int)(s:Bool)(he:e.length=225)(iQ:jv e)(v:Value)(l:List Int)(hi:aS w v l)(hsz:l.length*8≤140737488351232)(r:Bool)(hl:l.length=80)(hg:cO (fF e)=true)(hh:vH e l=true)(hc:aL (lT e l)=false):Calls prog 6 #[eX e s,v,.bool r] w (pW w (nQ e l r) (oC e l r) (oD e l r) (nR e l r) (je e l)):=by
 have Q0:=Zd (Jw.new w e s)
 have CE:=Zd (bY he s)
 have ZC:=Zd (bY (au 225) false)
 have ZO:=Zd (gu (ay 225) false)
 have hz:=jo
 have HE:=Zd he
 have hno:¬q9 e l:=fun k=>by have:=k.2.2.2;rw[hc]at this;cases this
 have F:=Zs (∀w',w.grownBy w' none→pW w (nQ e l r) (oC e l r) (oD e l r) (nR e l r) (je e l) (.returned (.tuple #[eX (ay 225) false,.slice none 0 0,.slice none 0 0,.int .i64 2])) w') (fun w' q=>⟨_,_,by rw[(jZ r hno).1,(jZ r hno).2.1,xM hno hl],by rw[(jZ r hno).2.2.1];exact uj _ _,by rw[(jZ r hno).2.2.2];exact bZ _ _,q⟩)
 have ZB:=Zd (fun wr (h:Jw w e s wr)=>h.fin (ay 225) false (au 225))
 have yP:=Zs ((iG e l).length=80) ((xH hh).trans hl)
 have IW:=Zd (xJ hl hh)
 obtain⟨al,cl,rfl⟩:=nY hi gA
 have HI:=Zd (fun wr (g:w.grownBy wr none)=>aP hi g)
 rw[hl]at HI ⊢
 have HL:=Zd hl
 have GD:=Zd (fun wr=>lI (fF e) s (aR _ _ _) (fun i=>by
  by_cases q:i<101
  ·unfold fF;rw[fV _ _ _ _ q];exact iQ _
  rw[dO _ i (by unfold fF;rw[aR];omega)];omega) wr)
 rw[hg]at GD
 have PM:=Zd (lZ s he)
 rw[show bP e 124 101=fF e from rfl]at PM
 have PH:=Zd (show((bK e s).drop 0).take 4=aO [aC e 0,aC e 1,aC e 2,aC e 3]from by
  rw[m_ s 0 4 gA];rfl)
 have HG:=Zd (fun wr (h:aS wr (.slice (some al) 80 cl) l)=>wK (aC e 0) (aC e 1) (aC e 2) (aC e 3) (.slice (some al) 80 cl) l wr h (.inr ⟨al,cl,by rw[HL.out]⟩) gA)
 rw[show Vx (aC e 0) (aC e 1) (aC e 2) (aC e 3) l=iG e l from rfl]at HG
 unfold hiT at HG
 generalize hh0:hiM (aC e 0) (aC e 1) (aC e 2) (aC e 3) l 0=h0 at HG
 generalize hh1:hiM (aC e 0) (aC e 1) (aC e 2) (aC e 3) l 1=h1 at HG
 generalize Zb:hiM (aC e 0) (aC e 1) (aC e 2) (aC e 3) l 2=h2 at HG
 generalize hh3:hiM (aC e 0) (aC e 1) (aC e 2) (aC e 3) l 3=h3 at HG
 have hE:Qr (aC e 0) (aC e 1) (aC e 2) (aC e 3) l=0:=by unfold Qr;unfold vH at hh;rw[if_pos hh]
 rw[hE]at HG
 have CO:=Zd (fun v wr (h:aS wr v (lT e l))=>JJ v (lT e l) wr h IW.out hc)
 clear hno hl iQ hg hh hE hc hh0 hh1 Zb hh3
 generalize pW w (nQ e l r) (oC e l r) (oD e l r) (nR e l r) (je e l)=T at *
 unfold dI at GD
 unfold eX at hz F ⊢
 go_enter func6,ntmps6
 go_upto_region 1 with fail
 generalize (w.alloc (.cells (bK e s).toArray 31)).alloc (.cells (bK (ay 225) false).toArray 31)=W0 at *
 go_wp2_with (first|refine lV 124 Q0.out.1 aY (by rw[CE.out];omega) PM.out ?_)
 refine(GD.out W0).mono ?_
 rintro x W1 ⟨rfl,g1⟩
 have Q1:=Zd (Q0.out.aH g1)
 clear g1 GD
 go_wp2_with (first|refine lV 0 Q1.out.1 pV (by rw[CE.out];omega) PH.out ?_)
 refine(HG.out W1 (HI.out W1 Q1.out.2.2)).mono ?_
 rintro x W2 ⟨vc,rfl,ic,g2⟩
 have Q3:=Zd ((Q1.out.aH g2).aH (ak W2 (.cells #[.int .i64 h0,.int .i64 h1,.int .i64 h2,.int .i64 h3] 24) none))
 have BH:=Zs (gN (W2.alloc (.cells #[.int .i64 h0,.int .i64 h1,.int .i64 h2,.int .i64 h3] 24)) W2.heap.size 24 [h0,h1,h2,h3]) (gN.new W2 24 [h0,h1,h2,h3])
 have IC:=Zd (aP ic (ak W2 (.cells #[.int .i64 h0,.int .i64 h1,.int .i64 h2,.int .i64 h3] 24) none))
 obtain⟨ac,cc,rfl⟩:=nY ic (by rw[yP.out];omega)
 rw[yP.out]at IC ⊢
 clear Q1 g2 HG ic
 go_upto_region 8 with fail
 generalize W2.alloc (.cells #[.int .i64 h0,.int .i64 h1,.int .i64 h2,.int .i64 h3] 24)=W3 at *
 generalize W2.heap.size=bh at *
 have N3:=Zs (w.heap.size+1+1≤W3.heap.size) (Q3.out.2.1.lt)
 have IP:=Zd (Q3.out.1.input 84 40 40 (by rw[HE.out];omega) gA)
 have SP:=Zs (rR (.slice (some ⟨w.heap.size,84,none⟩) 40 40) (bP e 84 40)) (.inr ⟨_,_,by rw[aR]⟩)
 go_wp2_with (at_builtin;refine dF (by rfl) _ _ rfl W3.heap.size _ _ [] (bP e 84 40) rfl rfl (bZ _ _) IP.out SP.out (by rw[aR];simp) (Nat.le_refl _) ?_)
 intro v4 w4 o4 g4
 (try rw[List.nil_append]at o4)
 have Q4:=Zd (Q3.out.aH g4)
 have BH4:=Zd (BH.out.aH g4)
 have IC4:=Zd (aP IC.out g4)
 have SC:=Zs (rR (.slice (some ac) 80 cc) (iG e l)) (.inr ⟨_,_,by rw[yP.out]⟩)
 have O4:=Zd o4
 have N4:=Zd (Nat.le_refl w4.heap.size)
 have G4:=Zd g4
 have A4:=Zs (∀x,v4.ownBlock=some x→W3.heap.size≤x) (fun x hx=>(o4.lt x hx).1)
 have S4:=Zs (W3.heap.size≤w4.heap.size) (g4.size)
 clear o4 g4
 go_wp2_with (at_builtin;refine dF (by rfl) _ _ rfl W3.heap.size _ _ (bP e 84 40) (iG e l) rfl rfl O4.out IC4.out SC.out (by rw[aR,yP.out];omega) S4.out ?_)
 intro v5 W5 o5 g5
 rw[show bP e 84 40++iG e l=lT e l from rfl]at o5
 have O5:=Zd o5
 have Q5:=Zd (Q4.out.own g5 (fun x hx=>by have:=A4.out x hx;have:=N3.out;omega))
 have BH5:=Zd (Ta BH4.out g5 (fun x hx=>by have:=A4.out x hx;have:=BH.out.lt;omega))
 have IC5:=Zs (aS W5 (.slice (some ac) 80 cc) (iG e l)) (Tc (w:=W3) IC.out G4.out g5 (fun x hx=>A4.out x hx))
 clear o5 g5
 obtain⟨gi,ci,rfl,_,_,_⟩:=O5.out.form (by rw[IW.out];omega)
 rw[IW.out]at O5 ⊢
 go_upto_region 9 with fail
 go_wp2_with fail
 refine(CO.out _ W5 O5.out.ints).mono ?_
 rintro x W6 ⟨rfl,g6⟩
 rw[show rU=.agg (aD (ay 9))from rfl]
 obtain⟨b1,b2,b3⟩:=dL W6 58 9 (ay 9) (au 9)
 have B1:=Zd b1
 have Q7:=Zd ((Q5.out.aH g6).aH b3)
 rw[J7]at B1 Q7
 clear g6 CO b1 b2 b3 O5
 have SZ9:=Zs ((prog.info? 58).map (·.size)=some (ay 9).length) (by rw[au];exact dz)
 generalize ay 9=Z9 at *
 go_upto_region 10 with(first|refine sA Z9 B1.out rfl SZ9.out ?_)
 generalize bT _ W6.heap.size Z9=W7 at *
 have PB:=Zd (ZB.out W7 Q7.out)
 have FF:=Zd (F.out _ PB.out.2.1)
 go_wp2_with (first|refine sV 0 (bK (ay 225) false) Q7.out.2.1 (by rw[ZC.out];omega) (by rw[ZC.out];exact dH) ZO.out ?_)
 have eO:=wV PB.out.1 (by rw[ZC.out];exact dH)
 refine bodyPost_ret (v:=.tuple #[.agg (bK (ay 225) false).toArray,.slice none 0 0,.slice none 0 0,.int .i64 2]) ?_ rfl FF.out
 simp[results,results6,asAddr,Act.put,eO]
theorem Xj (w:World):jJ (w.alloc iI) w.heap.size 0:=⟨_,[],cK _ _,qX _,uJ,qb,by rw[mh];rfl,by simp⟩
theorem xO (va vb:Value)(a b:List Int)(w:World)(ha:aS w va a)(hb:aS w vb b)(hl:a.length≤1000)(hlb:a.length≤b.length)(ra:aL a=true)(rb:aL b=true) :
 Calls prog 22 #[va,vb] w (gJ w (.int .i64 (fE a b a.length))):=by
 have DB:=Zd (mq a b ra rb)
 have RA:=Zd ((aV a).1 ra)
 have RB:=Zd ((aV b).1 rb)
 obtain⟨ada,ca,rfl,hca,qZ⟩:=ha
 obtain⟨adb,cb',rfl,hcb,qc⟩:=hb
 have VA:=Zd qZ
 have VB:=Zd qc
 have I0:=Zd (Xj w)
 have G0:=Zd (ak w iI none)
 have HN:=Zs (fE a b 0=0) (rfl)
 rw[show iI=.cells #[.bool false,.slice none 0 0] 96 from rfl]at I0 G0
 clear qZ qc ra rb
 go_enter func22,ntmps22
 go_wp2_with fail
 generalize w.alloc (.cells #[.bool false,.slice none 0 0] 96)=W0 at *
 go_loopw [10] (fun i wr=>∃m:Nat,i=.int .i64 m∧m≤a.length∧Hid (jJ wr w.heap.size (fE a b m))∧Hid (w.grownBy wr none)) (fun i _=>a.length-(intOf i).toNat)
 case atStart=>exact⟨0,rfl,Nat.zero_le _,by rw[HN.out];exact I0.out,G0.out⟩
 case round=>
  obtain⟨m,rfl,hm,hI,hG⟩:=hrel
  clear I0 G0
  by_cases hml:m<a.length
  ·obtain⟨aa,rfl,qZ⟩:=VA.out gA
   obtain⟨ab,rfl,qc⟩:=VB.out gA
   have ca:=qZ m hml
   have cb:=qc m gA
   obtain⟨x1,x2⟩:=RA.out m hml
   obtain⟨y1,y2⟩:=RB.out m gA
   obtain⟨d1,d2⟩:=DB.out m
   have ES:=Zs (fE a b (m+1)=fE a b m+aC a m*aC b m) (rfl)
   clear qZ qc HN
   generalize aC a m=x at *
   generalize aC b m=y at *
   generalize fE a b m=S at *
   obtain⟨p1,p2⟩:=pK x y x1 x2 y1 y2
   have i1:(m:Int)<a.length:=gA
   have i2:(m:Int)<b.length:=gA
   have i3:(m:Int)≤1000:=gA
   go_wp2_with fail
   refine wp_region_held_drew (S:=dM w) (by kernel_rfl) (bD hG.out (bW (aQ _ none))) (fun aj=>?_)
   have IS:=Zd (bJ hI.out (bW (aQ wr none)))
   clear hI hG
   refine bV 0 aj ?_
   refine bV 1 aj ?_
   refine bV 3 aj ?_
   refine bV 4 aj ?_
   refine bV 5 aj ?_
   refine bV (hy:=by intro w' bL;have c1:=bA bL ca;go_simp;(try with_reducible rfl)) 6 aj ?_
   refine bV 8 aj ?_
   refine bV 9 aj ?_
   refine bV 10 aj ?_
   refine bV (hy:=by intro w' bL;have c2:=bA bL cb;go_simp;(try with_reducible rfl)) 11 aj ?_
   refine oL 2 7 (fun K hK=>?alI) fun K hK=>?alJ
   case alI=>
    (try simp only[sZ])
    go_simp
    go_wp2_with fail
    have LZ:=Zs (w.heap.size<wr.heap.size) (Nat.lt_of_lt_of_le (mV IS.out) (by first|exact Nat.le_refl _|simp))
    refine hK.out _ _ (dX aj (.cells #[.bool false,.slice none 0 0] 96)) (fun aj=>?_)
    have IS:=Zd (bJ IS.out (ak (wr.drew) (.cells #[.bool false,.slice none 0 0] 96) none))
    have ZS:=Zs (Struct ((wr.alloc (.cells #[.bool false,.slice none 0 0] 96)).drew) (wr.heap.size)) (eT (wr.drew))
    have ajd:(wr.drew).alloc (.cells #[.bool false,.slice none 0 0] 96)=(wr.alloc (.cells #[.bool false,.slice none 0 0] 96)).drew:=rfl
    rw[ajd]at IS
    clear ajd
    generalize (wr.alloc (.cells #[.bool false,.slice none 0 0] 96)).drew=anf at *
    generalize wr.heap.size=bz at *
    (try simp only[sZ])
    refine fI 7 fun K hK=>?_
    (try simp only[sZ])
    go_simp
    refine(eD x _ gA gA).mono ?_
    rintro e an_ ⟨bx,rfl,aje,ajf,ajg⟩
    have ah_:=Zd ajg
    have IX:=Zd ajf
    have IS:=Zd (bJ IS.out ah_.out)
    have ZS:=Zd (bG ZS.out ah_.out (by simp))
    clear ajf aje ajg
    go_wp2_with fail
    refine hK.out _ _ (bD aj ah_.out) (fun aj=>?_)
    (try simp only[sZ])
    refine fI 12 fun K hK=>?_
    (try simp only[sZ])
    go_simp
    refine(eD y _ gA gA).mono ?_
    rintro e aoa ⟨iP,rfl,ajh,aji,ajj⟩
    have agi:=Zd ajj
    have IY:=Zd aji
    have IS:=Zd (bJ IS.out agi.out)
    have ZS:=Zd (bG ZS.out agi.out (by simp))
    have IX:=Zd (bJ IX.out agi.out)
    clear aji ajh ajj
    go_wp2_with fail
    refine hK.out _ _ (bD aj agi.out) (fun aj=>?_)
    (try simp only[sZ])
    refine fI 13 fun K hK=>?_
    (try simp only[sZ])
    go_simp
    refine(iC bz bx iP x y _ ZS.out IX.out IY.out (by rw[P8] ;omega) (by rw[P8];omega)).mono ?_
    rintro e aob ⟨rfl,ajk,ajl⟩
    have ajm:=Zd ajl
    have IP:=Zd ajk
    have IS:=Zd (dU IS.out ajm.out ZS.out (by have:=LZ.out;omega))
    clear ajk ajl IX IY
    go_wp2_with fail
    refine hK.out _ _ (iV aj ajm.out (by have:=LZ.out;omega)) (fun aj=>?_)
    clear ZS
    (try simp only[sZ])
    refine fI 14 fun K hK=>?_
    (try simp only[sZ])
    go_simp
    refine(jP w.heap.size w.heap.size bz S (x*y) _ (bU IS.out) IS.out IP.out (by rw[P8];omega) (by rw[P8];omega)).mono ?_
    rintro e aoc ⟨rfl,aia,ajn⟩
    have alK:=Zd ajn
    rw[←ES.out]at aia
    have IS:=Zd aia
    clear aia ajn IP
    go_wp2_with fail
    refine hK.out _ _ (iV aj alK.out (Nat.le_refl _)) (fun aj=>?_)
    (try simp only[sZ])
    refine lM ?_
    go_wp2_with fail
    go_roundw
    case rel=>exact⟨m+1,by go_num,gA,IS.out,aj⟩
    case measure=>simp[intOf];omega
   case alJ=>
    (try simp only[sZ])
    go_simp
    refine(eD x _ gA gA).mono ?_
    rintro e Tg ⟨bx,rfl,ajo,ajp,ajq⟩
    have ajr:=Zd ajq
    have IX:=Zd ajp
    have IS:=Zd (bJ IS.out ajr.out)
    clear ajp ajo ajq
    go_wp2_with fail
    refine hK.out _ _ (bD aj ajr.out) (fun aj=>?_)
    (try simp only[sZ])
    refine oL 2 12 (fun K hK=>?alL) fun K hK=>?alM
    case alL=>
     (try simp only[sZ])
     go_simp
     go_wp2_with fail
     have LZ:=Zs (w.heap.size<Tg.heap.size) (Nat.lt_of_lt_of_le (mV IS.out) (by first|exact Nat.le_refl _|simp))
     refine hK.out _ _ (dX aj (.cells #[.bool false,.slice none 0 0] 96)) (fun aj=>?_)
     have IS:=Zd (bJ IS.out (ak (Tg) (.cells #[.bool false,.slice none 0 0] 96) none))
     have IX:=Zd (bJ IX.out (ak (Tg) (.cells #[.bool false,.slice none 0 0] 96) none))
     have ZS:=Zs (Struct (Tg.alloc (.cells #[.bool false,.slice none 0 0] 96)) (Tg.heap.size)) (eT (Tg))
     generalize Tg.alloc (.cells #[.bool false,.slice none 0 0] 96)=ang at *
     generalize Tg.heap.size=bz at *
     (try simp only[sZ])
     refine fI 12 fun K hK=>?_
     (try simp only[sZ])
     go_simp
     refine(eD y _ gA gA).mono ?_
     rintro e aod ⟨iP,rfl,ajs,ajt,aju⟩
     have agj:=Zd aju
     have IY:=Zd ajt
     have IS:=Zd (bJ IS.out agj.out)
     have IX:=Zd (bJ IX.out agj.out)
     have ZS:=Zd (bG ZS.out agj.out (by simp))
     clear ajt ajs aju
     go_wp2_with fail
     refine hK.out _ _ (bD aj agj.out) (fun aj=>?_)
     (try simp only[sZ])
     refine fI 13 fun K hK=>?_
     (try simp only[sZ])
     go_simp
     refine(iC bz bx iP x y _ ZS.out IX.out IY.out (by rw[P8] ;omega) (by rw[P8];omega)).mono ?_
     rintro e aoe ⟨rfl,ajv,ajw⟩
     have ajx:=Zd ajw
     have IP:=Zd ajv
     have IS:=Zd (dU IS.out ajx.out ZS.out (by have:=LZ.out;omega))
     clear ajv ajw IX IY
     go_wp2_with fail
     refine hK.out _ _ (iV aj ajx.out (by have:=LZ.out;omega)) (fun aj=>?_)
     clear ZS
     (try simp only[sZ])
     refine fI 14 fun K hK=>?_
     (try simp only[sZ])
     go_simp
     refine(jP w.heap.size w.heap.size bz S (x*y) _ (bU IS.out) IS.out IP.out (by rw[P8];omega) (by rw[P8];omega)).mono ?_
     rintro e aof ⟨rfl,aib,ajy⟩
     have alN:=Zd ajy
     rw[←ES.out]at aib
     have IS:=Zd aib
     clear aib ajy IP
     go_wp2_with fail
     refine hK.out _ _ (iV aj alN.out (Nat.le_refl _)) (fun aj=>?_)
     (try simp only[sZ])
     refine lM ?_
     go_wp2_with fail
     go_roundw
     case rel=>exact⟨m+1,by go_num,gA,IS.out,aj⟩
     case measure=>simp[intOf];omega
    case alM=>
     (try simp only[sZ])
     go_simp
     refine(eD y _ gA gA).mono ?_
     rintro e Ob ⟨iP,rfl,ajz,ajA,ajB⟩
     have aic:=Zd ajB
     have IY:=Zd ajA
     have IS:=Zd (bJ IS.out aic.out)
     have IX:=Zd (bJ IX.out aic.out)
     clear ajA ajz ajB
     go_wp2_with fail
     refine hK.out _ _ (bD aj aic.out) (fun aj=>?_)
     (try simp only[sZ])
     refine fI 2 fun K hK=>?_
     (try simp only[sZ])
     go_simp
     go_wp2_with fail
     have LZ:=Zs (w.heap.size<Ob.heap.size) (Nat.lt_of_lt_of_le (mV IS.out) (by first|exact Nat.le_refl _|simp))
     refine hK.out _ _ (dX aj (.cells #[.bool false,.slice none 0 0] 96)) (fun aj=>?_)
     have IS:=Zd (bJ IS.out (ak (Ob) (.cells #[.bool false,.slice none 0 0] 96) none))
     have IX:=Zd (bJ IX.out (ak (Ob) (.cells #[.bool false,.slice none 0 0] 96) none))
     have IY:=Zd (bJ IY.out (ak (Ob) (.cells #[.bool false,.slice none 0 0] 96) none))
     have ZS:=Zs (Struct (Ob.alloc (.cells #[.bool false,.slice none 0 0] 96)) (Ob.heap.size)) (eT (Ob))
     generalize Ob.alloc (.cells #[.bool false,.slice none 0 0] 96)=anh at *
     generalize Ob.heap.size=bz at *
     (try simp only[sZ])
     refine fI 13 fun K hK=>?_
     (try simp only[sZ])
     go_simp
     refine(iC bz bx iP x y _ ZS.out IX.out IY.out (by rw[P8] ;omega) (by rw[P8];omega)).mono ?_
     rintro e aog ⟨rfl,ajC,ajD⟩
     have ajE:=Zd ajD
     have IP:=Zd ajC
     have IS:=Zd (dU IS.out ajE.out ZS.out (by have:=LZ.out;omega))
     clear ajC ajD IX IY
     go_wp2_with fail
     refine hK.out _ _ (iV aj ajE.out (by have:=LZ.out;omega)) (fun aj=>?_)
     clear ZS
     (try simp only[sZ])
     refine fI 14 fun K hK=>?_
     (try simp only[sZ])
     go_simp
     refine(jP w.heap.size w.heap.size bz S (x*y) _ (bU IS.out) IS.out IP.out (by rw[P8];omega) (by rw[P8];omega)).mono ?_
     rintro e aoh ⟨rfl,aie,ajF⟩
     have alO:=Zd ajF
     rw[←ES.out]at aie
     have IS:=Zd aie
     clear aie ajF IP
     go_wp2_with fail
     refine hK.out _ _ (iV aj alO.out (Nat.le_refl _)) (fun aj=>?_)
     (try simp only[sZ])
     refine lM ?_
     go_wp2_with fail
     go_roundw
     case rel=>exact⟨m+1,by go_num,gA,IS.out,aj⟩
     case measure=>simp[intOf];omega
  obtain rfl:m=a.length:=gA
  obtain⟨d1,d2⟩:=DB.out a.length
  have N:=Zd (nT w.heap.size _ wr hI.out gA gA)
  have GF:=hG
  clear HN hI hG
  generalize fE a b a.length=S at *
  go_wp2_with fail
  refine N.out.mono ?_
  rintro e w1 ⟨rfl,rfl⟩
  go_wp2_with fail
  go_ret
  exact⟨rfl,GF.out⟩
theorem aif:(prog.info? 27).map (·.size)=some 80:=by kernel_rfl
theorem wP (h:List Int)(hh:h.length=80)(eH:Int)(w:World) :
 Calls prog 72 #[.agg (aD h),.int .i64 eH] w (fO w (mJ h eH) (AU eH)):=by
 have B0:=Zd (bO.new w 27 h)
 have G0:=Zd (ak w (.cells (aD h) 27) none)
 have N0:=Zs (w.heap.size+1≤(w.alloc (.cells (aD h) 27)).heap.size) (by simp)
 by_cases C_:20≤eH∧eH≤79
 ·obtain⟨L,rfl⟩:∃L:Nat,eH=(L:Int):=⟨eH.toNat,gA⟩
  obtain⟨e1,e2⟩:=qO h L gA gA
  rw[e1,e2]
  obtain⟨l1,l2⟩:=C_
  clear e1 e2
  go_enter func72,ntmps72
  go_wp2_with fail
  generalize w.alloc (.cells (aD h) 27)=W0 at *
  go_loopw [6,7] (fun vo i wr=>∃(m:Nat),i=.int .i64 m∧m≤40∧Hid (gP (w.heap.size+1) wr vo (fM m (yG h L)))∧Hid (bO wr w.heap.size 27 h)∧Hid (w.grownBy wr none)∧Hid (w.heap.size+1≤wr.heap.size)) (fun _ i _=>40-(intOf i).toNat)
  case atStart=>exact⟨0,rfl,Nat.zero_le _,bZ _ _,B0.out,G0.out,N0.out⟩
  case round=>
   obtain⟨m,rfl,hm,hO,hB,hG,hN⟩:=hrel
   clear B0 G0 N0
   by_cases kP:m<40
   ·have hj:80-L+m % L<80:=by have:=Nat.mod_lt m (show 0<L by omega);omega
    have cx:=hB.out.cell (80-L+m % L) gA
    rw[show aC h (80-L+m % L)=yG h L m from rfl]at cx
    have ES:=Zs (fM (m+1) (yG h L)=fM m (yG h L)++[yG h L m]) (by unfold fM;rw[List.range_succ];simp)
    have LN:=Zd (bQ m (yG h L))
    have i1:(m:Int)<40:=gA
    generalize yG h L m=z at *
    go_wp2_with (at_builtin;refine dF (by rfl) _ _ rfl (w.heap.size+1) _ (.slice (some ⟨wr.heap.size,0,none⟩) 1 1) (fM m (yG h L)) [z] rfl rfl (hO.out.aH (ak _ _ none)) (tL wr z) (.inr ⟨_,_,rfl⟩) (by rw[LN.out];simp;omega) (by have:=hN.out;simp;omega) ?_)
    intro v5 w5 h5 g5
    rw[←ES.out]at h5
    have O5:=Zd h5
    have ga:=ak wr (.cells #[.int .i64 z] 3) none
    have hlt:∀b,u6.ownBlock=some b→w.heap.size+1≤b:=fun b hb=>(hO.out.lt b hb).1
    have B5:=Zd (show bO w5 w.heap.size 27 h from by
     have hB':=hB.out.aH ga
     rcases eb:u6.ownBlock with _|b
     ·rw[eb]at g5;exact hB'.aH g5
     have:=hlt b eb
     rw[eb]at g5;exact hB'.aJ g5 gA)
    have G5:=Zd (gU (aB hG.out ga) g5 (fun b hb=>by have:=hlt b hb;omega))
    have N5:=Zd (Nat.le_trans (Nat.le_trans hN.out ga.size) g5.size)
    clear h5 g5 ga hlt hO hB hG hN cx
    go_wp2_with fail
    go_roundw
    case rel=>exact⟨m+1,by go_num,gA,O5.out,B5.out,G5.out,N5.out⟩
    case measure=>simp[intOf];omega
   obtain rfl:m=40:=gA
   have OF:=Zd (hO.out.base (b':=w.heap.size) gA)
   have GF:=hG
   clear hO hB hG hN
   go_wp2_with fail
   go_ret2
   exact⟨_,rfl,OF.out,GF.out⟩
 rw[show mJ h eH=[]from if_neg C_,show AU eH=2 from if_neg C_]
 by_cases h1:eH<20
 ·clear C_
  go_enter func72,ntmps72
  go_wp2_with fail
  go_ret2
  exact⟨_,rfl,bZ _ _,G0.out⟩
 have h2:79<eH:=gA
 clear C_
 go_enter func72,ntmps72
 go_wp2_with fail
 go_ret2
 exact⟨_,rfl,bZ _ _,G0.out⟩
theorem Od (s x:Int)(w:World)(s0:-9223372036854775808≤s)(s9:s≤9223372036854775807) :
 Calls prog 203 #[.int .i64 s,.int .i64 x] w (gJ w (.tuple #[.int .i64 (vS s),.int .i64 (Us s x)])):=by
 obtain⟨a1,a2⟩:=AR s
 obtain⟨p1,p2⟩:=abQ s x
 have DN:=Zd (fun w'=>jM ((vS s-32768)*Iw x) 15 gA gA gA w')
 rw[show(2:Int)^15=32768 by decide,show((15:Nat):Int)=15 from rfl,show(vS s-32768)*Iw x / 32768=Us s x from rfl]at DN
 have F:=Zs (∀w',w.grownBy w' none→gJ w (.tuple #[.int .i64 (vS s),.int .i64 (Us s x)]) (.returned (.tuple #[.int .i64 (vS s),.int .i64 (Us s x)])) w') (fun w' h=>⟨rfl,h⟩)
 generalize gJ w (.tuple #[.int .i64 (vS s),.int .i64 (Us s x)])=T at *
 have ZS:=Zd (eT w)
 have GZ:=Zd (ak w iI none)
 rw[show iI=.cells #[.bool false,.slice none 0 0] 96 from rfl]at ZS GZ
 have EN:=Zs ((s*31821+13849) % 65536=vS s) (rfl)
 have m1:max x 0=(if x<0 then 0 else x):=by split<;>omega
 have m2:min (max x 0) 32767=Iw x:=by unfold Iw;split<;>(try split)<;>omega
 have EZ:=Zd m2
 clear m1 m2
 generalize Us s x=y at *
 generalize vS s=t at *
 go_enter func203,ntmps203
 go_wp2_with fail
 generalize hwz:w.alloc (.cells #[.bool false,.slice none 0 0] 96)=wz at *
 generalize hbs:w.heap.size=bs at *
 have BS:=Zd hbs
 clear hwz hbs
 refine(eD s _ s0 s9).mono ?_
 rintro ee wa ⟨bx,rfl,hb1,ix,g1⟩
 have IX:=Zd ix
 have ZS:=Zd (bG ZS.out g1 (by simp))
 have GZ:=Zd (aB GZ.out g1)
 clear ix g1 hb1
 go_wp2_with fail
 refine(jN 31821 _ gA gA).mono ?_
 rintro ee wb ⟨iP,rfl,hb2,iy,g2⟩
 have IY:=Zd iy
 have IX:=Zd (bJ IX.out g2)
 have ZS:=Zd (bG ZS.out g2 (by simp))
 have GZ:=Zd (aB GZ.out g2)
 clear iy g2 hb2
 go_wp2_with fail
 refine(iC bs bx iP s 31821 _ ZS.out IX.out IY.out (by rw[P8];omega) (by rw[P8];omega)).mono ?_
 rintro ee wc ⟨rfl,ip,g3⟩
 have IS:=Zd ip
 have hG:=Zd (aG GZ.out g3 (by rw[BS.out];exact Nat.le_refl _))
 clear ip g3 IX IY ZS
 go_wp2_with fail
 refine(jN 13849 _ gA gA).mono ?_
 rintro ee wd ⟨bd,rfl,hb2,iy,g2⟩
 have IY:=Zd iy
 have IS:=Zd (bJ IS.out g2)
 have hG:=Zd (aB hG.out g2)
 clear iy g2 hb2
 go_wp2_with fail
 refine(jP bs bs bd (s*31821) 13849 _ (bU IS.out) IS.out IY.out (by rw[P8];omega) (by rw[P8];omega)).mono ?_
 rintro ee we ⟨rfl,ip,g3⟩
 have hG:=Zd (aG hG.out g3 (by rw[BS.out];exact Nat.le_refl _))
 have IS:=Zd ip
 clear ip g3 IY
 go_wp2_with fail
 refine(jN 65536 _ gA gA).mono ?_
 rintro ee wf ⟨bf,rfl,hb2,iy,g2⟩
 have IY:=Zd iy
 have IS:=Zd (bJ IS.out g2)
 have hG:=Zd (aB hG.out g2)
 clear iy g2 hb2
 go_wp2_with fail
 refine(Xm bs bs bf (s*31821+13849) 65536 _ (bU IS.out) IS.out IY.out gA gA gA gA).mono ?_
 rintro ee wg ⟨rfl,ip,g3⟩
 rw[EN.out]at ip
 have hG:=Zd (aG hG.out g3 (by rw[BS.out];exact Nat.le_refl _))
 have I:=Zd (nT bs t wg ip gA gA)
 clear ip g3 IY IS
 go_wp2_with fail
 refine I.out.mono ?_
 rintro ee wh ⟨rfl,rfl⟩
 clear I
 have W1:=Zd (Dn _ (Int.le_trans gA p1) (Int.le_trans p2 gA))
 clear p1 p2
 go_wp2_with fail
 rw[EZ.out,W1.out]
 refine(DN.out _).mono ?_
 rintro ee wi ⟨rfl,g2⟩
 have F1:=Zd (F.out wi (aB hG.out g2))
 clear DN g2
 go_wp2_with fail
 first|exact F1.out|(go_ret2;exact F1.out)
theorem g_.ac9 {w wr:World}{T1 T2 T3:TypeId}{a b c b':List Int}(h:g_ w wr T1 T2 T3 a b c)(hl:b'.length=b.length):bO (bT wr (w.heap.size+1) b') (w.heap.size+1) T2 b'∧w.grownBy (bT wr (w.heap.size+1) b') none:=by
 have:=bB (rs':=b') h.2.1 hl
 exact⟨this.1,aG h.2.2.2 this.2 gA⟩
theorem Tt (w:World)(T1 T2 T3:TypeId)(a b c:List Int):g_ w (((w.alloc (.cells (aD a) T1)).alloc (.cells (aD b) T2)).alloc (.cells (aD c) T3)) T1 T2 T3 a b c:=by
 refine⟨((bO.new w T1 a).aH (ak _ _ none)).aH (ak _ _ none),?_,?_,aB (aB (ak _ _ none) (ak _ _ none)) (ak _ _ none)⟩
 ·have:=(bO.new (w.alloc (.cells (aD a) T1)) T2 b).aH (ak _ (.cells (aD c) T3) none)
  simpa using this
 have:=bO.new ((w.alloc (.cells (aD a) T1)).alloc (.cells (aD b) T2)) T3 c
 simpa using this
theorem Xn (h:List Int)(v:Value)(b:List Int)(w:World)(hh:h.length=80)(hv:aS w v b)(hl:b.length≠40)(ni:b.length≤1000000000000000000) :
 Calls prog 80 #[.agg (aD h),v] w (zy w (Dw h b) (OJ b)):=by
 obtain⟨ad,c,rfl,hc,_⟩:=hv
 have M0:=Zd (Tt w 27 27 27 h (ay 80) (ay 80))
 have PU:=M0.out.ac9 (b':=ay 80) rfl
 have PB:=Zd PU.1
 have ZL:=Zd (au 80)
 have hz:=gM z80
 have hne:((b.length:Int)==40)=false:=beq_eq_false_iff_ne.2 gA
 have F:=Zs (zy w (Dw h b) (OJ b) (.returned (.tuple #[.agg (aD (ay 80)),.int .i64 1])) _) (⟨by rw[(LW (h:=h) hl).1,(LW (h:=h) hl).2],PU.2⟩)
 clear PU hl hh
 generalize zy w (Dw h b) (OJ b)=T at *
 generalize ay 80=Z at *
 go_enter func80,ntmps80
 go_upto_region 2 with fail
 generalize ((w.alloc (.cells (aD h) 27)).alloc (.cells (aD Z) 27)).alloc (.cells (aD Z) 27)=W0 at *
 go_wp2_with (first|refine lA M0.out.2.2.1 (by rw[ZL.out];exact fP) ?_|refine sA Z M0.out.2.1 rfl (by rw[ZL.out];exact fP) ?_)
 have eO:=lS PB.out (by rw[ZL.out];exact fP)
 refine bodyPost_ret (v:=.tuple #[.agg (aD Z),.int .i64 1]) ?_ rfl F.out
 simp[results,results80,asAddr,Act.put,eO]
theorem Tv (h:List Int)(v:Value)(b:List Int)(w:World)(hh:h.length=80)(hv:aS w v b)(hl:b.length=40)(iQ:jv b) :
 Calls prog 80 #[.agg (aD h),v] w (zy w (Dw h b) (OJ b)):=by
 have IV:=Zd (fun wr (g:w.grownBy wr none)=>aP hv g)
 obtain⟨ad,c,rfl,hc,_⟩:=hv
 rw[hl]at IV ⊢
 have M0:=Zd (Tt w 27 27 27 h (ay 80) (ay 80))
 have ZL:=Zd (au 80)
 have HH:=Zd hh
 have HL:=Zd hl
 have DY:=Zd iQ
 have F_:=Zd (gZ 80 (ZX h b))
 have hz:=gM z80
 have F:=Zs (∀w',w.grownBy w' none→zy w (Dw h b) (OJ b) (.returned (.tuple #[.agg (aD (Eu h b)),.int .i64 0])) w') (fun w' g=>⟨by rw[(qj (h:=h) hl).1,(qj (h:=h) hl).2],g⟩)
 clear hl hh iQ
 generalize zy w (Dw h b) (OJ b)=T at *
 generalize ay 80=Z at *
 go_enter func80,ntmps80
 go_upto_region 2 with fail
 generalize ((w.alloc (.cells (aD h) 27)).alloc (.cells (aD Z) 27)).alloc (.cells (aD Z) 27)=W0 at *
 go_wp2_with fail
 clear hz
 go_loopw [12] (fun i wr=>∃(m:Nat) (rs:List Int),i=.int .i64 (m:Int)∧m≤80∧Hid (jh 80 (ZX h b) m rs)∧Hid (g_ w wr 27 27 27 h Z rs)) (fun i _=>80-(intOf i).toNat)
 case atStart=>exact⟨0,Z,rfl,Nat.zero_le _,F_.out,M0.out⟩
 case round=>
  obtain⟨m,rs,rfl,hm,hF,hM⟩:=hrel
  clear M0 F_
  by_cases alQ:m<80
  ·have i1:(m:Int)<80:=gA
   have rl:=hF.out.1
   have cd:=hM.out.2.2.1.cell m gA
   have fd:=hM.out.2.2.1.free m
   have NF:=Zd (eP hF.out alQ)
   by_cases kP:m<40
   ·have i2:(m:Int)<40:=gA
    have ch:=hM.out.1.cell (m+40) (by rw[HH.out];omega)
    have EK:ZX h b m=aC h (m+40):=if_pos kP
    rw[EK]at NF
    have NM:=Zd (hM.out.Li m (aC h (m+40)))
    clear hF hM EK rl
    generalize aC h (m+40)=x at *
    generalize aC rs m=y at *
    go_wp2_with fail
    go_roundw
    case rel=>exact⟨m+1,_,by go_num,gA,NF.out,NM.out⟩
    case measure=>first|(simp[intOf];done)|(simp[intOf];omega)
   obtain⟨k,hk⟩:∃k,m-40=k:=⟨_,rfl⟩
   obtain⟨a,rfl,cx⟩:=jW (IV.out wr hM.out.2.2.2) k (by rw[HL.out];omega)
   have x64:=DY.out k
   have EK:ZX h b m=eU (aC b k):=by unfold ZX;rw[if_neg gA,hk]
   rw[EK]at NF
   have RS:=Zd (nU (aC b k) wr x64.1 x64.2)
   have HM:=Zd hM.out
   have i2:¬(m:Int)<40:=gA
   have i3:(m:Int)-40=(k:Int):=gA
   have i4:(k:Int)<40:=gA
   clear hF hM EK hk
   generalize aC b k=x at *
   generalize eU x=z at *
   go_wp2_with fail
   refine RS.out.mono ?_
   rintro e w1 ⟨rfl,g1⟩
   have M1:=Zd (HM.out.aH g1)
   have cd1:=M1.out.2.2.1.cell m gA
   have fd1:=M1.out.2.2.1.free m
   have NM:=Zd (M1.out.Li m z)
   clear RS g1 cd fd cx rl
   generalize aC rs m=y at *
   go_wp2_with fail
   go_roundw
   case rel=>exact⟨m+1,_,by go_num,gA,NF.out,NM.out⟩
   case measure=>first|(simp[intOf];done)|(simp[intOf];omega)
  obtain rfl:m=80:=gA
  rw[show((80:Nat):Int)=80 from rfl]
  have ers:rs=Eu h b:=fB hF.out
  subst ers
  have PU:=hM.out.ac9 (b':=Eu h b) (by rw[qg,ZL.out])
  have PB:=Zd PU.1
  have FF:=Zd (F.out _ PU.2)
  have KL:=Zd (qg h b)
  have HM:=Zd hM.out
  clear hF hM PU
  generalize Eu h b=R at *
  go_wp2_with (first|refine lA HM.out.2.2.1 (by rw[KL.out];exact fP) ?_|refine sA R HM.out.2.1 (by rw[KL.out,ZL.out]) (by rw[ZL.out];exact fP) ?_)
  have eO:=lS PB.out (by rw[KL.out];exact fP)
  refine bodyPost_ret (v:=.tuple #[.agg (aD R),.int .i64 0]) ?_ rfl FF.out
  simp[results,results80,asAddr,Act.put,eO]
theorem CP (h:List Int)(v:Value)(b:List Int)(w:World)(hh:h.length=80)(iQ:jv b)(hv:aS w v b)(ni:b.length≤1000000000000000000) :
 Calls prog 80 #[.agg (aD h),v] w (zy w (Dw h b) (OJ b)):=by
 by_cases hl:b.length=40
 ·exact Tv h v b w hh hv hl iQ
 exact Xn h v b w hh hv hl ni
def aei (w:World)(s:Int)(L:List Int)(e:Ending)(w':World):Prop:=∃v',e=.returned (.tuple #[.int .i64 s,v'])∧gP w.heap.size w' v' L∧w.grownBy w' none
theorem yh:∀(n:Nat) (s x:Int) (w:World),n≤1000→In1 s→Calls prog 156 #[.int .i64 s,.int .i64 x,.int .i64 (n:Int)] w (aei w (uF s n) (yI s x n))
 | 0,s,x,w,_,hs=>by
  have F:=Zs (aei w (uF s 0) (yI s x 0) (.returned (.tuple #[.int .i64 s,.slice none 0 0])) w) (⟨_,rfl,bZ _ _,aQ _ _⟩)
  generalize aei w (uF s 0) (yI s x 0)=T at *
  rw[show((0:Nat):Int)=0 from rfl]
  go_enter func156,ntmps156
  go_wp2_with fail
  exact F.out
 | n+1,s,x,w,hn,hs=>by
  have N1:=Zd (Od s x w hs.1 hs.2)
  have IH:=Zd (fun w1=>yh n (vS s) x w1 gA (by have:=AR s;exact⟨gA,gA⟩))
  rw[A9]at IH
  have F:=Zs (∀v w',gP w.heap.size w' v (yI s x (n+1))→w.grownBy w' none→aei w (uF s (n+1)) (yI s x (n+1)) (.returned (.tuple #[.int .i64 (uF s (n+1)),v])) w') (fun v w' o g=>⟨v,rfl,o,g⟩)
  rw[PO]at F
  have hne:(((n+1:Nat):Int)==0)=false:=beq_eq_false_iff_ne.2 gA
  have hn1:((n+1:Nat):Int)-1=(n:Int):=gA
  have nl:=Zd (oG (vS s) x n)
  have hbn:((n+1:Nat):Int)≤1000:=gA
  rw[PO]
  generalize aei w (uF s (n+1)) (Us s x::yI (vS s) x n)=T at *
  generalize yI (vS s) x n=L at *
  generalize uF s (n+1)=S at *
  generalize Us s x=X at *
  generalize vS s=s1 at *
  generalize ((n+1:Nat):Int)=N at *
  go_enter func156,ntmps156
  go_wp2_with fail
  refine N1.out.mono ?_
  rintro e w1 ⟨rfl,g1⟩
  have G1:=Zd g1
  clear g1 N1
  go_wp2_with fail
  refine(IH.out w1).mono ?_
  rintro e w2 ⟨v2,rfl,o2,g2⟩
  have G2:=Zd (aB G1.out g2)
  have I2:=Zd (aP o2.ints (ak w2 (.cells #[.int .i64 X] 3) none))
  have SH:=Zd o2.Iy
  have hb0:=G2.out.size
  clear o2 g2 IH
  go_wp2_with (refine dF (by rfl) _ _ rfl w.heap.size _ _ [X] L rfl rfl (wY w2 _ hb0 X) I2.out SH.out (by have:=nl.out;simp;omega) (by simp;omega) ?_)
  intro v3 w3 o3 g3
  have FF:=Zd (F.out v3 w3 o3 (gU (aB G2.out (ak _ _ none)) g3 (fun b hb=>by simp[Value.ownBlock]at hb;omega)))
  clear o3 g3
  go_wp2_with fail
  exact FF.out
theorem abk (l:List Int)(k:Nat)(h:k<l.length):l.take (k+1)=l.take k++[aC l k]:=by
 rw[List.take_add_one,List.getElem?_eq_getElem h]
 simp[aC,List.getD,h]
theorem Oe (h:List Int)(eH g:Int)(v:Value)(b:List Int)(w:World)(hv:aS w v b)(hl:b.length≠40)(ni:b.length≤1000000000000000000) :
 Calls prog 79 #[.agg (aD h),.int .i64 eH,.int .i64 g,v] w (fO w (zq h eH g b) (yH eH g b)):=by
 obtain⟨ad,c,rfl,hc,_⟩:=hv
 have hne:((b.length:Int)==40)=false:=beq_eq_false_iff_ne.2 gA
 have F:=Zs (∀w',w.grownBy w' none→fO w (zq h eH g b) (yH eH g b) (.returned (.tuple #[.slice none 0 0,.int .i64 1])) w') (fun w' q=>⟨_,by rw[(zw (h:=h) hl).2],by rw[(zw (h:=h) hl).1];exact bZ _ _,q⟩)
 have G0:=Zd (ak w (.cells (aD h) 27) none)
 clear hl
 generalize fO w (zq h eH g b) (yH eH g b)=T at *
 go_enter func79,ntmps79
 go_upto_region 1 with fail
 generalize w.alloc (.cells (aD h) 27)=W0 at *
 go_wp2_with fail
 exact F.out _ G0.out
theorem JL (h:List Int)(eH g:Int)(v:Value)(b:List Int)(w:World)(hv:aS w v b)(hl:b.length=40)(hr:eH<20∨79<eH∨g<0∨32767<g) :
 Calls prog 79 #[.agg (aD h),.int .i64 eH,.int .i64 g,v] w (fO w (zq h eH g b) (yH eH g b)):=by
 obtain⟨ad,c,rfl,hc,_⟩:=hv
 have q:¬PI eH g b:=by unfold PI;omega
 have F:=Zs (∀w',w.grownBy w' none→fO w (zq h eH g b) (yH eH g b) (.returned (.tuple #[.slice none 0 0,.int .i64 2])) w') (fun w' k=>⟨_,by rw[(qA (h:=h) hl q).2],by rw[(qA (h:=h) hl q).1];exact bZ _ _,k⟩)
 have G0:=Zd (ak w (.cells (aD h) 27) none)
 rw[hl]at hc ⊢
 clear hl q
 generalize fO w (zq h eH g b) (yH eH g b)=T at *
 by_cases h1:eH<20
 ·clear hr
  go_enter func79,ntmps79
  go_upto_region 1 with fail
  generalize w.alloc (.cells (aD h) 27)=W0 at *
  go_wp2_with fail
  exact F.out _ G0.out
 by_cases h2:79<eH
 ·clear hr
  go_enter func79,ntmps79
  go_upto_region 1 with fail
  generalize w.alloc (.cells (aD h) 27)=W0 at *
  go_wp2_with fail
  exact F.out _ G0.out
 by_cases h3:g<0
 ·clear hr
  go_enter func79,ntmps79
  go_upto_region 1 with fail
  generalize w.alloc (.cells (aD h) 27)=W0 at *
  go_wp2_with fail
  exact F.out _ G0.out
 have h4:32767<g:=gA
 clear hr
 go_enter func79,ntmps79
 go_upto_region 1 with fail
 generalize w.alloc (.cells (aD h) 27)=W0 at *
 go_wp2_with fail
 exact F.out _ G0.out
theorem Tw (h:List Int)(eH g:Int)(v:Value)(b:List Int)(w:World)(hh:h.length=80)(iQ:jv h)(hv:aS w v b)(agm:jv b)(hk:PI eH g b) :
 Calls prog 79 #[.agg (aD h),.int .i64 eH,.int .i64 g,v] w (fO w (zq h eH g b) (yH eH g b)):=by
 obtain⟨hl,⟨l0,l9⟩,g0,g9⟩:=id hk
 have IV:=Zd (fun wr (q:w.grownBy wr none)=>aP hv q)
 obtain⟨ad,c,rfl,hc,_⟩:=hv
 rw[hl]at IV ⊢
 obtain⟨pe,pl⟩:AU eH=0∧(mJ h eH).length=40:=by
  unfold AU mJ
  rw[if_pos ⟨l0,l9⟩,if_pos ⟨l0,l9⟩]
  exact⟨rfl,kW _ _⟩
 have PS:=Zd (fun w'=>wP h hh eH w')
 rw[pe]at PS
 have P64:=Zd (show jv (mJ h eH)from fun i=>by
  unfold mJ
  rw[if_pos ⟨l0,l9⟩]
  by_cases hi:i<40
  ·rw[show aC (jV h eH.toNat) i=yG h eH.toNat i from dN _ _ _ hi];exact iQ _
  rw[dO _ i (by rw[kW];omega)];omega)
 have F:=Zs (∀v' w',gP w.heap.size w' v' (mxA (mJ h eH) g b)→w.grownBy w' none→fO w (zq h eH g b) (yH eH g b) (.returned (.tuple #[v',.int .i64 0])) w') (fun v' w' o q=>⟨v',by rw[(zu (h:=h) hk).2],by rw[(zu (h:=h) hk).1];exact o,q⟩)
 have LL:=Zd (LH (mJ h eH) g b)
 have LN:=Zd (fun m (hm:m<40)=>Yn (mJ h eH) g b m hm)
 have B0:=Zd (bO.new w 27 h)
 have G0:=Zd (ak w (.cells (aD h) 27) none)
 have HB:=Zd agm
 have BL:=Zd hl
 have VL:=Zd pl
 have S80:=Zs ((prog.info? 27).map (·.size)=some h.length) (by rw[hh];exact fP)
 have RS:=Zd (fun(x:Int) (u:World) (p:-9223372036854775808≤x) (q:x≤9223372036854775807)=>nU x u p q)
 clear hl hk hh iQ agm pe pl hc
 generalize fO w (zq h eH g b) (yH eH g b)=T at *
 generalize hL:mxA (mJ h eH) g b=L at *
 clear hL
 generalize mJ h eH=V at *
 go_enter func79,ntmps79
 go_upto_region 1 with fail
 generalize w.alloc (.cells (aD h) 27)=W0 at *
 go_wp2_with (refine lA B0.out S80.out ?_)
 refine(PS.out W0).mono ?_
 rintro e W2 ⟨v2,rfl,o2,g2⟩
 obtain⟨gv,cv',rfl,_,_,_⟩:=o2.form (by rw[VL.out];omega)
 have G2:=Zd (aB G0.out g2)
 have OV:=Zd o2
 clear o2 g2 PS
 rw[VL.out]at OV ⊢
 go_wp2_with fail
 go_loopw [12,39] (fun o i wr=>∃m:Nat,i=.int .i64 (m:Int)∧m≤40∧Hid (gP W2.heap.size wr o (L.take m)∧W2.grownBy wr none)) (fun _ i _=>40-(intOf i).toNat)
 case atStart=>exact⟨0,rfl,Nat.zero_le _,by rw[List.take_zero];exact bZ _ _,aQ _ _⟩
 case round=>
  obtain⟨m,rfl,hm,hN⟩:=hrel
  by_cases kP:m<40
  ·have i1:(m:Int)<40:=gA
   have cv:=OV.out.cell VL.out.symm m (by rw[VL.out];exact kP)
   obtain⟨a,rfl,cb⟩:=jW (IV.out W2 G2.out) m (by rw[BL.out];exact kP)
   obtain⟨x1,x2⟩:=P64.out m
   obtain⟨y1,y2⟩:=HB.out m
   have EN:=Zd (abk L m (by rw[LL.out];exact kP))
   rw[LN.out m kP]at EN
   unfold mxN at EN
   have bx:=kK (aC V m)
   have iP:=kK (aC b m)
   have bg:-1073709056≤eU (aC V m)*g∧eU (aC V m)*g≤1073741824:=qK _ _ bx.1 bx.2 gA g9
   generalize aC V m=x at *
   generalize aC b m=y at *
   have W1:=fH (eU x*g) gA gA
   have W2':=fH (eU x*g+8192) gA gA
   have W3:=fH ((eU x*g+8192) / 16384+eU y) gA gA
   go_upto_region 10 with fail
   refine wp_region_held_drew (S:=dM W2) (by kernel_rfl) (bD hN.out.2 (bW (aQ _ none))) (fun aj=>?_)
   have OA:=Zd (hN.out.1.aH (bW (aQ wr none)))
   clear hN
   generalize wr.drew=wd at *
   refine bV 0 aj ?_
   refine bV 1 aj ?_
   refine bV 2 aj ?_
   refine bV 3 aj ?_
   refine bV (hy:=by intro w' bL;have cc:=bA bL cv;go_simp;(try with_reducible rfl)) (v:=.int .i64 x) 4 aj ?_
   refine bV 6 aj ?_
   refine bV 10 aj ?_
   refine bV 11 aj ?_
   refine bV 12 aj ?_
   refine bV (hy:=by intro w' bL;have cc:=bA bL cb;go_simp;(try with_reducible rfl)) (v:=.int .i64 y) 13 aj ?_
   refine fI 5 fun K hK=>?_
   (try simp only[sZ])
   go_simp
   refine(RS.out x _ x1 x2).mono ?_
   rintro e w1 ⟨rfl,g1⟩
   have G1:=Zd g1
   clear g1
   go_wp2_with fail
   refine hK.out _ _ (bD aj G1.out) (fun aj=>?_)
   (try simp only[sZ])
   replace OA:=Zd (OA.out.aH G1.out)
   clear G1
   refine bV (hy:=by intro w' bL;go_simp;(try simp only[W1])) (v:=.int .i64 (eU x*g)) 7 aj ?_
   refine bV (hy:=by intro w' bL;go_simp;(try simp only[W2'])) (v:=.int .i64 (eU x*g+8192)) 8 aj ?_
   refine fI 9 fun K hK=>?_
   (try simp only[sZ])
   go_simp
   refine(jM (eU x*g+8192) 14 gA gA gA _).mono ?_
   rintro e w2 ⟨rfl,g2⟩
   have G2:=Zd g2
   clear g2
   rw[show((2:Int)^14)=16384 from rfl]
   go_wp2_with fail
   refine hK.out _ _ (bD aj G2.out) (fun aj=>?_)
   (try simp only[sZ])
   replace OA:=Zd (OA.out.aH G2.out)
   clear G2
   refine fI 14 fun K hK=>?_
   (try simp only[sZ])
   go_simp
   refine(RS.out y _ y1 y2).mono ?_
   rintro e w3 ⟨rfl,g3⟩
   have G3:=Zd g3
   clear g3
   go_wp2_with fail
   refine hK.out _ _ (bD aj G3.out) (fun aj=>?_)
   (try simp only[sZ])
   replace OA:=Zd (OA.out.aH G3.out)
   clear G3
   refine bV (hy:=by intro w' bL;go_simp;(try simp only[W3])) (v:=.int .i64 ((eU x*g+8192) / 16384+eU y)) 15 aj ?_
   refine fI 16 fun K hK=>?_
   (try simp only[sZ])
   go_simp
   refine(RS.out ((eU x*g+8192) / 16384+eU y) _ gA gA).mono ?_
   rintro e w4 ⟨rfl,g4⟩
   have G4:=Zd g4
   clear g4
   go_wp2_with fail
   refine hK.out _ _ (bD aj G4.out) (fun aj=>?_)
   (try simp only[sZ])
   replace OA:=Zd (OA.out.aH G4.out)
   clear G4
   refine fI 17 fun K hK=>?_
   (try simp only[sZ])
   go_simp
   go_wp2_with fail
   refine hK.out _ _ (dX aj _) (fun aj=>?_)
   (try simp only[sZ])
   replace OA:=Zd (OA.out.aH (ak w4 (.cells #[.int .i64 (eU ((eU x*g+8192) / 16384+eU y))] 3) none))
   refine fI 18 fun K hK=>?_
   (try simp only[sZ])
   refine QO rfl _ _ rfl W2.heap.size _ _ (L.take m) [eU ((eU x*g+8192) / 16384+eU y)] rfl rfl OA.out (tL w4 _) (by simp) (by have:=LL.out;simp;omega) (by have:=aj.size;simpa using this) ?_
   intro v5 w5 o5 g5 _
   have O5:=Zd o5
   clear o5
   refine hK.out _ _ (gU aj g5 (fun c hc=>(OA.out.lt c hc).1)) (fun aj=>?_)
   (try simp only[sZ])
   clear g5 OA
   refine bV 19 aj ?_
   refine lM ?_
   have NN:=Zs (gP W2.heap.size w5 v5 (L.take (m+1))∧W2.grownBy w5 none) (⟨by rw[EN.out];exact O5.out,aj⟩)
   clear aj
   go_wp2_with fail
   go_roundw
   case rel=>exact⟨m+1,by go_num,gA,NN.out⟩
   case measure=>first|(simp[intOf];done)|(simp[intOf];omega)
  obtain rfl:m=40:=gA
  rw[show((40:Nat):Int)=40 from rfl]
  have FF:=Zd (F.out _ _ (by have:=hN.out.1;rw[List.take_of_length_le (by rw[LL.out];omega)]at this;exact this.base G2.out.size) (aB G2.out hN.out.2))
  clear hN
  go_wp2_with fail
  exact FF.out
theorem Tx (h:List Int)(eH g:Int)(v:Value)(b:List Int)(w:World)(hh:h.length=80)(iQ:jv h)(agm:jv b)(hv:aS w v b)(ni:b.length≤1000000000000000000) :
 Calls prog 79 #[.agg (aD h),.int .i64 eH,.int .i64 g,v] w (fO w (zq h eH g b) (yH eH g b)):=by
 by_cases hl:b.length=40
 ·by_cases hk:PI eH g b
  ·exact Tw h eH g v b w hh iQ hv agm hk
  exact JL h eH g v b w hv hl (by unfold PI at hk;omega)
 exact Oe h eH g v b w hv hl ni
theorem Og (l:List Int)(s:Bool)(hl:l.length=101)(iQ:jv l)(hg:cO l=false)(w:World):Calls prog 89 #[dI l s] w (xR w (yX l) (Uu l s) (yY l) (Uv l)):=by
 have M0:=Zd (Ar.new w l s)
 have GD:=Zd (fun wr=>lI l s hl iQ wr)
 rw[hg]at GD
 have F:=Zs (∀w',w.grownBy w' none→xR w (yX l) (Uu l s) (yY l) (Uv l) (.returned (.tuple #[dI (ay 101) false,.slice none 0 0,.int .i64 2])) w') (fun w' q=>⟨_,by rw[(Ce (s:=s) hg).1,(Ce (s:=s) hg).2.1,(Ce (s:=s) hg).2.2.2],by rw[(Ce (s:=s) hg).2.2.1];exact bZ _ _,q⟩)
 have CL:=Zd (aX hl s)
 have AL:=Zd (dA.all s hl)
 have ZL:=Zd (aX (au 101) false)
 have ZO:=Zd (dY (ay 101) false)
 have hz:=gV
 have ZB:=Zd (fun wr (h:Ar w l s wr)=>h.fin (ay 101) false (au 101))
 clear hg iQ
 generalize xR w (yX l) (Uu l s) (yY l) (Uv l)=T at *
 unfold dI at hz F GD ⊢
 go_enter func89,ntmps89
 go_upto_region 1 with fail
 generalize (w.alloc (.cells (aU l s).toArray 29)).alloc (.cells (aU (ay 101) false).toArray 29)=W0 at *
 go_wp2_with (refine lV 0 M0.out.1 aY (by rw[CL.out];omega) AL.out ?_)
 refine(GD.out W0).mono ?_
 rintro e W1 ⟨rfl,g1⟩
 have M1:=Zd (M0.out.aH g1)
 have PB:=Zd (ZB.out W1 M1.out)
 have FF:=Zd (F.out _ PB.out.2)
 clear g1 GD
 go_wp2_with (first|refine sV 0 (aU (ay 101) false) M1.out.2.1 (by rw[ZL.out];omega) (by rw[ZL.out];exact aY) ZO.out ?_)
 have eO:=wV PB.out.1 (by rw[ZL.out];exact aY)
 refine bodyPost_ret (v:=.tuple #[.agg (aU (ay 101) false).toArray,.slice none 0 0,.int .i64 2]) ?_ rfl FF.out
 simp[results,results89,asAddr,Act.put,eO]
theorem JM (l:List Int)(s:Bool)(hl:l.length=101)(iQ:jv l)(hg:cO l=true)(w:World):Calls prog 89 #[dI l s] w (xR w (yX l) (Uu l s) (yY l) (Uv l)):=by
 have M0:=Zd (Ar.new w l s)
 have GD:=Zd (fun wr=>lI l s hl iQ wr)
 rw[hg]at GD
 have NZ:=Zd (fun wr=>yh 40 (aC l 100) 8 wr gA (iQ 100))
 rw[show((40:Nat):Int)=40 from rfl]at NZ
 have KP:=Zd (fun v wr (hv:aS wr v (yI (aC l 100) 8 40))=>CP (bP l 16 80) v (yI (aC l 100) 8 40) wr (aR _ _ _) (Ev (Ka _ _ _)) hv (by rw[oG];omega))
 rw[(qj (h:=bP l 16 80) (oG (aC l 100) 8 40)).1,(qj (h:=bP l 16 80) (oG (aC l 100) 8 40)).2]at KP
 have KL:=Zd (qg (bP l 16 80) (yI (aC l 100) 8 40))
 have F:=Zd (show ∀v' w',gP w.heap.size w' v' (yI (aC l 100) 8 40)→w.grownBy w' none→xR w (yX l) (Uu l s) (yY l) (Uv l) (.returned (.tuple #[dI (jr (l.set 100 (uF (aC l 100) 40)) 16 (Eu (bP l 16 80) (yI (aC l 100) 8 40))) s,v',.int .i64 0])) w' from fun v' w' o q=>
  ⟨v',by rw[(mK (s:=s) hg).1,(mK (s:=s) hg).2.1,(mK (s:=s) hg).2.2.2];unfold memT siX;rw[set_self l 99 gA],by rw[(mK (s:=s) hg).2.2.1];exact o,q⟩)
 have PS:=Zd (fun z=>oH l 100 z 16 80 gA (.inr gA))
 have HL:=Zd hl
 have CL:=Zd (aX hl s)
 have AL:=Zd (dA.all s hl)
 have ZL:=Zd (aX (au 101) false)
 have hz:=gV
 clear hg iQ hl
 generalize xR w (yX l) (Uu l s) (yY l) (Uv l)=T at *
 unfold dI at hz F GD ⊢
 generalize yI (aC l 100) 8 40=N at *
 generalize uF (aC l 100) 40=sd at *
 go_enter func89,ntmps89
 go_upto_region 1 with fail
 generalize (w.alloc (.cells (aU l s).toArray 29)).alloc (.cells (aU (ay 101) false).toArray 29)=W0 at *
 clear hz
 go_wp2_with (refine lV 0 M0.out.1 aY (by rw[CL.out];omega) AL.out ?_)
 refine(GD.out W0).mono ?_
 rintro e W1 ⟨rfl,g1⟩
 have M1:=Zd (M0.out.aH g1)
 have aaf:=M1.out.1.cell 100 (by rw[HL.out];omega)
 have B1:=Zs (w.heap.size≤W1.heap.size) (M1.out.2.2.size)
 clear g1 GD
 generalize aC l 100=sd0 at *
 go_wp2_with fail
 refine(NZ.out W1).mono ?_
 rintro e W2 ⟨v2,rfl,o2,g2⟩
 have M2:=Zd (M1.out.aH g2)
 have aaf:=M2.out.1.cell 100 (by rw[HL.out];omega)
 have f100:=M2.out.1.free 100
 have BL:=Zs (w.heap.size+1<W1.heap.size) (M1.out.2.1.lt)
 have M3:=Zd (M2.out.set 100 sd (by rw[HL.out];omega))
 have O3:=Zd (o2.dK (aF W2 ⟨w.heap.size,100,none⟩ (.int .i64 sd)) (by have:=BL.out;simp;omega))
 clear o2 g2 NZ
 go_upto_region 5 with fail
 clear aaf f100
 generalize W2.setCell ⟨w.heap.size,100,none⟩ (.int .i64 sd)=W3 at *
 have L1:=Zs ((l.set 100 sd).length=101) (by rw[List.length_set];exact HL.out)
 have P3:=Zd (dA.part (l:=l.set 100 sd) s 16 80 (by rw[L1.out];omega))
 rw[PS.out]at P3
 have C3:=Zd (aX L1.out s)
 have KK:=Zd (KP.out v2 W3 O3.out.ints)
 go_wp2_with (first|refine lV 16 M3.out.1 fP (by rw[C3.out];omega) P3.out ?_)
 refine KK.out.mono ?_
 rintro e W4 ⟨rfl,g4⟩
 have M4:=Zd (M3.out.aH g4)
 have O4:=Zd (O3.out.aH g4)
 clear KK g4
 generalize Eu (bP l 16 80) N=R at *
 have M5:=Zd (M4.out.put 16 R (by rw[KL.out,L1.out];omega))
 have O5:=Zd (O4.out.dK (M4.out.1.put 16 R (by rw[KL.out,L1.out];omega)).2 (by have:=BL.out;omega))
 have ID:=Zd (d9 R)
 have IL:=Zs ((aO R).length=80) (by rw[aM];exact KL.out)
 go_upto_region 6 with(first|refine sV 16 (aO R) M4.out.1 (by rw[IL.out,C3.out];omega) (by rw[IL.out];exact fP) ID.out ?_)
 (try simp only[Act.put])
 generalize dQ W4 w.heap.size 16 (aO R)=W5 at *
 have L5:=Zs ((jr (l.set 100 sd) 16 R).length=101) (by rw[eG];exact L1.out)
 generalize jr (l.set 100 sd) 16 R=m at *
 have A5:=Zd (dA.all s L5.out)
 have C5:=Zd (aX L5.out s)
 have ON:=Zd (dY m s)
 have PB:=Zd (M5.out.fin m s L5.out)
 have O6:=Zd (O5.out.dK (M5.out.2.1.fu (m:=m) (t:=s) (au 101) L5.out).2 BL.out)
 have FF:=Zd (F.out _ _ (O6.out.base B1.out) PB.out.2)
 go_wp2_with (first|refine lV 0 M5.out.1 aY (by rw[C5.out];omega) A5.out ?_|refine sV 0 (aU m s) M5.out.2.1 (by rw[ZL.out,C5.out];omega) (by rw[C5.out];exact aY) ON.out ?_)
 have eO:=wV PB.out.1 (by rw[C5.out];exact aY)
 refine bodyPost_ret (v:=.tuple #[.agg (aU m s).toArray,_,.int .i64 0]) ?_ rfl FF.out
 simp[results,results89,asAddr,Act.put,eO]
theorem JN (l:List Int)(s:Bool)(hl:l.length=101)(iQ:jv l)(w:World):Calls prog 89 #[dI l s] w (xR w (yX l) (Uu l s) (yY l) (Uv l)):=by
 rcases hg:cO l with _|_
 ·exact Og l s hl iQ hg w
 exact JM l s hl iQ hg w
theorem H9 (p:List Int)(hp:p.length=8)(v:Value)(l:List Int)(w:World)(h:aS w v l)(hl:l.length≤1000000000000000000) :
 Calls prog 83 #[.agg (aD p),v] w (gJ w (.agg (aD (nZ p l)))):=by
 obtain⟨ad,c,rfl,hc,bH⟩:=h
 have L0:=Zd (mW w 26 26 26 p (ay 8) (ay 8))
 rw[rF]at L0
 have HC:=Zd bH
 clear bH
 go_enter func83,ntmps83
 go_wp2_with fail
 have M0:=Zs (g_ w _ 26 26 26 p (ay 8) (ay 8)) (L0.out)
 generalize ((w.alloc (.cells (aD p) 26)).alloc _).alloc _=W0 at *
 go_loopw [7] (fun i wr=>∃(m:Nat) (rs:List Int),i=.int .i64 m∧m≤8∧Hid (jh 8 (fun i=>aC (kM p l) i) m rs)∧Hid (g_ w wr 26 26 26 p (ay 8) rs)) (fun i _=>8-(intOf i).toNat)
 case atStart=>exact⟨0,ay 8,rfl,Nat.zero_le _,⟨au 8,fun j hj=>gA⟩,M0.out⟩
 case round=>
  obtain⟨m,rs,rfl,hm,hF,hM⟩:=hrel
  clear M0
  by_cases vD:m<8
  ·have hlen:rs.length=8:=hF.out.1
   have NF:=Zd (eP hF.out vD)
   have cd:=hM.out.2.2.1.cell m gA
   have fd:=hM.out.2.2.1.free m
   have NM:=Zd (hM.out.Li m (aC (kM p l) m))
   by_cases hml:m<l.length
   ·obtain⟨a,rfl,hv⟩:=HC.out gA
    have hx:=bA hM.out.2.2.2 (hv (l.length-1-m) gA)
    rw[←Dr p l m hml]at hx
    have hJ:(l.length:Int)-1-(m:Int)=((l.length-1-m:Nat):Int):=gA
    clear hF hM hv
    generalize aC (kM p l) m=x at *
    generalize aC rs m=y' at *
    have j1:l.length-1-m<l.length:=gA
    generalize l.length-1-m=J at *
    have i1:(m:Int)<8:=gA
    have i2:(m:Int)<l.length:=gA
    go_wp2_with fail
    go_roundw
    case rel=>exact⟨m+1,_,by go_num,gA,NF.out,NM.out⟩
    case measure=>simp[intOf];omega
   have hx:=hM.out.1.cell (m-l.length) gA
   rw[←Lp p l m gA]at hx
   have hJ:(m:Int)-(l.length:Int)=((m-l.length:Nat):Int):=gA
   clear hF hM
   generalize aC (kM p l) m=x at *
   generalize aC rs m=y' at *
   have j1:m-l.length<8:=gA
   have i1:(m:Int)<8:=gA
   have i2:¬(m:Int)<l.length:=gA
   generalize m-l.length=J at *
   go_wp2_with fail
   go_roundw
   case rel=>exact⟨m+1,_,by go_num,gA,NF.out,NM.out⟩
   case measure=>simp[intOf];omega
  obtain rfl:m=8:=gA
  have hlen:rs.length=8:=hF.out.1
  have EL:=Zs (nZ p l=rs) ((fB hF.out).symm)
  have BA:=Zd hM.out.2.2.1
  have BB:=Zd hM.out.2.1
  have GM:=Zd hM.out.2.2.2
  clear hF hM
  go_wp2_with (first|refine lA BA.out (by rw[hlen];exact aW) ?_|refine sA rs BB.out (by rw[hlen,au]) (by rw[au];exact aW) ?_)
  have PU:=bB (rs':=rs) BB.out (by rw[hlen,au])
  have eO:=lS PU.1 (by rw[hlen];exact aW)
  have GF:=Zd (aG GM.out PU.2 gA)
  refine bodyPost_ret (v:=.agg (aD rs)) ?_ rfl ?_
  ·simp[results,results83,asAddr,Act.put,eO]
  rw[EL.out];exact⟨rfl,GF.out⟩
theorem vk (a p:List Int)(ha:a.length=9)(hp:p.length=8)(v:Value)(l:List Int)(w:World)(h:aS w v l)(hl:l.length≤1000000000000000000) :
 Calls prog 81 #[.agg (aD a),.agg (aD p),v] w (gJ w (.bool (okF a p l))):=by
 have L0:=Zd (nI w 58 26 a p)
 have RL:=Zd (fun wr (g:w.grownBy wr none)=>bM v l wr (aP h g) hl)
 have IX:=Zd (fun j hj=>fQ a underlying58 j hj ha)
 clear h
 go_enter func81,ntmps81
 go_wp2_with (refine lA L0.out.1 (by rw[ha];exact dz) ?_)
 have M0:=Zs (iD w _ 58 26 a p) (L0.out)
 generalize (w.alloc (.cells (aD a) 58)).alloc _=W0 at *
 go_loop [10] (fun i=>∃m:Nat,i=.int .i64 m∧m≤9∧Hid (∀j,j<m→-1048576≤aC a j∧aC a j≤1048576)) (fun i=>9-(intOf i).toNat)
 case atStart=>exact⟨0,rfl,Nat.zero_le _,fun j hj=>gA⟩
 case round=>
  obtain⟨m,rfl,hm,hF⟩:=hrel
  by_cases hm9:m<9
  ·have ix:=IX.out m gA
   have i1:(m:Int)<9:=gA
   by_cases hx:-1048576≤aC a m∧aC a m≤1048576
   ·have NF:=Zd (show ∀j,j<m+1→-1048576≤aC a j∧aC a j≤1048576 from fun j hj=>by
     by_cases h:j=m
     ·subst h;exact hx
     exact hF.out j gA)
    obtain⟨x1,x2⟩:=hx
    clear hF
    generalize aC a m=x at *
    go_wp2_with fail
    go_round
    case rel=>exact⟨m+1,by go_num,gA,NF.out⟩
    case measure=>simp[intOf];omega
   have OK:=Zd (show okF a p l=false from by
    have:nK a=false:=by
     rcases hb:nK a with _|_
     ·rfl
     exact absurd ((kg a).1 hb m gA) hx
    unfold okF;rw[this];rfl)
   clear hF
   generalize aC a m=x at *
   have GF:=Zd M0.out.2.2
   by_cases hx1:x < -1048576
   ·go_wp2_with fail
    go_ret
    exact⟨by rw[OK.out];rfl,GF.out⟩
   have hx2:1048576<x:=gA
   go_wp2_with fail
   go_ret
   exact⟨by rw[OK.out];rfl,GF.out⟩
  obtain rfl:m=9:=gA
  have W20:=Zs (nK a=true) ((kg a).2 (fun i hi=>hF.out i gA))
  have c0:=M0.out.1.cell 0 gA
  have RP:=Zd (bM (.slice (some ⟨w.heap.size+1,0,none⟩) 8 8) p W0 (by
   refine⟨some ⟨w.heap.size+1,0,none⟩,8,by rw[hp],gA,fun _=>⟨_,rfl,fun i hi=>?_⟩⟩
   rw[Addr.add_mid,Nat.zero_add]
   exact M0.out.2.1.cell i hi) gA)
  have R1:=Zd (RL.out W0 M0.out.2.2)
  have GF:=Zd M0.out.2.2
  have OK:=Zs (okF a p l=(decide (aC a 0=4096)&&aL p&&aL l)) (by unfold okF;rw[W20.out];rfl)
  clear hF
  generalize aC a 0=x at *
  by_cases hx:x=4096
  ·subst hx
   rcases hr:aL p with _|_
   ·rw[hr]at RP
    have HR:=Zd hr
    clear hr
    go_wp2_with fail
    refine RP.out.mono ?_
    rintro e w1 ⟨rfl,rfl⟩
    go_wp2_with fail
    go_ret
    exact⟨by rw[OK.out,HR.out];rfl,GF.out⟩
   rw[hr]at RP
   have HR:=Zd hr
   clear hr
   rcases hs:aL l with _|_
   all_goals
    rw[hs]at R1
    have HS:=Zd hs
    clear hs
    go_wp2_with fail
    refine RP.out.mono ?_
    rintro e w1 ⟨rfl,rfl⟩
    go_wp2_with fail
    refine R1.out.mono ?_
    rintro e w1 ⟨rfl,rfl⟩
    go_wp2_with fail
    go_ret
    exact⟨by rw[OK.out,HR.out,HS.out];rfl,GF.out⟩
  have HX:=Zd (decide_eq_false hx)
  clear RP R1
  go_wp2_with fail
  go_ret
  exact⟨by rw[OK.out,HX.out];rfl,GF.out⟩
def alR (W0:World)(L:List Int)(v:Value)(wx:World):Prop:=∃b,v=.pointer (some ⟨b,0,none⟩)∧bO wx b 26 L∧W0.heap.size≤b∧W0.grownBy wx none
def aii (w wr:World)(a:List Int)(b:Nat)(q:List Int):Prop:=bO wr w.heap.size 58 a∧bO wr b 26 q∧w.grownBy wr none
theorem abl (a p:List Int)(ha:a.length=9)(hp:p.length=8)(v:Value)(l:List Int)(n:Nat)(hn:n≤l.length)(w:World)(h:aS w v l)(hsh:rR v l)(hl:l.length≤1000000000000000000)
 (wa:nK a=true) (rp:aL p=true) (rl:aL l=true) :
 Calls prog 82 #[.agg (aD a),.agg (aD p),v,.int .i64 n] w (gJ w (.int .i64 (gs a (kM p (l.take n))))):=by
 obtain⟨vA,hA,iA,sA⟩:=Yq h hsh n hn
 have NW:=Zd (fun wr (g:w.grownBy wr none)=>H9 p hp vA (l.take n) wr (aP iA g) (by rw[List.length_take];omega))
 have hq:=nJ p (l.take n)
 have QR:=Zd (uK p (l.take n) rp (UM l n rl))
 have AB:=Zd (jE a (-1048576) 1048576 gA gA ((kg a).1 wa))
 have SB:=Zd (Dt a (kM p (l.take n)) AB.out QR.out)
 have QN:=Zd (fun i (hi:i<8)=>tH p (l.take n) i hi)
 have HG:=Zs (gs a (kM p (l.take n))=tJ a (kM p (l.take n)) 8 / 4096) (rfl)
 have HS:=Zd (fun i=>show tJ a (kM p (l.take n)) (i+1)=tJ a (kM p (l.take n)) i+aC a (i+1)*aC (kM p (l.take n)) i from rfl)
 have L0:=Zd (nI w 58 26 a p)
 clear h hsh hl wa rp rl iA sA hn
 generalize nZ p (l.take n)=q at *
 generalize kM p (l.take n)=H at *
 generalize gs a H=G at *
 go_enter func82,ntmps82
 go_wp2_with fail
 have BA:=Zd L0.out.1
 have BP:=Zd L0.out.2.1
 have G0:=Zd L0.out.2.2
 generalize (w.alloc (.cells (aD a) 58)).alloc _=W0 at *
 go_cut [9]from 12 (fun s9 wx=>alR W0 q s9 wx)
 case first=>
  refine wp_region_held_drew (S:=dM W0) (by kernel_rfl) (aZ _) (fun aj=>?_)
  refine bV (hy:=by intro w' bL;exact yA (BP.out.aH bL) (by rw[hp];exact aW)) (v:=.agg (aD p)) 0 aj ?_
  refine bV 1 aj ?_
  refine bV 2 aj ?_
  refine bV (v:=vA) 3 aj ?_
  refine oL 4 5 (fun K hK=>?alS) fun K hK=>?alT
  case alS=>
   (try simp only[sZ])
   go_simp
   refine(NW.out _ (aB G0.out aj)).mono ?_
   rintro e abm ⟨rfl,ajI⟩
   have alU:=Zd ajI
   clear ajI
   go_wp2_with fail
   refine hK.out _ _ (bD aj alU.out) (fun aj=>?_)
   (try simp only[sZ])
   refine fI 5 fun K hK=>?_
   (try simp only[sZ])
   go_simp
   go_wp2_with fail
   have HB:=Zs (W0.heap.size≤abm.heap.size) (by first|exact Nat.le_refl _|exact World.grownBy.size aj)
   refine hK.out _ _ (dX aj (.cells #[.int .i64 0,.int .i64 0,.int .i64 0,.int .i64 0,.int .i64 0,.int .i64 0,.int .i64 0,.int .i64 0] 26)) (fun aj=>?_)
   have HZ:=Zs (bO (abm.alloc (.cells #[.int .i64 0,.int .i64 0,.int .i64 0,.int .i64 0,.int .i64 0,.int .i64 0,.int .i64 0,.int .i64 0] 26)) abm.heap.size 26 (ay 8)) (bO.new abm 26 (ay 8))
   (try simp only[sZ])
   refine fI 6 fun K hK=>?_
   (try simp only[sZ])
   refine dW rfl 26 _ _ rfl (abm.heap.size) (ay 8) q rfl rfl HZ.out (by rw[hq,au]) (by rw[au];exact aW) ?_
   have PU:=bB (rs':=q) HZ.out (by rw[hq,au])
   refine hK.out _ _ (iV aj PU.2 HB.out) (fun aj=>?_)
   (try simp only[sZ])
   refine lM ?_
   go_wp2_with fail
   go_meet
   exact⟨abm.heap.size,rfl,PU.1,HB.out,aj⟩
  case alT=>
   (try simp only[sZ])
   go_simp
   go_wp2_with fail
   have HB:=Zs (W0.heap.size≤W0.heap.size) (by first|exact Nat.le_refl _|exact World.grownBy.size aj)
   refine hK.out _ _ (dX aj (.cells #[.int .i64 0,.int .i64 0,.int .i64 0,.int .i64 0,.int .i64 0,.int .i64 0,.int .i64 0,.int .i64 0] 26)) (fun aj=>?_)
   have HZ:=Zs (bO (W0.drew.alloc (.cells #[.int .i64 0,.int .i64 0,.int .i64 0,.int .i64 0,.int .i64 0,.int .i64 0,.int .i64 0,.int .i64 0] 26)) W0.heap.size 26 (ay 8)) (bO.new W0.drew 26 (ay 8))
   (try simp only[sZ])
   refine fI 4 fun K hK=>?_
   (try simp only[sZ])
   go_simp
   refine(NW.out _ (aB G0.out aj)).mono ?_
   rintro e ani ⟨rfl,aha⟩
   have ahb:=Zd aha
   clear aha
   go_wp2_with fail
   refine hK.out _ _ (bD aj ahb.out) (fun aj=>?_)
   have HZ:=Zd (HZ.out.aH ahb.out)
   (try simp only[sZ])
   refine fI 6 fun K hK=>?_
   (try simp only[sZ])
   refine dW rfl 26 _ _ rfl (W0.heap.size) (ay 8) q rfl rfl HZ.out (by rw[hq,au]) (by rw[au];exact aW) ?_
   have PU:=bB (rs':=q) HZ.out (by rw[hq,au])
   refine hK.out _ _ (iV aj PU.2 HB.out) (fun aj=>?_)
   (try simp only[sZ])
   refine lM ?_
   go_wp2_with fail
   go_meet
   exact⟨W0.heap.size,rfl,PU.1,HB.out,aj⟩
 case rest=>
 obtain⟨b,rfl,bq,hb,g1⟩:=hcut
 have M0:=Zs (aii w _ a b q) (⟨BA.out.aH g1,bq,aB G0.out g1⟩)
 clear bq g1 G0 NW hA hb
 go_wp2_with fail
 go_loopw [10,11] (fun s i wr=>∃m:Nat,i=.int .i64 ((m:Int)+1)∧s=.int .i64 (tJ a H m)∧m≤8∧Hid (aii w wr a b q)) (fun _ i _=>9-(intOf i).toNat)
 case atStart=>exact⟨0,rfl,rfl,Nat.zero_le _,M0.out⟩
 case round=>
  obtain⟨m,rfl,rfl,hm,hM⟩:=hrel
  clear M0
  obtain⟨s1,s2⟩:=SB.out m
  by_cases vD:m<8
  ·have ca:=hM.out.1.cell (m+1) gA
   have cq:=hM.out.2.1.cell m gA
   rw[QN.out m vD]at cq
   obtain⟨a1,a2⟩:=AB.out (m+1)
   obtain⟨q1,q2⟩:=QR.out m
   obtain⟨p1,p2⟩:=Ep _ _ a1 a2 q1 q2
   have ES:=Zd (HS.out m)
   generalize tJ a H m=S at *
   generalize aC a (m+1)=x at *
   generalize aC H m=y at *
   have i1:(m:Int)+1≤8:=gA
   have i0:(m:Int)<8:=gA
   go_wp2_with fail
   go_quiet (fail)
   go_wp2_with fail
   have NM:=Zs (aii w (wr.drewN nq) a b q) (⟨hM.out.1.aH (dR wr nq none),hM.out.2.1.aH (dR wr nq none),aB hM.out.2.2 (dR wr nq none)⟩)
   go_roundw
   case rel=>exact⟨m+1,by go_num,by rw[ES.out],gA,NM.out⟩
   case measure=>simp[intOf];omega
  obtain rfl:m=8:=gA
  rw[show((8:Nat):Int)=8 from rfl]
  have DN:=Zd (fun w'=>jM (tJ a H 8) 12 gA gA gA w')
  rw[show((12:Nat):Int)=12 from rfl,show(2:Int)^12=4096 by decide,←HG.out]at DN
  have GF:=Zd hM.out.2.2
  clear hM
  generalize tJ a H 8=S at *
  go_wp2_with fail
  refine(DN.out _).mono ?_
  rintro e w2 ⟨rfl,g2⟩
  have G2:=Zd (aB GF.out g2)
  clear g2
  go_wp2_with fail
  go_ret
  exact⟨rfl,G2.out⟩
theorem Xo (a p:List Int)(ha:a.length=9)(hp:p.length=8)(v:Value)(l:List Int)(w:World)(h:aS w v l)(hl:l.length*8≤140737488351232)(hk:okF a p l=false) :
 Calls prog 26 #[.agg (aD a),.agg (aD p),v] w (Z7 w [] (ay 8) 2):=by
 have L0:=Zd (mW w 58 26 26 a p (ay 8))
 rw[rF]at L0
 have hbd:=nH
 have RF:=Zd (fun wr (g:w.grownBy wr none)=>vk a p ha hp v l wr (aP h g) gA)
 rw[hk]at RF
 clear h hk
 go_enter func26,ntmps26
 go_wp2_with (first|refine lA L0.out.1 (by rw[ha];exact dz) ?_|refine lA L0.out.2.1 (by rw[hp];exact aW) ?_)
 refine(RF.out _ L0.out.2.2.2).mono ?_
 rintro e w1 ⟨rfl,g1⟩
 have BB:=Zd (L0.out.2.2.1.aH g1)
 have GM:=Zd (aB L0.out.2.2.2 g1)
 clear L0 RF g1
 go_wp2_with (first|refine sA (ay 8) BB.out rfl (by rw[au];exact aW) ?_)
 have PU:=bB (rs':=ay 8) BB.out rfl
 have eO:=lS PU.1 (by rw[au];exact aW)
 have GF:=Zd (aG GM.out PU.2 gA)
 refine bodyPost_ret (v:=.tuple #[.slice none 0 0,.agg (aD (ay 8)),.int .i64 2]) ?_ rfl ⟨_,rfl,bZ _ _,GF.out⟩
 simp[results,results26,asAddr,Act.put,eO]
theorem Tz (a p:List Int)(ha:a.length=9)(hp:p.length=8)(v:Value)(l:List Int)(w:World)(h:aS w v l)(hsh:rR v l)(hl:l.length*8≤140737488351232)(hk:okF a p l=true) :
 Calls prog 26 #[.agg (aD a),.agg (aD p),v] w (Z7 w (mI a p l l.length) (nZ p (mI a p l l.length)) 0):=by
 have L0:=Zd (mW w 58 26 26 a p (ay 8))
 rw[rF]at L0
 have RF:=Zd (fun wr (g:w.grownBy wr none)=>vk a p ha hp v l wr (aP h g) gA)
 rw[hk]at RF
 unfold okF at hk
 simp only[Bool.and_eq_true]at hk
 obtain⟨⟨⟨wa,_⟩,rp⟩,rl⟩:=hk
 have HI:=Zd h
 have SV:=Zd hsh
 have RL:=Zd ((aV l).1 rl)
 have AB:=Zd (jE a (-1048576) 1048576 gA gA ((kg a).1 wa))
 have RP:=Zd rp
 have GUE:=Zd (fun(k:Nat) vo (L:List Int) wr (hL:L.length=k) (hk:k≤l.length) (hR:aL L=true) (o:aS wr vo L) (s:rR vo L)=>abl a p ha hp vo L k gA wr o s gA wa rp hR)
 obtain⟨ad,c,rfl,hc,bH⟩:=h
 have HC:=Zd bH
 clear bH hsh
 go_enter func26,ntmps26
 go_wp2_with (first|refine lA L0.out.1 (by rw[ha];exact dz) ?_|refine lA L0.out.2.1 (by rw[hp];exact aW) ?_)
 refine(RF.out _ L0.out.2.2.2).mono ?_
 rintro e w1 ⟨rfl,g1⟩
 have M1:=Zs (g_ w w1 58 26 26 a p (ay 8)) (g_.aH L0.out g1)
 have N1:=Zs (w.heap.size+1+1+1≤w1.heap.size) (M1.out.2.2.1.lt)
 clear L0 RF g1 wa rp rl
 go_wp2_with fail
 go_loopw [9,20] (fun vo i wr=>∃k:Nat,i=.int .i64 k∧k≤l.length∧Hid (gP (w.heap.size+1+1+1) wr vo (mI a p l k))∧Hid (g_ w wr 58 26 26 a p (ay 8))∧Hid (w.heap.size+1+1+1≤wr.heap.size)) (fun _ i _=>l.length-(intOf i).toNat)
 case atStart=>exact⟨0,rfl,Nat.zero_le _,bZ _ _,M1.out,N1.out⟩
 case round=>
  rename_i vo' _
  obtain⟨k,rfl,hk,hO,hM,hN⟩:=hrel
  clear M1 N1
  by_cases jS:k<l.length
  ·obtain⟨ax,rfl,hv⟩:=HC.out gA
   have cx:=bA hM.out.2.2.2 (hv k jS)
   obtain⟨x1,x2⟩:=RL.out k jS
   have BA:=Zd hM.out.1
   have BP:=Zd hM.out.2.1
   have HR:=Zd (uK p (mI a p l k) RP.out (lF a p l k))
   have GU:=Zd (GUE.out k _ (mI a p l k) wr (mo a p l k) gA (lF a p l k) hO.out.ints hO.out.Iy)
   rw[List.take_of_length_le (show(mI a p l k).length≤k by rw[mo];exact Nat.le_refl _)]at GU
   obtain⟨b1,b2⟩:=agP a (kM p (mI a p l k)) AB.out HR.out
   have EN:=Zs (mI a p l (k+1)=mI a p l k++[eU (aC l k-gs a (kM p (mI a p l k)))]) (rfl)
   generalize gs a (kM p (mI a p l k))=G at *
   generalize aC l k=x at *
   have SS:=Zd (fun w'=>nU (x-G) w' gA gA)
   generalize eU (x-G)=z at *
   have kl1:(k:Int)<l.length:=gA
   go_wp2_with (first|refine lA BA.out (by rw[ha];exact dz) ?_|refine lA BP.out (by rw[hp];exact aW) ?_)
   refine GU.out.mono ?_
   rintro e w3 ⟨rfl,g3⟩
   have O3:=Zd (hO.out.aH g3)
   have M3:=Zd (hM.out.aH g3)
   have N3:=Zd (Nat.le_trans hN.out g3.size)
   clear g3 hO hM hN GU cx hv
   go_wp2_with fail
   refine(SS.out _).mono ?_
   rintro e w4 ⟨rfl,g4⟩
   have O4:=Zd (O3.out.aH g4)
   have M4:=Zd (M3.out.aH g4)
   have N4:=Zd (Nat.le_trans N3.out g4.size)
   have LN:=Zd (mo a p l k)
   clear g4 SS
   go_wp2_with (at_builtin;refine dF (by rfl) _ _ rfl (w.heap.size+1+1+1) _ (.slice (some ⟨w4.heap.size,0,none⟩) 1 1) (mI a p l k) [z] rfl rfl (O4.out.aH (ak _ _ none)) (tL w4 z) (.inr ⟨_,_,rfl⟩) (by rw[LN.out];simp;omega) (by have:=N4.out;simp;omega) ?_)
   intro v5 w5 h5 g5
   rw[←EN.out]at h5
   have O5:=Zd h5
   have MG:=Zd (ab6 (M4.out.aH (ak w4 (.cells #[.int .i64 z] 3) none)) g5 (fun b hb=>(O4.out.lt b hb).1))
   have N5:=Zd (Nat.le_trans (Nat.le_trans N4.out (by simp)) g5.size)
   clear h5 g5
   go_wp2_with fail
   go_roundw
   case rel=>exact⟨k+1,by go_num,gA,O5.out,MG.out,N5.out⟩
   case measure=>simp[intOf];omega
  obtain rfl:k=l.length:=gA
  have BP:=Zd hM.out.2.1
  have LN:=Zd (mo a p l l.length)
  have NW:=Zd (H9 p hp _ (mI a p l l.length) wr hO.out.ints (by rw[LN.out];omega))
  have O1:=hO
  have M1:=hM
  have hq:=nJ p (mI a p l l.length)
  clear hO hM hN
  generalize nZ p (mI a p l l.length)=q at *
  generalize mI a p l l.length=L at *
  go_wp2_with (first|refine lA BP.out (by rw[hp];exact aW) ?_)
  refine NW.out.mono ?_
  rintro e w3 ⟨rfl,g3⟩
  have O3:=Zd (O1.out.aH g3)
  have BB:=Zd (M1.out.2.2.1.aH g3)
  have GM:=Zd (aB M1.out.2.2.2 g3)
  clear g3 O1 M1 NW
  go_wp2_with (first|refine sA q BB.out (by rw[hq,au]) (by rw[au];exact aW) ?_)
  have PU:=bB (rs':=q) BB.out (by rw[hq,au])
  have eO:=lS PU.1 (by rw[hq];exact aW)
  have GF:=Zd (aG GM.out PU.2 gA)
  have OF:=Zd ((O3.out.dK PU.2 gA).base (b':=w.heap.size) gA)
  refine bodyPost_ret (v:=.tuple #[_,.agg (aD q),.int .i64 0]) ?_ rfl ⟨_,rfl,OF.out,GF.out⟩
  simp[results,results26,asAddr,Act.put,eO]
theorem pF (a p:List Int)(ha:a.length=9)(hp:p.length=8)(v:Value)(l:List Int)(w:World)(h:aS w v l)(hsh:rR v l)(hl:l.length*8≤140737488351232) :
 Calls prog 26 #[.agg (aD a),.agg (aD p),v] w (Z7 w (xQ a p l) (Du a p l) (I8 a p l)):=by
 rcases hk:okF a p l with _|_
 ·rw[show xQ a p l=[] by unfold xQ;rw[hk];rfl,show Du a p l=ay 8 by unfold Du;rw[hk];rfl,show I8 a p l=2 by unfold I8;rw[hk];rfl]
  exact Xo a p ha hp v l w h hl hk
 rw[show xQ a p l=mI a p l l.length from if_pos hk,show Du a p l=nZ p (mI a p l l.length)from if_pos hk,show I8 a p l=0 from if_pos hk]
 exact Tz a p ha hp v l w h hsh hl hk
theorem jQ (k:List Int)(hk:k.length=8)(w:World):Calls prog 147 #[.agg (aD k)] w (gJ w (.bool (bN k))):=by
 have Y:=Zd (fun(hh:∀i,i<8→-32768<aC k i∧aC k i<32768)=>(gQ k).2 (fun i hi=>hh i gA))
 have N:=Zd (fun i (hi:i<8) hh=>UC (k:=k) i gA hh)
 have B0:=Zd (bO.new w 26 k)
 have G0:=Zd (ak w (.cells (aD k) 26) none)
 have IX:=Zd (fun j hj=>fQ k underlying26 j hj hk)
 have FT:=Zs (∀b,bN k=b→∀u,w.grownBy u none→gJ w (.bool (bN k)) (.returned (.bool b)) u) (fun b hb u hu=>⟨by rw[hb],hu⟩)
 generalize gJ w (.bool (bN k))=T at *
 go_enter func147,ntmps147
 go_wp2_with (refine lA B0.out (by rw[hk];exact aW) ?_)
 generalize w.alloc (.cells (aD k) 26)=W0 at *
 go_loop [6] (fun i=>∃m:Nat,i=.int .i64 m∧m≤8∧Hid (∀i,i<m→-32768<aC k i∧aC k i<32768)) (fun i=>8-(intOf i).toNat)
 case atStart=>exact⟨0,rfl,Nat.zero_le _,fun i hi=>gA⟩
 case round=>
  obtain⟨m,rfl,hm,hG⟩:=hrel
  by_cases hml:m<8
  ·have ix:=IX.out m gA
   have GK:=Zd (fun(hh:-32768<aC k m∧aC k m<32768)=>(show ∀i,i<m+1→-32768<aC k i∧aC k i<32768 from fun i hi=>by
    rcases Nat.lt_or_ge i m with g|g
    ·exact hG.out i g
    obtain rfl:i=m:=gA
    exact hh))
   have NK:=Zd (N.out m hml)
   clear hG
   generalize aC k m=z at *
   by_cases b1:z≤-32768
   ·have F:=Zd (FT.out false (NK.out gA) _ G0.out)
    go_wp2_with fail
    exact F.out
   by_cases b2:32768≤z
   ·have F:=Zd (FT.out false (NK.out gA) _ G0.out)
    go_wp2_with fail
    exact F.out
   have F:=Zd (GK.out gA)
   go_wp2_with fail
   go_round
   case rel=>exact⟨m+1,by go_num,gA,F.out⟩
   case measure=>simp[intOf];omega
  obtain rfl:m=8:=gA
  have F:=Zd (FT.out true (Y.out hG.out) _ G0.out)
  clear hG
  go_wp2_with fail
  exact F.out
def TA (w wr:World)(a b:List Int)(bo:Nat)(rs:List Int):Prop:=
 bO wr w.heap.size 26 a∧bO wr (w.heap.size+1) 26 b∧bO wr (w.heap.size+1+1) 26 (ay 8)∧bO wr bo 26 rs∧w.heap.size+1+1<bo∧w.grownBy wr none
theorem K_ {w wr wr':World}{a b:List Int}{bo:Nat}{rs:List Int}(h:TA w wr a b bo rs)(g:wr.grownBy wr' none):TA w wr' a b bo rs:=
 ⟨h.1.aH g,h.2.1.aH g,h.2.2.1.aH g,h.2.2.2.1.aH g,h.2.2.2.2.1,aB h.2.2.2.2.2 g⟩
theorem aej {w wr:World}{a b:List Int}{bo:Nat}{rs:List Int}(h:TA w wr a b bo rs)(k:Nat)(z:Int):TA w (wr.setCell ⟨bo,k,none⟩ (.int .i64 z)) a b bo (rs.set k z):=by
 have hb:=h.2.2.2.2.1
 exact⟨h.1.aJ (aF _ ⟨bo,k,none⟩ _) (by simp;omega),h.2.1.aJ (aF _ ⟨bo,k,none⟩ _) (by simp;omega),h.2.2.1.aJ (aF _ ⟨bo,k,none⟩ _) (by simp;omega),h.2.2.2.1.set k z,hb,aG h.2.2.2.2.2 (aF _ ⟨bo,k,none⟩ _) (by simp;omega)⟩
theorem Xp {w wr wr':World}{a b:List Int}{bo z:Nat}{rs:List Int}(h:TA w wr a b bo rs)(g:wr.grownBy wr' (some z))(hz:bo<z):TA w wr' a b bo rs:=by
 have hb:=h.2.2.2.2.1
 exact⟨h.1.aJ g gA,h.2.1.aJ g gA,h.2.2.1.aJ g gA,h.2.2.2.1.aJ g gA,hb,aG h.2.2.2.2.2 g gA⟩
theorem aek (S:Int)(h1:-262144≤S)(h2:S≤262144):-262144≤S.tdiv 4∧S.tdiv 4≤262144:=by
 rcases Int.le_total 0 S with h|h
 ·rw[Int.tdiv_eq_ediv_of_nonneg h];omega
 have e:S.tdiv 4=-((-S).tdiv 4):=by rw[Int.neg_tdiv];omega
 rw[e,Int.tdiv_eq_ediv_of_nonneg gA];omega
theorem Xq (a b:List Int)(ha:a.length=8)(hb:b.length=8)(num:Int)(n0:0≤num)(n4:num≤4)(sa:bN a=true)(sb:bN b=true)(w:World):Calls prog 65 #[.agg (aD a),.agg (aD b),.int .i64 num] w (rG w (nG a b num) (ze a b num)):=by
 have A1:=Zd (bO.new w 26 a)
 have SA:=Zd (jQ a ha)
 have SB:=Zd (jQ b hb)
 rw[sa]at SA
 rw[sb]at SB
 have M0:=Zd (show bO (((w.alloc (.cells (aD a) 26)).alloc (.cells (aD b) 26)).alloc (.cells (aD (ay 8)) 26)) w.heap.size 26 a∧bO (((w.alloc (.cells (aD a) 26)).alloc (.cells (aD b) 26)).alloc (.cells (aD (ay 8)) 26)) (w.heap.size+1) 26 b∧bO (((w.alloc (.cells (aD a) 26)).alloc (.cells (aD b) 26)).alloc (.cells (aD (ay 8)) 26)) (w.heap.size+1+1) 26 (ay 8)from by
  have g:=ak ((w.alloc (.cells (aD a) 26)).alloc (.cells (aD b) 26)) (.cells (aD (ay 8)) 26) none
  refine⟨((bO.new w 26 a).aH (ak _ _ none)).aH g,(bO.new1 w _ 26 b).aH g,?_⟩
  simpa using bO.new ((w.alloc (.cells (aD a) 26)).alloc (.cells (aD b) 26)) 26 (ay 8))
 have G0:=Zd (aB (aB (ak w (.cells (aD a) 26) none) (ak _ (.cells (aD b) 26) none)) (ak _ (.cells (aD (ay 8)) 26) none))
 rw[rF]at M0 G0
 go_enter func65,ntmps65
 go_wp2_with (first|refine eZ (by first|rfl|(simp[Region.wanted,yielded];omega)) 26 _ rfl _ rfl _ M0.out.1 _ underlying26 rfl (by rw[ha];exact aW) ?_)
 refine(SA.out _).mono ?_
 rintro e w1 ⟨rfl,g1⟩
 have M1:=Zs (bO w1 w.heap.size 26 a∧bO w1 (w.heap.size+1) 26 b∧bO w1 (w.heap.size+1+1) 26 (ay 8)∧w.grownBy w1 none) (⟨M0.out.1.aH g1,M0.out.2.1.aH g1,M0.out.2.2.aH g1,aB G0.out g1⟩)
 clear g1 SA
 go_wp2_with (first|refine eZ (by first|rfl|(simp[Region.wanted,yielded];omega)) 26 _ rfl _ rfl _ M1.out.2.1 _ underlying26 rfl (by rw[hb];exact aW) ?_)
 refine(SB.out _).mono ?_
 rintro e w2 ⟨rfl,g2⟩
 have M2:=Zd (show TA w (w2.alloc (.cells (aD (ay 8)) 26)) a b w2.heap.size (ay 8)from by
  have ga:=ak w2 (.cells (aD (ay 8)) 26) none
  have q:=M1.out.2.2.1.aH g2
  exact⟨(M1.out.1.aH g2).aH ga,(M1.out.2.1.aH g2).aH ga,q.aH ga,bO.new w2 _ _,q.lt,aB (aB M1.out.2.2.2 g2) ga⟩)
 rw[rF]at M2
 clear g2 SB
 go_wp2_with fail
 generalize w2.alloc _=W2 at *
 generalize w2.heap.size=bo at *
 have SY:=Zd ((gQ a).1 sa)
 have SZ:=Zd ((gQ b).1 sb)
 have OK:=Zs (Pn a b num=true) (by unfold Pn;simp[n0,n4,sa,sb])
 clear sa sb
 go_loopw [28] (fun i wr=>∃(m:Nat) (rs:List Int),i=.int .i64 m∧m≤8∧Hid (jh 8 (CV a b num) m rs)∧Hid (TA w wr a b bo rs)) (fun i _=>8-(intOf i).toNat)
 case atStart=>exact⟨0,ay 8,rfl,Nat.zero_le _,gZ 8 _,M2.out⟩
 case round=>
  obtain⟨m,rs,rfl,hm,hF,hM⟩:=hrel
  clear M2
  by_cases vD:m<8
  ·have ca:=hM.out.1.cell m gA
   have cb:=hM.out.2.1.cell m gA
   obtain⟨a1,a2⟩:=SY.out m gA
   obtain⟨b1,b2⟩:=SZ.out m gA
   have hbo:bo<wr.heap.size:=hM.out.2.2.2.1.lt
   have hlen:rs.length=8:=hF.out.1
   have NF:=Zd (eP hF.out vD)
   have MX:=Zs (CV a b num m=(aC a m*(4-num)+aC b m*num).tdiv 4) (rfl)
   clear hF
   generalize CV a b num m=z at *
   generalize aC a m=x at *
   generalize aC b m=y at *
   have i0:(0:Int)≤m:=gA
   have i1:(m:Int)<8:=gA
   have e1:-131072≤x*(4-num)∧x*(4-num)≤131072:=by
    have h:num=0∨num=1∨num=2∨num=3∨num=4:=gA
    rcases h with rfl|rfl|rfl|rfl|rfl<;>omega
   have e2:-131072≤y*num∧y*num≤131072:=by
    have h:num=0∨num=1∨num=2∨num=3∨num=4:=gA
    rcases h with rfl|rfl|rfl|rfl|rfl<;>omega
   obtain⟨e11,e12⟩:=e1
   obtain⟨e21,e22⟩:=e2
   obtain⟨S,hS⟩:∃S,S=x*(4-num)+y*num:=⟨_,rfl⟩
   have HS:=Zd hS
   rw[←hS]at MX
   have s1:-262144≤S:=gA
   have s2:S≤262144:=gA
   have hq:=aek S s1 s2
   obtain⟨q1,q2⟩:=hq
   clear hS
   go_wp2_with fail
   go_quiet (fail)
   go_wp2_with fail
   rw[←HS.out]
   have z1:Struct ((wr.drewN nq).alloc iI) wr.heap.size:=eT (wr.drewN nq)
   refine(eD S _ gA gA).mono ?_
   rintro e w3 ⟨b3,rfl,hb3,i3,g3⟩
   have ga:wr.grownBy ((wr.drewN nq).alloc iI) none:=aB (dR wr nq none) (ak (wr.drewN nq) iI none)
   have Z3:=Zd (bG z1 g3 (by simp))
   have I3:=Zd i3
   have M3:=Zd (K_ hM.out (aB ga g3))
   clear z1 i3 g3 ga hM ca cb
   go_wp2_with fail
   refine(jN 4 _ gA gA).mono ?_
   rintro e w4 ⟨b4,rfl,hb4,i4,g4⟩
   have Z4:=Zd (bG Z3.out g4 (by simp))
   have I4:=Zd (bJ I3.out g4)
   have J4:=Zd i4
   have M4:=Zd (K_ M3.out g4)
   clear i4 g4
   have QU:=Zd (Zn wr.heap.size b3 b4 S 4 w4 Z4.out I4.out J4.out gA gA gA)
   go_wp2_with fail
   refine QU.out.mono ?_
   rintro e w5 ⟨rfl,i5,g5⟩
   have I5:=Zd (nT wr.heap.size _ w5 i5 gA gA)
   have M5:=Zd (Xp M4.out g5 hbo)
   have cd:=M5.out.2.2.2.1.cell m gA
   have fd:=M5.out.2.2.2.1.free m
   have NM:=Zd (aej M5.out m z)
   clear i5 g5 QU
   rw[←MX.out]at I5
   generalize aC rs m=y' at *
   go_wp2_with fail
   refine I5.out.mono ?_
   rintro e w6 ⟨rfl,rfl⟩
   clear I5
   go_wp2_with fail
   go_roundw
   case rel=>exact⟨m+1,_,by go_num,gA,NF.out,NM.out⟩
   case measure=>simp[intOf];omega
  obtain rfl:m=8:=gA
  have hlen:rs.length=8:=hF.out.1
  have EL:=Zs (nG a b num=rs) (by rw[fB hF.out];simp[nG,OK.out])
  have EE:=Zs (ze a b num=0) (by simp[ze,OK.out])
  have BA:=Zd hM.out.2.2.2.1
  have BB:=Zd hM.out.2.2.1
  have GM:=Zd hM.out.2.2.2.2.2
  clear hF hM
  go_wp2_with (first|refine lA BA.out (by rw[hlen];exact aW) ?_|refine sA rs BB.out (by rw[hlen,au]) (by rw[au];exact aW) ?_)
  have PU:=bB (rs':=rs) BB.out (by rw[hlen,au])
  have eO:=lS PU.1 (by rw[hlen];exact aW)
  have GF:=Zd (aG GM.out PU.2 gA)
  refine bodyPost_ret (v:=.tuple #[.agg (aD rs),.int .i64 0]) ?_ rfl ?_
  ·simp[results,results65,asAddr,Act.put,eO]
  rw[EL.out,EE.out];exact⟨rfl,GF.out⟩
theorem ael (w:World)(a b:List Int):bO (((w.alloc (.cells (aD a) 26)).alloc (.cells (aD b) 26)).alloc (.cells (aD (ay 8)) 26)) w.heap.size 26 a∧bO (((w.alloc (.cells (aD a) 26)).alloc (.cells (aD b) 26)).alloc (.cells (aD (ay 8)) 26)) (w.heap.size+1) 26 b∧bO (((w.alloc (.cells (aD a) 26)).alloc (.cells (aD b) 26)).alloc (.cells (aD (ay 8)) 26)) (w.heap.size+1+1) 26 (ay 8):=by
 have g:=ak ((w.alloc (.cells (aD a) 26)).alloc (.cells (aD b) 26)) (.cells (aD (ay 8)) 26) none
 refine⟨((bO.new w 26 a).aH (ak _ _ none)).aH g,(bO.new1 w _ 26 b).aH g,?_⟩
 simpa using bO.new ((w.alloc (.cells (aD a) 26)).alloc (.cells (aD b) 26)) 26 (ay 8)
theorem Xr (a b:List Int)(num:Int)(hn:num<0∨4<num)(w:World):Calls prog 65 #[.agg (aD a),.agg (aD b),.int .i64 num] w (rG w (ay 8) 2):=by
 have M0:=Zd (ael w a b)
 have G0:=Zd (aB (aB (ak w (.cells (aD a) 26) none) (ak _ (.cells (aD b) 26) none)) (ak _ (.cells (aD (ay 8)) 26) none))
 rw[rF]at M0 G0
 have hbd:=nH
 have BB:=Zd M0.out.2.2
 have GM:=Zd G0.out
 rcases hn with hn|hn
 all_goals
 go_enter func65,ntmps65
 go_wp2_with (first|refine sA (ay 8) BB.out rfl (by rw[au];exact aW) ?_)
 have PU:=bB (rs':=ay 8) BB.out rfl
 have eO:=lS PU.1 (by rw[au];exact aW)
 have GF:=Zd (aG GM.out PU.2 gA)
 refine bodyPost_ret (v:=.tuple #[.agg (aD (ay 8)),.int .i64 2]) ?_ rfl ⟨rfl,GF.out⟩
 simp[results,results65,asAddr,Act.put,eO]
theorem Xt (a b:List Int)(ha:a.length=8)(num:Int)(n0:0≤num)(n4:num≤4)(sa:bN a=false)(w:World):Calls prog 65 #[.agg (aD a),.agg (aD b),.int .i64 num] w (rG w (ay 8) 2):=by
 have SA:=Zd (jQ a ha)
 rw[sa]at SA
 have M0:=Zd (ael w a b)
 have G0:=Zd (aB (aB (ak w (.cells (aD a) 26) none) (ak _ (.cells (aD b) 26) none)) (ak _ (.cells (aD (ay 8)) 26) none))
 rw[rF]at M0 G0
 have hbd:=nH
 go_enter func65,ntmps65
 go_wp2_with (first|refine eZ (by first|rfl|(simp[Region.wanted,yielded];omega)) 26 _ rfl _ rfl _ M0.out.1 _ underlying26 rfl (by rw[ha];exact aW) ?_)
 refine(SA.out _).mono ?_
 rintro e w1 ⟨rfl,g1⟩
 have BB:=Zd (M0.out.2.2.aH g1)
 have GM:=Zd (aB G0.out g1)
 clear g1 SA
 go_wp2_with (first|refine sA (ay 8) BB.out rfl (by rw[au];exact aW) ?_)
 have PU:=bB (rs':=ay 8) BB.out rfl
 have eO:=lS PU.1 (by rw[au];exact aW)
 have GF:=Zd (aG GM.out PU.2 gA)
 refine bodyPost_ret (v:=.tuple #[.agg (aD (ay 8)),.int .i64 2]) ?_ rfl ⟨rfl,GF.out⟩
 simp[results,results65,asAddr,Act.put,eO]
theorem Xu (a b:List Int)(ha:a.length=8)(hb:b.length=8)(num:Int)(n0:0≤num)(n4:num≤4)(sa:bN a=true)(sb:bN b=false)(w:World):Calls prog 65 #[.agg (aD a),.agg (aD b),.int .i64 num] w (rG w (ay 8) 2):=by
 have SA:=Zd (jQ a ha)
 have SB:=Zd (jQ b hb)
 rw[sa]at SA
 rw[sb]at SB
 have M0:=Zd (ael w a b)
 have G0:=Zd (aB (aB (ak w (.cells (aD a) 26) none) (ak _ (.cells (aD b) 26) none)) (ak _ (.cells (aD (ay 8)) 26) none))
 rw[rF]at M0 G0
 have hbd:=nH
 go_enter func65,ntmps65
 go_wp2_with (first|refine eZ (by first|rfl|(simp[Region.wanted,yielded];omega)) 26 _ rfl _ rfl _ M0.out.1 _ underlying26 rfl (by rw[ha];exact aW) ?_)
 refine(SA.out _).mono ?_
 rintro e w1 ⟨rfl,g1⟩
 have M1:=Zd (M0.out.2.1.aH g1)
 have B1:=Zd (M0.out.2.2.aH g1)
 have G1:=Zd (aB G0.out g1)
 clear g1 SA
 go_wp2_with (first|refine eZ (by first|rfl|(simp[Region.wanted,yielded];omega)) 26 _ rfl _ rfl _ M1.out _ underlying26 rfl (by rw[hb];exact aW) ?_)
 refine(SB.out _).mono ?_
 rintro e w2 ⟨rfl,g2⟩
 have BB:=Zd (B1.out.aH g2)
 have GM:=Zd (aB G1.out g2)
 clear g2 SB
 go_wp2_with (first|refine sA (ay 8) BB.out rfl (by rw[au];exact aW) ?_)
 have PU:=bB (rs':=ay 8) BB.out rfl
 have eO:=lS PU.1 (by rw[au];exact aW)
 have GF:=Zd (aG GM.out PU.2 gA)
 refine bodyPost_ret (v:=.tuple #[.agg (aD (ay 8)),.int .i64 2]) ?_ rfl ⟨rfl,GF.out⟩
 simp[results,results65,asAddr,Act.put,eO]
theorem Xv (a b:List Int)(ha:a.length=8)(hb:b.length=8)(num:Int)(w:World):Calls prog 65 #[.agg (aD a),.agg (aD b),.int .i64 num] w (rG w (nG a b num) (ze a b num)):=by
 rcases hk:Pn a b num with _|_
 ·rw[show nG a b num=ay 8 by simp[nG,hk],show ze a b num=2 by simp[ze,hk]]
  by_cases hn:0≤num∧num≤4
  ·rcases sa:bN a with _|_
   ·exact Xt a b ha num hn.1 hn.2 sa w
   exact Xu a b ha hb num hn.1 hn.2 sa (by unfold Pn at hk;simpa [hn.1,hn.2,sa] using hk) w
  exact Xr a b num gA w
 have hk':=hk
 unfold Pn at hk'
 simp only[Bool.and_eq_true,decide_eq_true_eq]at hk'
 exact Xq a b ha hb num hk'.1.1.1 hk'.1.1.2 hk'.1.2 hk'.2 w
theorem abn (v:Value)(l:List Int)(j:Nat)(hj:j<l.length)(hl:l.length≤1000000000000000000)(w:World)(h:aS w v l) :
 Calls prog 143 #[v,.int .i64 j] w (lY w (.int .i64 (aC l j))):=by
 obtain⟨ad,c,rfl,hc,bH⟩:=h
 obtain⟨a,rfl,hv⟩:=bH gA
 have hck:=hv j hj
 have F:=Zs (lY w (.int .i64 (aC l j)) (.returned (.int .i64 (aC l j))) w) (⟨rfl,rfl⟩)
 generalize lY w (.int .i64 (aC l j))=T at *
 generalize aC l j=z at *
 clear bH hv
 have j1:(j:Int)<l.length:=gA
 go_enter func143,ntmps143
 go_wp2_with fail
 exact F.out
def TD (l:List Int)(q:Int)(k:Nat)(rs:List Int):Prop:=rs.length=l.length+1∧∀j,aC rs j=if j<k then gr (aC l) l.length q j else aC l j
theorem Xw {l:List Int}{q:Int}{k:Nat}{rs:List Int}(h:TD l q k rs)(h1:1≤k)(h2:k≤l.length):TD l q (k+1) (rs.set k (aC l k+q*aC l (l.length-k) / 32768)):=by
 refine⟨by simpa using h.1,fun j=>?_⟩
 by_cases e:j=k
 ·subst e
  have hl:=h.1
  rw[if_pos gA]
  unfold gr
  rw[if_pos ⟨h1,h2⟩]
  simp[aC,List.getD,show j<rs.length by omega]
 have e1:aC (rs.set k (aC l k+q*aC l (l.length-k) / 32768)) j=aC rs j:=by simp[aC,List.getD,List.getElem?_set,Ne.symm e]
 rw[e1,h.2 j]
 by_cases c:j<k
 ·rw[if_pos c,if_pos gA]
 rw[if_neg c,if_neg gA]
theorem TH (l:List Int)(q:Int):TD l q 1 (l++[0]):=⟨by simp,fun j=>by
 rw[Z6]
 by_cases c:j<1
 ·rw[if_pos c];unfold gr;rw[if_neg gA]
 rw[if_neg c]⟩
theorem abo {l:List Int}{q:Int}{rs:List Int}(h:TD l q (l.length+1) rs):rs=fM (l.length+1) (gr (aC l) l.length q):=dJ h.1 (fun i hi=>by rw[h.2 i,if_pos hi])
theorem Ak (v:Value)(l:List Int)(hn1:1≤l.length)(hn8:l.length≤8)(q:Int)(q1:-32768≤q)(q2:q≤32768)(hW:Wi (aC l) 4294967296)(w:World)(h:aS w v l)(hsh:rR v l) :
 Calls prog 61 #[v,.int .i64 q] w fun e w'=>∃v',e=.returned v'∧gP w.heap.size w' v' (fM (l.length+1) (gr (aC l) l.length q))∧w.grownBy w' none:=by
 have HI:=Zd h
 have HS:=Zd hsh
 have HW:=Zd hW
 have hbl:=fun u:World=>wY u
 clear h hsh hW
 go_enter func61,ntmps61
 go_wp2_with (first
  | (refine dF (by rfl) _ _ rfl w.heap.size (.slice none 0 0) v [] l rfl rfl (bZ _ _) HI.out HS.out (by simp;omega) (Nat.le_refl _) ?_
     intro v1 w1 o1 g1
     have O1:=Zs (gP w.heap.size w1 v1 l) (o1)
     have G1:=Zs (w.grownBy w1 none) (g1)
     clear o1 g1)
  | (refine dF (by rfl) _ _ rfl w.heap.size v1 (.slice (some ⟨w1.heap.size,0,none⟩) 1 1) l [0] rfl rfl (O1.out.aH (ak _ _ none)) (tL w1 0) (.inr ⟨_,_,rfl⟩) (by simp;omega) (by have:=G1.out.size;simp;omega) ?_
     intro v2 w2 o2 g2
     have O2:=Zd o2
     have G2:=Zs (w.grownBy w2 none) (gU (aB G1.out (ak _ _ none)) g2 (fun b hb=>(O1.out.lt b hb).1))
     clear o2 g2))
 clear hbl
 obtain⟨g,cap,hv2,hg1,hg2,hcap⟩:=O2.out.form (by simp)
 subst hv2
 rw[show(l++[(0:Int)]).length=l.length+1 by simp]at O2 hcap ⊢
 go_loopw [6] (fun i wr=>∃(k:Nat) (rs:List Int),i=.int .i64 k∧1≤k∧k≤l.length+1∧Hid (TD l q k rs)∧Hid (gP w.heap.size wr (.slice (some ⟨g,0,none⟩) (l.length+1) cap) rs)∧Hid (w.grownBy wr none)) (fun i _=>l.length+1-(intOf i).toNat)
 case atStart=>exact⟨1,l++[0],rfl,gA,gA,TH l q,O2.out,G2.out⟩
 case round=>
  obtain⟨k,rs,rfl,hk1,hk2,hF,hO,hG⟩:=hrel
  clear O2 G2
  have hl1:rs.length=l.length+1:=hF.out.1
  by_cases hkm:k≤l.length
  ·have cz:=hO.out.cell hl1.symm k gA
   rw[hF.out.2 k,if_neg gA]at cz
   have OW:=Zd hO.out
   have G2:=Zd hG.out
   have NF:=Zd (Xw hF.out hk1 hkm)
   obtain⟨z1,z2⟩:=HW.out k
   obtain⟨x1,x2⟩:=HW.out (l.length-k)
   obtain⟨p1,p2⟩:=zf q _ _ q1 q2 x1 x2
   have AT:=Zd (abn v l (l.length-k) gA gA)
   have DN:=Zd (fun u=>jM (q*aC l (l.length-k)) 15 gA gA gA u)
   rw[show((15:Nat):Int)=15 from rfl,show(2:Int)^15=32768 by decide]at DN
   have EM:=Zd (fH (q*aC l (l.length-k)) gA gA)
   have EZ:=Zd (fH (aC l k+q*aC l (l.length-k) / 32768) gA gA)
   have hgr:wr.heap.size≤wr.heap.size:=Nat.le_refl _
   clear hF hO hG hgr
   generalize hx:aC l (l.length-k)=x at *
   generalize hz:aC l k=z at *
   clear hx hz
   generalize hn:l.length=n at *
   have E8:=Zd (fH (n:Int) gA gA)
   have EJ:=Zs (IntKind.i64.wrap ((n:Int)-(k:Int))=((n-k:Nat):Int)) (by rw[fH _ gA gA];omega)
   generalize n-k=j at *
   have k0:(0:Int)≤k:=gA
   have km:(k:Int)<((n+1:Nat):Int):=gA
   have hS:=aZ wr
   go_wp2_with fail
   refine b_ 16 (dM wr) 17 (by rfl) _ rfl (by kernel_rfl) (fun aK=>?_)
   refine bF 0 hS aK fun aK=>?_
   refine bF 1 hS aK fun aK=>?_
   refine bF 2 hS aK fun aK=>?_
   refine jq (hy:=by intro w' bL;have s1:=bA bL cz;go_simp;try with_reducible rfl) 3 hS aK fun aK=>?_
   refine bF 4 hS aK fun aK=>?_
   refine bF 5 hS aK fun aK=>?_
   refine bF 6 hS aK fun aK=>?_
   refine bF 7 hS aK fun aK=>?_
   refine jq (hy:=by intro w' bL;(try dsimp only at bL);go_simp;(first|exact E8.out|rw[E8.out]|trace_state)) (v:=.int .i64 (n:Int)) 8 hS aK fun aK=>?_
   refine bF 9 hS aK fun aK=>?_
   refine jq (hy:=by intro w' bL;(try dsimp only at bL);go_simp;(first|exact EJ.out|rw[EJ.out]|trace_state)) (v:=.int .i64 (j:Int)) 10 hS aK fun aK=>?_
   refine kT 11 aK fun K hK=>?_
   (try simp only[sZ])
   go_simp
   refine(AT.out _ (aP HI.out (aB G2.out hS))).mono ?_
   rintro e w3 ⟨rfl,rfl⟩
   go_wp2_with fail
   refine hK.out _ _ (fun _=>hS) (fun aK=>?_)
   (try simp only[sZ])
   refine jq (hy:=by intro w' bL;(try dsimp only at bL);go_simp;(first|exact EM.out|rw[EM.out]|(simp;omega))) (v:=.int .i64 (q*x)) 12 hS aK fun aK=>?_
   refine kT 13 aK fun K hK=>?_
   (try simp only[sZ])
   go_simp
   refine(DN.out _).mono ?_
   rintro e w4 ⟨rfl,g4⟩
   have S4:=Zd (bD hS g4)
   clear g4
   go_wp2_with fail
   refine hK.out _ _ (fun _=>S4.out) (fun aK=>?_)
   (try simp only[sZ])
   refine jq (hy:=by intro w' bL;(try dsimp only at bL);go_simp;(first|exact EZ.out|rw[EZ.out]|(simp;omega))) (v:=.int .i64 (z+q*x / 32768)) 14 S4.out aK fun aK=>?_
   refine bF 15 S4.out aK fun aK=>?_
   have cz4:=bA S4.out cz
   have fz4:=(OW.out.aH S4.out).free hl1.symm k
   refine kT 16 aK fun K hK=>?_
   (try simp only[sZ])
   go_simp
   go_wp2_with fail
   refine hK.out _ _ (fun h=>by cases h) (fun aK=>?_)
   (try simp only[sZ])
   refine bI _ _ _ _ (by rfl) ?_
   refine xP ?_
   go_wp2_with fail
   have OE:=(OW.out.aH S4.out).set hl1.symm k (z+q*x / 32768)
   have GE:=aG (aB G2.out S4.out) OE.2 hg1
   go_roundw
   case rel=>exact⟨k+1,_,by go_num,gA,gA,NF.out,OE.1,GE⟩
   case measure=>simp[intOf];omega
  obtain rfl:k=l.length+1:=gA
  have ER:=Zd (abo hF.out)
  have km:¬((l.length+1:Nat):Int)<((l.length+1:Nat):Int):=gA
  have F:=Zs (∃v',Ending.returned (.slice (some ⟨g,0,none⟩) (l.length+1) cap)=.returned v'∧gP w.heap.size wr v' (fM (l.length+1) (gr (aC l) l.length q))∧w.grownBy wr none) (⟨_,rfl,by rw[←ER.out];exact hO.out,hG.out⟩)
  clear hF hO hG HI
  go_wp2_with fail
  go_ret
  exact F.out
theorem Zo (p:Nat→Int)(n:Nat)(hp:∀i,n≤i→p i=0)(q:Int):fM (n+1) (gr (aC (fM n p)) n q)=fM (n+1) (gr p n q):=by
 apply dJ (bQ _ _)
 intro i hi
 rw[dN _ _ _ hi]
 have e:∀j,aC (fM n p) j=p j:=fun j=>by
  by_cases hj:j<n
  ·exact dN _ _ _ hj
  rw[dO _ j (by rw[bQ];omega),hp j gA]
 unfold gr
 rw[e,e]
theorem Zp {p:Nat→Int}{B:Int}(h:Wi p B)(hB:0≤B)(n:Nat):Wi (aC (fM n p)) B:=fun i=>by
 by_cases hi:i<n
 ·rw[dN _ _ _ hi];exact h i
 rw[dO _ i (by rw[bQ];omega)];omega
theorem agn (k:Nat→Int):[16777216]=fM 1 (wU k 0):=by
 apply dJ rfl
 intro i hi
 match i,hi with
 | 0,_=>rfl
theorem La {w wr:World}{T1 T2 T3:TypeId}{a b c:List Int}(h:g_ w wr T1 T2 T3 a b c)(k:Nat)(z:Int):g_ w (wr.setCell ⟨w.heap.size+1+1,k,none⟩ (.int .i64 z)) T1 T2 T3 a b (c.set k z):=
 ⟨h.1.aJ (aF _ ⟨w.heap.size+1+1,k,none⟩ _) (by simp;omega),h.2.1.aJ (aF _ ⟨w.heap.size+1+1,k,none⟩ _) (by simp),h.2.2.1.set k z,aG h.2.2.2 (aF _ ⟨w.heap.size+1+1,k,none⟩ _) (by simp;omega)⟩
theorem Oh (k:List Int)(hk:k.length=8)(sk:bN k=false)(w:World):Calls prog 66 #[.agg (aD k)] w (rG w (ay 9) 2):=by
 have L0:=Zd (mW w 26 58 58 k (ay 9) (ay 9))
 rw[J7]at L0
 have SA:=Zd (jQ k hk)
 rw[sk]at SA
 go_enter func66,ntmps66
 go_wp2_with (refine lA L0.out.1 (by rw[hk];exact aW) ?_)
 refine(SA.out _).mono ?_
 rintro e w1 ⟨rfl,g1⟩
 have BB:=Zd (L0.out.2.1.aH g1)
 have BO:=Zd (L0.out.2.2.1.aH g1)
 have GM:=Zd (aB L0.out.2.2.2 g1)
 clear g1 SA
 go_wp2_with (first|refine lA BO.out (by rw[au];exact dz) ?_|refine sA (ay 9) BB.out rfl (by rw[au];exact dz) ?_)
 have PU:=bB (rs':=ay 9) BB.out rfl
 have eO:=lS PU.1 (by rw[au];exact dz)
 have GF:=Zd (aG GM.out PU.2 gA)
 refine bodyPost_ret (v:=.tuple #[.agg (aD (ay 9)),.int .i64 2]) ?_ rfl ⟨rfl,GF.out⟩
 simp[results,results66,asAddr,Act.put,eO]
theorem JO (k:List Int)(hk:k.length=8)(sk:bN k=true)(w:World):Calls prog 66 #[.agg (aD k)] w (rG w (qL k) (yD k)):=by
 have L0:=Zd (mW w 26 58 58 k (ay 9) (ay 9))
 rw[J7]at L0
 have SA:=Zd (jQ k hk)
 rw[sk]at SA
 have SK:=Zd (AJ hk sk)
 have EL:=Zs (qL k=fM 9 (Az (aC k))) (by simp[qL,sk])
 have EE:=Zs (yD k=0) (by simp[yD,sk])
 have IX:=Zd (fun j hj=>fQ k underlying26 j hj hk)
 clear sk
 go_enter func66,ntmps66
 go_wp2_with (refine lA L0.out.1 (by rw[hk];exact aW) ?_)
 refine(SA.out _).mono ?_
 rintro e w1 ⟨rfl,g1⟩
 have M1:=Zs (g_ w w1 26 58 58 k (ay 9) (ay 9)) (g_.aH L0.out g1)
 have hs1:w.heap.size+1+1+1≤w1.heap.size:=M1.out.2.2.1.lt
 have M2:=Zd (M1.out.aH (ak w1 (.cells #[.int .i64 16777216] 3) none))
 have O2:=Zd (wY w1 (w.heap.size+1+1+1) hs1 16777216)
 rw[agn (aC k)]at O2
 clear g1 SA
 go_wp2_with (refine lA M2.out.1 (by rw[hk];exact aW) ?_)
 generalize w1.alloc _=W0 at *
 go_loopw [5,16] (fun va i wr=>∃m:Nat,i=.int .i64 m∧m≤8∧Hid (gP (w.heap.size+1+1+1) wr va (fM (m+1) (wU (aC k) m)))∧Hid (g_ w wr 26 58 58 k (ay 9) (ay 9))) (fun _ i _=>8-(intOf i).toNat)
 case atStart=>exact⟨0,rfl,Nat.zero_le _,O2.out,M2.out⟩
 case round=>
  obtain⟨m,rfl,hm,hO,hM⟩:=hrel
  clear M2 O2
  by_cases vD:m<8
  ·have ix:=IX.out m gA
   obtain⟨q1,q2⟩:=SK.out m vD
   have hlen:=bQ (m+1) (wU (aC k) m)
   have GR:=Zd (Ak _ _ gA gA (aC k m) q1 q2 (Zp ((vP (aC k) SK.out m gA).le (by decide)) (by decide) (m+1)) wr hO.out.ints hO.out.Iy)
   rw[hlen,Zo _ _ (fun i hi=>X_ _ _ _ hi)]at GR
   rw[show fM (m+1+1) (gr (wU (aC k) m) (m+1) (aC k m))=fM (m+1+1) (wU (aC k) (m+1))from rfl]at GR
   have hsz:w.heap.size+1+1+1≤wr.heap.size:=hM.out.2.2.1.lt
   clear hO
   generalize aC k m=q at *
   go_wp2_with fail
   refine GR.out.mono ?_
   rintro e w2 ⟨v2,rfl,o2,g2⟩
   have O3:=Zd (gP.base o2 hsz)
   have M3:=Zd (hM.out.aH g2)
   clear o2 g2 GR hM
   go_wp2_with fail
   go_roundw
   case rel=>exact⟨m+1,by go_num,gA,O3.out,M3.out⟩
   case measure=>simp[intOf];omega
  obtain rfl:m=8:=gA
  rw[show((8:Nat):Int)=8 from rfl]
  have hlen:=bQ 9 (wU (aC k) 8)
  have NA:=Zd (fun i hi=>dN 9 (wU (aC k) 8) i hi)
  have PB:=Zd (vP (aC k) SK.out 8 gA)
  have DN:=Zs (∀i,Az (aC k) i=(wU (aC k) 8 i+2048) / 4096) (fun i=>rfl)
  generalize Az (aC k)=dn at *
  generalize wU (aC k) 8=pk at *
  obtain⟨g,cap,hv,_,_,hcap⟩:=hO.out.form (by rw[hlen];omega)
  subst hv
  rw[hlen]at hO hcap
  rw[hlen]
  generalize hA:fM 9 pk=A at *
  clear hA
  go_wp2_with fail
  go_loopw [25] (fun i wr=>∃(m:Nat) (rs:List Int),i=.int .i64 m∧m≤9∧Hid (jh 9 dn m rs)∧Hid (gP (w.heap.size+1+1+1) wr (.slice (some ⟨g,0,none⟩) 9 cap) A)∧Hid (g_ w wr 26 58 58 k (ay 9) rs)) (fun i _=>9-(intOf i).toNat)
  case atStart=>exact⟨0,ay 9,rfl,Nat.zero_le _,gZ 9 _,hO.out,hM.out⟩
  case round=>
   obtain⟨m,rs,rfl,hm',hF,hO',hM'⟩:=hrel
   clear hM hO
   by_cases hm9:m<9
   ·have ca:=hO'.out.cell hlen.symm m gA
    rw[NA.out m hm9]at ca
    obtain⟨b1,b2⟩:=PB.out m
    have D:=Zd (fun u=>jM (pk m+2048) 12 gA gA gA u)
    rw[show((12:Nat):Int)=12 from rfl,show(2:Int)^12=4096 by decide,←DN.out m]at D
    have hlr:rs.length=9:=hF.out.1
    have NF:=Zd (eP hF.out hm9)
    clear hF
    generalize dn m=z at *
    generalize pk m=x at *
    have i1:(m:Int)<9:=gA
    go_wp2_with fail
    refine(D.out _).mono ?_
    rintro e w3 ⟨rfl,g3⟩
    have M3:=Zd (hM'.out.aH g3)
    have cd:=M3.out.2.2.1.cell m gA
    have fd:=M3.out.2.2.1.free m
    have O4:=Zd ((hO'.out.aH g3).dK (aF w3 ⟨w.heap.size+1+1,m,none⟩ (.int .i64 z)) (by simp))
    have NM:=Zd (La M3.out m z)
    clear D g3 hM' hO' ca
    generalize aC rs m=y' at *
    go_wp2_with fail
    go_roundw
    case rel=>exact⟨m+1,_,by go_num,gA,NF.out,O4.out,NM.out⟩
    case measure=>simp[intOf];omega
   obtain rfl:m=9:=gA
   have hlr:rs.length=9:=hF.out.1
   have ER:=Zs (rs=fM 9 dn) (fB hF.out)
   have BA:=Zd hM'.out.2.2.1
   have BB:=Zd hM'.out.2.1
   have GM:=Zd hM'.out.2.2.2
   clear hF hM' hO'
   go_wp2_with (first|refine lA BA.out (by rw[hlr];exact dz) ?_|refine sA rs BB.out (by rw[hlr,au]) (by rw[au];exact dz) ?_)
   have PU:=bB (rs':=rs) BB.out (by rw[hlr,au])
   have eO:=lS PU.1 (by rw[hlr];exact dz)
   have GF:=Zd (aG GM.out PU.2 gA)
   refine bodyPost_ret (v:=.tuple #[.agg (aD rs),.int .i64 0]) ?_ rfl ?_
   ·simp[results,results66,asAddr,Act.put,eO]
   rw[EL.out,EE.out,←ER.out];exact⟨rfl,GF.out⟩
theorem yj (k:List Int)(hk:k.length=8)(w:World):Calls prog 66 #[.agg (aD k)] w (rG w (qL k) (yD k)):=by
 rcases sk:bN k with _|_
 ·rw[show qL k=ay 9 by simp[qL,sk],show yD k=2 by simp[yD,sk]]
  exact Oh k hk sk w
 exact JO k hk sk w
theorem yT (was now:List Int)(h1:was.length=8)(h2:now.length=8)(half:Nat)(w:World):Calls prog 23 #[.agg (aD was),.agg (aD now),.int .i64 half] w (jk w (.agg (aD (gK was now half)))):=by
 have L0:=Zd (mW w 26 26 58 was now (ay 9))
 rw[J7]at L0
 have MX:=Zd (fun wr=>Xv was now h1 h2 2 wr)
 have DM:=Zd (fun wr=>yj (nG was now 2) (tu _ _ _) wr)
 have DN:=Zd (fun wr=>yj now h2 wr)
 by_cases hh:half=0
 ·subst hh
  rw[show gK was now 0=qL (nG was now 2)from rfl]
  have KN:=Zd (tu was now 2)
  have AN:=Zd (vQ (nG was now 2))
  generalize qL (nG was now 2)=A at *
  generalize yD (nG was now 2)=x1 at *
  generalize ze was now 2=x2 at *
  generalize nG was now 2=K at *
  go_enter func23,ntmps23
  go_wp2_with (first|refine lA L0.out.1 (by rw[h1];exact aW) ?_|refine lA L0.out.2.1 (by rw[h2];exact aW) ?_)
  refine(MX.out _).mono ?_
  rintro e w1 ⟨rfl,g1⟩
  have M1:=Zs (g_ w w1 26 26 58 was now (ay 9)) (g_.aH L0.out g1)
  obtain⟨b1,b2,b3⟩:=dL w1 26 8 K KN.out
  have B1:=Zd b1
  have B2:=Zd b2
  have M2:=Zd (g_.aH M1.out b3)
  rw[rF]at B1 B2 M2
  clear g1 MX b1 b2 b3
  go_upto_region 3 with(first|refine sA K B1.out (by rw[KN.out,au]) (by rw[au];exact aW) ?_)
  generalize bT _ w1.heap.size K=w2 at *
  generalize w1.heap.size=bk at *
  go_wp2_with (first|refine lA B2.out (by rw[KN.out];exact aW) ?_)
  refine(DM.out w2).mono ?_
  rintro e w3 ⟨rfl,g3⟩
  obtain⟨b1,b2,b3⟩:=dL w3 58 9 A AN.out
  have B3:=Zd b1
  have B4:=Zd b2
  have M4:=Zd (g_.aH (g_.aH M2.out g3) b3)
  rw[J7]at B3 B4 M4
  clear g3 DM b1 b2 b3
  go_upto_region 4 with(first|refine sA A B3.out (by rw[AN.out,au]) (by rw[au];exact dz) ?_)
  generalize bT _ w3.heap.size A=w4 at *
  generalize w3.heap.size=bq at *
  go_wp2_with (first|refine lA B4.out (by rw[AN.out];exact dz) ?_|refine sA A M4.out.2.2.1 (by rw[AN.out,au]) (by rw[au];exact dz) ?_)
  have PU:=bB (rs':=A) M4.out.2.2.1 (by rw[AN.out,au])
  have eO:=lS PU.1 (by rw[AN.out];exact dz)
  refine bodyPost_ret (v:=.agg (aD A)) ?_ rfl ⟨rfl,aG M4.out.2.2.2 PU.2 gA⟩
  simp[results,results23,asAddr,Act.put,eO]
 rw[show gK was now half=qL now from if_neg hh]
 have AN:=Zd (vQ now)
 have hi:¬(half:Int)=0:=gA
 clear DM MX hh
 generalize qL now=A at *
 generalize yD now=x1 at *
 go_enter func23,ntmps23
 go_wp2_with (first|refine lA L0.out.2.1 (by rw[h2];exact aW) ?_)
 refine(DN.out _).mono ?_
 rintro e w3 ⟨rfl,g3⟩
 have M2:=Zs (g_ w w3 26 26 58 was now (ay 9)) (g_.aH L0.out g3)
 obtain⟨b1,b2,b3⟩:=dL w3 58 9 A AN.out
 have B3:=Zd b1
 have B4:=Zd b2
 have M4:=Zd (g_.aH M2.out b3)
 rw[J7]at B3 B4 M4
 clear g3 DN b1 b2 b3
 go_upto_region 6 with(first|refine sA A B3.out (by rw[AN.out,au]) (by rw[au];exact dz) ?_)
 generalize bT _ w3.heap.size A=w4 at *
 generalize w3.heap.size=bq at *
 go_wp2_with (first|refine lA B4.out (by rw[AN.out];exact dz) ?_|refine sA A M4.out.2.2.1 (by rw[AN.out,au]) (by rw[au];exact dz) ?_)
 have PU:=bB (rs':=A) M4.out.2.2.1 (by rw[AN.out,au])
 have eO:=lS PU.1 (by rw[AN.out];exact dz)
 refine bodyPost_ret (v:=.agg (aD A)) ?_ rfl ⟨rfl,aG M4.out.2.2.2 PU.2 gA⟩
 simp[results,results23,asAddr,Act.put,eO]
theorem Xx:(prog.info? 44).map (·.size)=some 4:=by kernel_rfl
theorem Xy {n:Nat}{f:Nat→Int}{k:Nat}{rs:List Int}(h:jh n f k rs)(e:aC rs k=f k):jh n f (k+1) rs:=
 ⟨h.1,fun j hj=>by
  by_cases e':j=k
  ·subst e';exact e
  exact h.2 j gA⟩
def H_ (n:Nat)(f:Nat→Int)(k:Nat)(rs:List Int):Prop:=jh n f k rs∧∀j,k≤j→aC rs j=0
theorem CQ (n:Nat)(f:Nat→Int):H_ n f 0 (ay n):=⟨gZ n f,fun j _=>iZ n j⟩
theorem Ia {n:Nat}{f:Nat→Int}{k:Nat}{rs:List Int}(h:H_ n f k rs)(hk:k<n):H_ n f (k+1) (rs.set k (f k)):=⟨eP h.1 hk,fun j hj=>by rw[j_ _ _ _ _ gA];exact h.2 j gA⟩
theorem Ib {n:Nat}{f:Nat→Int}{k:Nat}{rs:List Int}(h:H_ n f k rs)(e:f k=0):H_ n f (k+1) rs:=⟨Xy h.1 (by rw[e];exact h.2 k (Nat.le_refl _)),fun j hj=>h.2 j gA⟩
theorem Oi (x:List Int)(s z:Int)(h:¬((0≤s∧s≤15)∧0≤z∧z≤32767))(w:World):Calls prog 75 #[.agg (aD x),.int .i64 s,.int .i64 z] w (fO w [] 2):=by
 have G0:=Zd (ak w (.cells (aD x) 44) none)
 by_cases h1:s<0
 ·clear h
  go_enter func75,ntmps75
  go_wp2_with fail
  go_ret2
  exact⟨_,rfl,bZ _ _,G0.out⟩
 by_cases h2:15<s
 ·clear h
  go_enter func75,ntmps75
  go_wp2_with fail
  go_ret2
  exact⟨_,rfl,bZ _ _,G0.out⟩
 by_cases h3:z<0
 ·clear h
  go_enter func75,ntmps75
  go_wp2_with fail
  go_ret2
  exact⟨_,rfl,bZ _ _,G0.out⟩
 have h4:32767<z:=gA
 clear h
 go_enter func75,ntmps75
 go_wp2_with fail
 go_ret2
 exact⟨_,rfl,bZ _ _,G0.out⟩
theorem aem {x:List Int}(i:Nat)(hi:i<x.length)(h:¬(0≤aC x i∧aC x i≤9)):f_ x=false:=by
 rcases hb:f_ x with _|_
 ·rfl
 exact absurd ((iq x).1 hb i hi) h
theorem Al (x:List Int)(hx:x.length=4)(s z:Int)(w:World):Calls prog 75 #[.agg (aD x),.int .i64 s,.int .i64 z] w (fO w (Vd x s z) (Ux x s z)):=by
 by_cases hr:(0≤s∧s≤15)∧0≤z∧z≤32767
 ·have NO:=Zd (fun(w':World) (h:f_ x=false) (g:w.grownBy w' none)=>(show fO w (Vd x s z) (Ux x s z) (.returned (.tuple #[.slice none 0 0,.int .i64 2])) w' from by
   obtain⟨e1,e2⟩:=Vf (x:=x) (s:=s) (z:=z) (fun q=>by rw[h]at q;exact absurd q.2.2 (by decide))
   rw[e1,e2]
   exact⟨_,rfl,bZ _ _,g⟩))
  have YES:=Zd (fun(w':World) v' (h:f_ x=true) (g:w.grownBy w' none) (o:gP w.heap.size w' v' (fM 40 (Mg x s z)))=>(show fO w (Vd x s z) (Ux x s z) (.returned (.tuple #[v',.int .i64 0])) w' from by
   obtain⟨e1,e2⟩:=Dx (x:=x) (s:=s) (z:=z) ⟨hr.1,hr.2,h⟩
   rw[e1,e2]
   exact⟨_,rfl,o,g⟩))
  obtain⟨⟨s1,s2⟩,z1,z2⟩:=hr
  have jg:=fZ 40 gA
  rw[show((40:Nat):Int)=40 from rfl]at jg
  have HX:=Zd hx
  have M0:=Zs (iD w ((w.alloc (.cells (aD x) 44)).alloc (.cells (aD (ay 40)) 3)) 44 3 x (ay 40)) (nI w 44 3 x (ay 40))
  have BN:=Zd (fun i=>(show Mg x s z i=if aC x (i % 4)=((i / 4:Nat):Int)then(if s / 2^(i % 4) % 2=1 then z else -z)else 0 from rfl))
  generalize fO w (Vd x s z) (Ux x s z)=T at *
  go_enter func75,ntmps75
  go_wp2_with fail
  clear jg
  generalize (w.alloc _).alloc _=W0 at *
  go_loopw [29] (fun i wr=>∃(m:Nat) (rs:List Int),i=.int .i64 m∧m≤40∧Hid (∀j,j<m→j<4→0≤aC x j∧aC x j≤9)∧Hid (H_ 40 (Mg x s z) m rs)∧Hid (iD w wr 44 3 x rs)) (fun i _=>40-(intOf i).toNat)
  case atStart=>exact⟨0,ay 40,rfl,Nat.zero_le _,fun j hj=>gA,CQ 40 _,M0.out⟩
  case round=>
   obtain⟨m,rs,rfl,hm,hG,hF,hM⟩:=hrel
   clear M0
   by_cases kP:m<40
   ·have i1:(m:Int)<40:=gA
    have cx:=hM.out.1.cell (m % 4) (by rw[HX.out];omega)
    have hlen:rs.length=40:=hF.out.1.1
    have cd:=hM.out.2.1.cell m gA
    have fd:=hM.out.2.1.free m
    have tm:(m:Int).tmod 4=((m % 4:Nat):Int):=by rw[Int.tmod_eq_emod_of_nonneg gA];exact(Int.natCast_emod m 4).symm
    have tm2:(m:Int) % 4=((m % 4:Nat):Int):=(Int.natCast_emod m 4).symm
    have td:(m:Int).tdiv 4=((m / 4:Nat):Int):=by rw[Int.tdiv_eq_ediv_of_nonneg gA];exact(Int.natCast_ediv m 4).symm
    have td2:(m:Int) / 4=((m / 4:Nat):Int):=(Int.natCast_ediv m 4).symm
    have t4:((m % 4:Nat):Int)<4:=gA
    have BAD:=Zd (fun(h:¬(0≤aC x (m % 4)∧aC x (m % 4)≤9))=>NO.out wr (aem (m % 4) (by rw[HX.out];omega) h) hM.out.2.2)
    have NG:=Zd (fun(h:0≤aC x (m % 4)∧aC x (m % 4)≤9)=>(show ∀j,j<m+1→j<4→0≤aC x j∧aC x j≤9 from fun j hj h4=>by
     by_cases e:j=m
     ·subst e;rw[Nat.mod_eq_of_lt h4]at h;exact h
     exact hG.out j gA h4))
    have BM:=BN.out m
    have NS:=Zd (Ia hF.out kP)
    have NN:=Zd (Ib hF.out)
    have NM:=Zs (iD w (wr.setCell ⟨w.heap.size+1,m,none⟩ (.int .i64 (Mg x s z m))) 44 3 x (rs.set m (Mg x s z m))) (⟨hM.out.1.aJ (aF wr ⟨w.heap.size+1,m,none⟩ (.int .i64 (Mg x s z m))) (by simp),hM.out.2.1.set m _,aG hM.out.2.2 (aF wr ⟨w.heap.size+1,m,none⟩ (.int .i64 (Mg x s z m))) (by simp)⟩)
    generalize Mg x s z m=B at *
    generalize aC rs m=q at *
    generalize hT:m % 4=T4 at *
    generalize hP:m / 4=P4 at *
    generalize aC x T4=y at *
    clear hT hP hF hG hlen
    by_cases y1:y<0
    ·have F:=Zd (BAD.out gA)
     clear BM
     go_wp2_with fail
     exact F.out
    by_cases y2:9<y
    ·have F:=Zd (BAD.out gA)
     clear BM
     go_wp2_with fail
     exact F.out
    have NG1:=Zd (NG.out ⟨gA,gA⟩)
    by_cases hy:y=(P4:Int)
    ·rw[if_pos hy]at BM
     subst hy
     have sq:0≤s / 2^T4:=Int.ediv_nonneg s1 (by have:(0:Int)<2^T4:=Int.pow_pos gA;omega)
     by_cases hq:s / 2^T4 % 2=1
     ·rw[if_pos hq]at BM
      have hq2:(s / 2^T4).tmod 2=1:=by rw[Int.tmod_eq_emod_of_nonneg sq];exact hq
      rw[BM]at NS NM
      clear BM
      go_wp2_with fail
      go_roundw
      case rel=>exact⟨m+1,_,by go_num,gA,NG1.out,NS.out,NM.out⟩
      case measure=>simp[intOf];omega
     rw[if_neg hq]at BM
     have hq0:s / 2^T4 % 2=0:=gA
     have hq2:(s / 2^T4).tmod 2=0:=by rw[Int.tmod_eq_emod_of_nonneg sq];exact hq0
     rw[BM]at NS NM
     clear BM hq
     go_wp2_with fail
     go_roundw
     case rel=>exact⟨m+1,_,by go_num,gA,NG1.out,NS.out,NM.out⟩
     case measure=>simp[intOf];omega
    rw[if_neg hy]at BM
    have NF:=Zd (NN.out BM)
    have hyb:(y==(P4:Int))=false:=by simp[hy]
    clear BM NS NM hy
    go_wp2_with fail
    go_roundw
    case rel=>exact⟨m+1,_,by go_num,gA,NG1.out,NF.out,hM.out⟩
    case measure=>simp[intOf];omega
   obtain rfl:m=40:=gA
   have hlen:rs.length=40:=hF.out.1.1
   have OF:=zx (base:=w.heap.size) hM.out.2.1 gA gA
   rw[hlen,show rs=fM 40 (Mg x s z)from fB hF.out.1]at OF
   have F:=Zd (YES.out wr _ ((iq x).2 (fun j hj=>hG.out j (by have:=HX.out;omega) (by have:=HX.out;omega))) hM.out.2.2 OF)
   clear hF hM hG OF hlen
   rw[show((40:Nat):Int)=40 from rfl]
   go_wp2_with fail
   exact F.out
 obtain⟨e1,e2⟩:=Vf (x:=x) (s:=s) (z:=z) (fun q=>hr ⟨q.1,q.2.1⟩)
 rw[e1,e2]
 exact Oi x s z hr w
def XA (vs:List Int)(one c e:Int):Nat→Nat
 | 0=>0
 | m+1=>if(aC vs (m+1)+aC vs m)*e<2*one*c then m+1 else XA vs one c e m
theorem aen (vs:List Int)(one c e:Int):∀m,XA vs one c e m≤m
 | 0=>Nat.le_refl _
 | m+1=>by
  have:=aen vs one c e m
  unfold XA
  split<;>omega
theorem Lb (c e:Int):∀m,m≤7→XA gains 16384 c e m=Ut c e m
 | 0,_=>rfl
 | m+1,h=>by
  unfold XA Ut
  rw[Lb c e m gA]
  have e1:aC gains (m+1)=iR (m+1):=rfl
  have e2:aC gains m=iR m:=rfl
  rw[e1,e2]
  by_cases hh:(iR (m+1)+iR m)*e<2*16384*c
  ·rw[if_pos hh,if_pos ⟨gA,hh⟩]
  rw[if_neg hh,if_neg (fun q=>hh q.2)]
theorem Zq (x y X Y:Int)(x0:0≤x)(y0:0≤y)(hx:x≤X)(hy:y≤Y):0≤x*y∧x*y≤X*Y:=
 ⟨Int.mul_nonneg x0 y0,Int.mul_le_mul hx hy y0 gA⟩
def wQ (w:World)(a:Addr)(c:Nat):Prop:=TabS w 0 a c gains 8
theorem lu {w w':World}{a:Addr}{c:Nat}(h:wQ w a c)(g:w.grownBy w' none):wQ w' a c:=jG h g
theorem TI (n:Int)(a:Addr)(c:Nat)(w:World)(hW:wQ w a c) :
 Calls prog 78 #[.int .i64 n] w fun e w'=>e=.returned (.tuple #[.int .i64 (Aq n),.int .i64 (gaE n)])∧w'=w:=by
 by_cases hn:0≤n∧n≤7
 ·rw[show Aq n=iR n.toNat from if_pos hn,show gaE n=0 from if_pos hn]
  obtain⟨m,rfl⟩:∃m:Nat,n=(m:Int):=⟨n.toNat,gA⟩
  obtain⟨h1,h2,h3⟩:=hW
  have h4:=h3 m gA
  rw[show gains.getD m 0=iR m from rfl]at h4
  rw[Int.toNat_natCast]
  obtain⟨n1,n2⟩:=hn
  clear h3
  generalize iR m=z at *
  go_enter func78,ntmps78
  go_wp2_with fail
  go_ret2
  exact⟨rfl,rfl⟩
 rw[show Aq n=0 from if_neg hn,show gaE n=2 from if_neg hn]
 clear hW
 by_cases h1:n<0
 ·clear hn
  go_enter func78,ntmps78
  go_wp2_with fail
  go_ret2
  exact⟨rfl,rfl⟩
 have h2:7<n:=gA
 clear hn
 go_enter func78,ntmps78
 go_wp2_with fail
 go_ret2
 exact⟨rfl,rfl⟩
def NeS (w:World)(bs:Nat)(X Y:Int)(s12:Value)(wx:World):Prop:=∃b,s12=.pointer (some ⟨b,0,none⟩)∧jJ wx b Y∧jJ wx bs X∧w.grownBy wx none
theorem Ic (v:Value)(vs:List Int)(one c e:Int)(w:World)(h:aS w v vs)(hl:vs.length≤1000)(h1:1≤vs.length)(o1:0≤one)(o2:one≤16384)(c1:0≤c)(c2:c≤1152921504606846976)(e1:0≤e)(e2:e≤17592186044416)(hv:∀i,0≤aC vs i∧aC vs i≤2147483647) :
 Calls prog 149 #[v,.int .i64 one,.int .i64 c,.int .i64 e] w (gJ w (.int .i64 (XA vs one c e (vs.length-1)))):=by
 have HV:=Zd hv
 obtain⟨ad,cc,rfl,hc,bH⟩:=h
 obtain⟨a,rfl,hce⟩:=bH gA
 have HC:=Zd hce
 obtain⟨q1,q2⟩:=Zq (2*one) c 32768 1152921504606846976 gA c1 gA c2
 clear bH hce hv
 go_enter func149,ntmps149
 go_wp2_with fail
 go_loopw [9,10] (fun s i wr=>∃m:Nat,i=.int .i64 ((m:Int)+1)∧s=.int .i64 (XA vs one c e m:Int)∧m+1≤vs.length∧Hid (w.grownBy wr none)) (fun _ i _=>vs.length-(intOf i).toNat)
 case atStart=>exact⟨0,rfl,rfl,h1,aQ _ _⟩
 case round=>
  obtain⟨m,rfl,rfl,hm,hG⟩:=hrel
  by_cases hml:m+1<vs.length
  ·have cx:=HC.out (m+1) hml
   have cy:=HC.out m gA
   obtain⟨x1,x2⟩:=HV.out (m+1)
   obtain⟨y1,y2⟩:=HV.out m
   obtain⟨r1,r2⟩:=Zq (aC vs (m+1)+aC vs m) e 4294967294 17592186044416 gA e1 gA e2
   have EN:=Zs (XA vs one c e (m+1)=if(aC vs (m+1)+aC vs m)*e<2*one*c then m+1 else XA vs one c e m) (rfl)
   have NB:=aen vs one c e m
   generalize aC vs (m+1)=x at *
   generalize aC vs m=y at *
   generalize XA vs one c e m=B at *
   have i1:(m:Int)+1<vs.length:=gA
   have i2:(m:Int)<vs.length:=gA
   have i3:(vs.length:Int)≤1000:=gA
   have i4:(0:Int)≤(m:Int)+1:=gA
   have ZS:=Zd (eT wr)
   have GZ:=Zd (aB hG.out (ak wr iI none))
   have WZ:=Zd (World.grownBy.size hG.out)
   rw[show iI=.cells #[.bool false,.slice none 0 0] 96 from rfl]at ZS GZ
   clear hG
   go_wp2_with fail
   generalize wr.alloc (.cells #[.bool false,.slice none 0 0] 96)=wz at *
   generalize wr.heap.size=bs at *
   refine(eD (2*one) _ gA gA).mono ?_
   rintro ee wa ⟨bx,rfl,hb1,ix,g1⟩
   have IX:=Zd ix
   have ZS:=Zd (bG ZS.out g1 (by simp))
   have GZ:=Zd (aB GZ.out g1)
   clear ix g1 hb1
   go_wp2_with fail
   refine(eD c _ gA gA).mono ?_
   rintro ee wb ⟨iP,rfl,hb2,iy,g2⟩
   have IY:=Zd iy
   have IX:=Zd (bJ IX.out g2)
   have ZS:=Zd (bG ZS.out g2 (by simp))
   have GZ:=Zd (aB GZ.out g2)
   clear iy g2 hb2
   go_wp2_with fail
   refine(iC bs bx iP (2*one) c _ ZS.out IX.out IY.out (by rw[P8];omega) (by rw[P8];omega)).mono ?_
   rintro ee wc ⟨rfl,ip,g3⟩
   have IS:=Zd ip
   have hG:=Zd (aG GZ.out g3 WZ.out)
   have WS:=WZ.out
   clear ip g3 IX IY ZS
   go_upto_region 6 with fail
   go_cut [12]from 13 to 45 (fun s12 wx=>NeS w bs (2*one*c) ((x+y)*e) s12 wx)
   case first=>
    refine wp_region_held_drew (S:=dM w) (by kernel_rfl) (bD hG.out (bW (aQ _ none))) (fun aj=>?_)
    have IS:=Zd (bJ IS.out (bW (aQ wc none)))
    refine bV 1 aj ?_
    refine bV 2 aj ?_
    refine bV 3 aj ?_
    refine bV (hy:=by intro w' bL;have c1:w'.cell? { block:=a.block,off:=a.off+(m+1) }=some (.int .i64 x):=bA bL cx;go_simp;(try with_reducible rfl)) (v:=.int .i64 x) 4 aj ?_
    refine bV 5 aj ?_
    refine bV 6 aj ?_
    refine bV (hy:=by intro w' bL;go_simp;(try(first|with_reducible rfl|exact fH _ gA gA|(rw[fH _ gA gA];omega)|omega))) (v:=.int .i64 (m:Int)) 7 aj ?_
    refine bV 8 aj ?_
    refine bV (hy:=by intro w' bL;have c2:=bA bL cy;go_simp;(try with_reducible rfl)) (v:=.int .i64 y) 9 aj ?_
    refine bV (hy:=by intro w' bL;go_simp;(try(first|with_reducible rfl|exact fH _ gA gA|omega))) (v:=.int .i64 (x+y)) 10 aj ?_
    refine bV 12 aj ?_
    refine oL 0 11 (fun K hK=>?alV) fun K hK=>?alW
    case alV=>
     (try simp only[sZ])
     go_simp
     go_wp2_with fail
     have LZ:=Zs (bs<wc.heap.size) (Nat.lt_of_lt_of_le (mV IS.out) (by first|exact Nat.le_refl _|simp))
     refine hK.out _ _ (dX aj (.cells #[.bool false,.slice none 0 0] 96)) (fun aj=>?_)
     have IS:=Zd (bJ IS.out (ak (wc.drew) (.cells #[.bool false,.slice none 0 0] 96) none))
     have ZS:=Zs (Struct ((wc.alloc (.cells #[.bool false,.slice none 0 0] 96)).drew) (wc.heap.size)) (eT (wc.drew))
     have ajJ:(wc.drew).alloc (.cells #[.bool false,.slice none 0 0] 96)=(wc.alloc (.cells #[.bool false,.slice none 0 0] 96)).drew:=rfl
     rw[ajJ]at IS
     clear ajJ
     generalize (wc.alloc (.cells #[.bool false,.slice none 0 0] 96)).drew=anj at *
     generalize wc.heap.size=bz at *
     (try simp only[sZ])
     refine fI 11 fun K hK=>?_
     (try simp only[sZ])
     go_simp
     refine(eD (x+y) _ gA gA).mono ?_
     rintro ee aol ⟨bx,rfl,ajK,ajL,ajM⟩
     have aij:=Zd ajM
     have IX:=Zd ajL
     have IS:=Zd (bJ IS.out aij.out)
     have ZS:=Zd (bG ZS.out aij.out (by simp))
     clear ajL ajK ajM
     go_wp2_with fail
     refine hK.out _ _ (bD aj aij.out) (fun aj=>?_)
     (try simp only[sZ])
     refine fI 13 fun K hK=>?_
     (try simp only[sZ])
     go_simp
     refine(eD e _ gA gA).mono ?_
     rintro ee aom ⟨iP,rfl,ajN,ajO,agp⟩
     have agq:=Zd agp
     have IY:=Zd ajO
     have IS:=Zd (bJ IS.out agq.out)
     have ZS:=Zd (bG ZS.out agq.out (by simp))
     have IX:=Zd (bJ IX.out agq.out)
     clear ajO ajN agp
     go_wp2_with fail
     refine hK.out _ _ (bD aj agq.out) (fun aj=>?_)
     (try simp only[sZ])
     refine fI 14 fun K hK=>?_
     (try simp only[sZ])
     go_simp
     refine(iC bz bx iP (x+y) e _ ZS.out IX.out IY.out (by rw[P8];omega) (by rw[P8];omega)).mono ?_
     rintro ee aon ⟨rfl,ajP,agr⟩
     have ajQ:=Zd agr
     have IP:=Zd ajP
     have IS:=Zd (dU IS.out ajQ.out ZS.out (by have:=LZ.out;omega))
     clear ajP agr IX IY
     go_wp2_with fail
     refine hK.out _ _ (iV aj ajQ.out (by have:=LZ.out;omega)) (fun aj=>?_)
     clear ZS
     (try simp only[sZ])
     refine bV 15 aj ?_
     refine lM ?_
     go_wp2_with fail
     go_meet
     exact⟨bz,rfl,IP.out,IS.out,aj⟩
    case alW=>
     (try simp only[sZ])
     go_simp
     refine(eD (x+y) _ gA gA).mono ?_
     rintro ee Oj ⟨bx,rfl,ajR,ajS,ajT⟩
     have ajU:=Zd ajT
     have IX:=Zd ajS
     have IS:=Zd (bJ IS.out ajU.out)
     clear ajS ajR ajT
     go_wp2_with fail
     refine hK.out _ _ (bD aj ajU.out) (fun aj=>?_)
     (try simp only[sZ])
     refine oL 0 13 (fun K hK=>?aik) fun K hK=>?ail
     case aik=>
      (try simp only[sZ])
      go_simp
      go_wp2_with fail
      have LZ:=Zs (bs<Oj.heap.size) (Nat.lt_of_lt_of_le (mV IS.out) (by first|exact Nat.le_refl _|simp))
      refine hK.out _ _ (dX aj (.cells #[.bool false,.slice none 0 0] 96)) (fun aj=>?_)
      have IS:=Zd (bJ IS.out (ak (Oj) (.cells #[.bool false,.slice none 0 0] 96) none))
      have IX:=Zd (bJ IX.out (ak (Oj) (.cells #[.bool false,.slice none 0 0] 96) none))
      have ZS:=Zs (Struct (Oj.alloc (.cells #[.bool false,.slice none 0 0] 96)) (Oj.heap.size)) (eT (Oj))
      generalize Oj.alloc (.cells #[.bool false,.slice none 0 0] 96)=ank at *
      generalize Oj.heap.size=bz at *
      (try simp only[sZ])
      refine fI 13 fun K hK=>?_
      (try simp only[sZ])
      go_simp
      refine(eD e _ gA gA).mono ?_
      rintro ee alX ⟨iP,rfl,ajV,ajW,ajX⟩
      have ags:=Zd ajX
      have IY:=Zd ajW
      have IS:=Zd (bJ IS.out ags.out)
      have IX:=Zd (bJ IX.out ags.out)
      have ZS:=Zd (bG ZS.out ags.out (by simp))
      clear ajW ajV ajX
      go_wp2_with fail
      refine hK.out _ _ (bD aj ags.out) (fun aj=>?_)
      (try simp only[sZ])
      refine fI 14 fun K hK=>?_
      (try simp only[sZ])
      go_simp
      refine(iC bz bx iP (x+y) e _ ZS.out IX.out IY.out (by rw[P8];omega) (by rw[P8];omega)).mono ?_
      rintro ee aoo ⟨rfl,ajY,agt⟩
      have ajZ:=Zd agt
      have IP:=Zd ajY
      have IS:=Zd (dU IS.out ajZ.out ZS.out (by have:=LZ.out;omega))
      clear ajY agt IX IY
      go_wp2_with fail
      refine hK.out _ _ (iV aj ajZ.out (by have:=LZ.out;omega)) (fun aj=>?_)
      clear ZS
      (try simp only[sZ])
      refine bV 15 aj ?_
      refine lM ?_
      go_wp2_with fail
      go_meet
      exact⟨bz,rfl,IP.out,IS.out,aj⟩
     case ail=>
      (try simp only[sZ])
      go_simp
      refine(eD e _ gA gA).mono ?_
      rintro ee JQ ⟨iP,rfl,aj0,aj1,aj2⟩
      have ain:=Zd aj2
      have IY:=Zd aj1
      have IS:=Zd (bJ IS.out ain.out)
      have IX:=Zd (bJ IX.out ain.out)
      clear aj1 aj0 aj2
      go_wp2_with fail
      refine hK.out _ _ (bD aj ain.out) (fun aj=>?_)
      (try simp only[sZ])
      refine fI 0 fun K hK=>?_
      (try simp only[sZ])
      go_simp
      go_wp2_with fail
      have LZ:=Zs (bs<JQ.heap.size) (Nat.lt_of_lt_of_le (mV IS.out) (by first|exact Nat.le_refl _|simp))
      refine hK.out _ _ (dX aj (.cells #[.bool false,.slice none 0 0] 96)) (fun aj=>?_)
      have IS:=Zd (bJ IS.out (ak (JQ) (.cells #[.bool false,.slice none 0 0] 96) none))
      have IX:=Zd (bJ IX.out (ak (JQ) (.cells #[.bool false,.slice none 0 0] 96) none))
      have IY:=Zd (bJ IY.out (ak (JQ) (.cells #[.bool false,.slice none 0 0] 96) none))
      have ZS:=Zs (Struct (JQ.alloc (.cells #[.bool false,.slice none 0 0] 96)) (JQ.heap.size)) (eT (JQ))
      generalize JQ.alloc (.cells #[.bool false,.slice none 0 0] 96)=anl at *
      generalize JQ.heap.size=bz at *
      (try simp only[sZ])
      refine fI 14 fun K hK=>?_
      (try simp only[sZ])
      go_simp
      refine(iC bz bx iP (x+y) e _ ZS.out IX.out IY.out (by rw[P8];omega) (by rw[P8];omega)).mono ?_
      rintro ee aop ⟨rfl,aj3,agu⟩
      have aj4:=Zd agu
      have IP:=Zd aj3
      have IS:=Zd (dU IS.out aj4.out ZS.out (by have:=LZ.out;omega))
      clear aj3 agu IX IY
      go_wp2_with fail
      refine hK.out _ _ (iV aj aj4.out (by have:=LZ.out;omega)) (fun aj=>?_)
      clear ZS
      (try simp only[sZ])
      refine bV 15 aj ?_
      refine lM ?_
      go_wp2_with fail
      go_meet
      exact⟨bz,rfl,IP.out,IS.out,aj⟩
   case rest=>
   obtain⟨bp,rfl,iy,ix,g4⟩:=hcut
   have CM:=Zd (uW bs bp (2*one*c) ((x+y)*e) _ ix iy)
   have G4:=Zd g4
   clear ix iy g4 cx cy
   by_cases hh:(x+y)*e<2*one*c
   ·rw[show fJ (2*one*c) ((x+y)*e)=1 by unfold fJ;rw[if_neg gA,if_pos hh]]at CM
    have ER:=Zs (XA vs one c e (m+1)=m+1) (by rw[EN.out,if_pos hh])
    clear hh r1 r2 q1 q2
    go_wp2_with fail
    refine CM.out.mono ?_
    rintro ee we ⟨rfl,nn,rfl⟩
    clear CM
    go_wp2_with fail
    go_roundw
    case rel=>exact⟨m+1,by go_num,by rw[ER.out];go_num,gA,aB G4.out (dR _ _ none)⟩
    case measure=>simp[intOf];omega
   have hc3:¬0<fJ (2*one*c) ((x+y)*e):=by
    unfold fJ
    repeat' split
    all_goals omega
   have ER:=Zs (XA vs one c e (m+1)=B) (by rw[EN.out,if_neg hh])
   clear hh r1 r2 q1 q2
   generalize fJ (2*one*c) ((x+y)*e)=C at *
   go_wp2_with fail
   refine CM.out.mono ?_
   rintro ee we ⟨rfl,nn,rfl⟩
   clear CM
   go_wp2_with fail
   go_roundw
   case rel=>exact⟨m+1,by go_num,by rw[ER.out],gA,aB G4.out (dR _ _ none)⟩
   case measure=>simp[intOf];omega
  obtain hm':vs.length-1=m:=gA
  generalize hB:XA vs one c e m=B at *
  have HB:=Zd hB
  clear hB
  go_wp2_with fail
  go_ret
  exact⟨by rw[hm',HB.out];rfl,hG.out⟩
theorem Ie (c e:Int)(a:Addr)(cp:Nat)(w:World)(c0:-9223372036854775808≤c)(c9:c≤9223372036854775807)(e0:-9223372036854775808≤e)(e9:e≤9223372036854775807)(hW:wQ w a cp) :
 Calls prog 71 #[.int .i64 c,.int .i64 e] w (gJ w (.int .i64 (Ym c e))):=by
 by_cases hc:c≤0
 ·rw[show Ym c e=0 from if_pos (.inl hc)]
  have G0:=Zd (aQ w none)
  clear hW
  go_enter func71,ntmps71
  go_wp2_with fail
  go_ret
  exact⟨rfl,G0.out⟩
 by_cases he:e≤0
 ·rw[show Ym c e=0 from if_pos (.inr he)]
  have G0:=Zd (aQ w none)
  have hc':0<c:=gA
  clear hW
  go_enter func71,ntmps71
  go_wp2_with fail
  go_ret
  exact⟨rfl,G0.out⟩
 rw[show Ym c e=(Ut (iT c) (iT e) 7:Int)from if_neg gA]
 have hc':0<c:=gA
 have he':0<e:=gA
 obtain⟨k1,k2⟩:=zo c hc'
 obtain⟨k3,k4⟩:=zo e he'
 obtain⟨h1,h2,h3⟩:=hW
 have NE:=Zd (Ic (.slice (some a) 8 cp) gains 16384 (iT c) (iT e) w ⟨some a,cp,rfl,h2,fun _=>⟨a,rfl,h3⟩⟩ (by decide) (by decide) gA gA gA gA gA gA (fun i=>by have:=tK i;show 0≤iR i∧iR i≤2147483647;omega))
 rw[Lb _ _ _ (by decide),show gains.length-1=7 from rfl]at NE
 have m1:min c 1099511627776=iT c:=by unfold iT;split<;>omega
 have m2:min e 1099511627776=iT e:=by unfold iT;split<;>omega
 have m3:(if 1099511627776<c then 1099511627776 else c)=iT c:=rfl
 have m4:(if 1099511627776<e then 1099511627776 else e)=iT e:=rfl
 clear h3
 generalize Ut (iT c) (iT e) 7=R at *
 generalize iT c=C at *
 generalize iT e=E at *
 go_enter func71,ntmps71
 go_wp2_with fail
 refine NE.out.mono ?_
 rintro ee w1 ⟨rfl,g1⟩
 clear NE
 go_wp2_with fail
 go_ret
 exact⟨rfl,g1⟩
theorem uE (n:Int)(a:Addr)(c:Nat)(w:World)(hS:Steps w a c) :
 Calls prog 77 #[.int .i64 n] w fun e w'=>e=.returned (.tuple #[.int .i64 (glV n),.int .i64 (glE n)])∧w.grownBy w' none:=by
 by_cases h:0≤n∧n≤31
 ·obtain⟨k,rfl⟩:∃k:Nat,n=(k:Int):=⟨n.toNat,gA⟩
  have hk:k≤31:=gA
  rw[(rP k hk).1,(rP k hk).2]
  have P:=Zd (Xz (3+3*k / 8) ((3*k % 8*4096:Nat):Int) gA gA gA a c w hS)
  rw[Yf k gA]at P
  have e1:(24+3*(k:Int)).tdiv 8=((3+3*k / 8:Nat):Int):=by rw[Int.tdiv_eq_ediv_of_nonneg gA];omega
  have e2:(24+3*(k:Int)) / 8=((3+3*k / 8:Nat):Int):=gA
  have e3:(24+3*(k:Int)).tmod 8=((3*k % 8:Nat):Int):=by rw[Int.tmod_eq_emod_of_nonneg gA];omega
  have e4:(24+3*(k:Int)) % 8=((3*k % 8:Nat):Int):=gA
  rw[show((3*k % 8*4096:Nat):Int)=((3*k % 8:Nat):Int)*4096 by omega]at P
  have b2:3*k % 8≤7:=gA
  generalize 3+3*k / 8=q at *
  generalize 3*k % 8=r at *
  generalize kL k=z at *
  have c2:(r:Int)≤7:=gA
  have c3:(k:Int)≤31:=gA
  clear hS h b2
  go_enter func77,ntmps77
  go_wp2_with fail
  refine P.out.mono ?_
  rintro e w1 ⟨rfl,g1⟩
  have G1:=Zd g1
  clear P g1
  go_wp2_with fail
  go_ret2
  exact⟨rfl,G1.out⟩
 rw[show glV n=0 from if_neg h,show glE n=2 from if_neg h]
 clear hS
 by_cases h1:n<0
 ·clear h
  go_enter func77,ntmps77
  go_wp2_with fail
  go_ret2
  exact⟨rfl,aQ _ _⟩
 have h2:31<n:=gA
 clear h
 go_enter func77,ntmps77
 go_wp2_with fail
 go_ret2
 exact⟨rfl,aQ _ _⟩
theorem aeo (i:Nat):0≤aC (fM 32 kL) i∧aC (fM 32 kL) i≤2147483647:=by
 by_cases h:i<32
 ·rw[dN _ _ _ h]
  have:=Dq i
  omega
 rw[dO (fM 32 kL) i (by rw[bQ];omega)]
 omega
theorem Zr (c e:Int):∀m,m≤31→XA (fM 32 kL) 1 c e m=goN c e m
 | 0,_=>rfl
 | m+1,h=>by
  unfold XA goN
  rw[Zr c e m gA,dN _ _ _ gA,dN _ _ _ gA,show(2:Int)*1*c=2*c by omega]
theorem Ig (c e:Int)(ad:Addr)(cp:Nat)(w:World)(hS:Steps w ad cp)(c0:0<c)(c9:c≤9223372036854775807)(e0:0<e)(e9:e≤9223372036854775807) :
 Calls prog 76 #[.int .i64 c,.int .i64 e] w (gJ w (.int .i64 (goN (rH c) (rJ e) 31:Int))):=by
 have LV:=Zd (fun n wr (g:w.grownBy wr none)=>uE n ad cp wr (jR hS g))
 have e1:min c 1152921504606846976=rH c:=by unfold rH;split<;>omega
 have e2:min e 17592186044416=rJ e:=by unfold rJ;split<;>omega
 have e3:(if 1152921504606846976<c then 1152921504606846976 else c)=rH c:=rfl
 have e4:(if 17592186044416<e then 17592186044416 else e)=rJ e:=rfl
 obtain⟨b1,b2⟩:=Yh c c0
 obtain⟨b3,b4⟩:=Yi e e0
 have EC:=Zd (And.intro (And.intro e1 e2) (And.intro e3 e4))
 have F:=Zs (∀w',w.grownBy w' none→gJ w (.int .i64 (goN (rH c) (rJ e) 31:Int)) (.returned (.int .i64 (goN (rH c) (rJ e) 31:Int))) w') (fun w' h=>⟨rfl,h⟩)
 generalize gJ w (.int .i64 (goN (rH c) (rJ e) 31:Int))=T at *
 clear hS e1 e2 e3 e4
 go_enter func76,ntmps76
 go_wp2_with fail
 go_loopw [5,6] (fun vo i wr=>∃(m:Nat),i=.int .i64 m∧m≤32∧Hid (gP w.heap.size wr vo (fM m kL))∧Hid (w.grownBy wr none)) (fun _ i _=>32-(intOf i).toNat)
 case atStart=>exact⟨0,rfl,Nat.zero_le _,bZ _ _,aQ _ _⟩
 case round=>
  obtain⟨m,rfl,hm,hO,hG⟩:=hrel
  by_cases alP:m<32
  ·have LL:=Zd (LV.out (m:Int) wr hG.out)
   rw[(rP m gA).1,(rP m gA).2]at LL
   have ES:=Zs (fM (m+1) kL=fM m kL++[kL m]) (by unfold fM;rw[List.range_succ];simp)
   have LN:=Zd (bQ m kL)
   have i1:(m:Int)<32:=gA
   generalize kL m=z at *
   go_wp2_with fail
   refine LL.out.mono ?_
   rintro ee w4 ⟨rfl,g4⟩
   have O4:=Zd (hO.out.aH g4)
   have G4:=Zd (aB hG.out g4)
   have SZ:=Zs (w.heap.size≤(w4.alloc (.cells #[.int .i64 z] 3)).heap.size) (by have:=G4.out.size;simp;omega)
   clear LL g4 hO hG
   go_wp2_with (at_builtin;refine dF (by rfl) _ _ rfl w.heap.size _ (.slice (some ⟨w4.heap.size,0,none⟩) 1 1) (fM m kL) [z] rfl rfl (O4.out.aH (ak _ _ none)) (tL w4 z) (.inr ⟨_,_,rfl⟩) (by rw[LN.out];simp;omega) SZ.out ?_)
   intro v5 w5 h5 g5
   rw[←ES.out]at h5
   have O5:=Zd h5
   have hlt:∀b,u5.ownBlock=some b→w.heap.size≤b:=fun b hb=>(O4.out.lt b hb).1
   have G5:=Zd (gU (aB G4.out (ak w4 (.cells #[.int .i64 z] 3) none)) g5 (fun b hb=>by have:=hlt b hb;omega))
   clear h5 g5 hlt
   go_wp2_with fail
   go_roundw
   case rel=>exact⟨m+1,by go_num,gA,O5.out,G5.out⟩
   case measure=>simp[intOf];omega
  obtain rfl:m=32:=gA
  rw[show((32:Nat):Int)=32 from rfl]
  have NE:=Zd (Ic u5 (fM 32 kL) 1 (rH c) (rJ e) wr hO.out.ints (by rw[bQ];omega) (by rw[bQ];omega) gA gA gA gA gA gA aeo)
  rw[bQ,show 32-1=31 from rfl,Zr _ _ _ (Nat.le_refl _)]at NE
  have FF:=Zd (fun w' (g:wr.grownBy w' none)=>F.out w' (aB hG.out g))
  obtain⟨⟨m1,m2⟩,m3,m4⟩:=EC.out
  clear hO hG
  generalize goN (rH c) (rJ e) 31=R at *
  generalize rH c=C at *
  generalize rJ e=E at *
  go_wp2_with fail
  refine NE.out.mono ?_
  rintro ee w1 ⟨rfl,g1⟩
  have F1:=Zd (FF.out w1 g1)
  clear NE g1
  go_wp2_with fail
  first|exact F1.out|(go_ret;exact F1.out)
theorem Ih (c e:Int)(ad:Addr)(cp:Nat)(w:World)(hS:Steps w ad cp)(c9:c≤9223372036854775807)(e9:e≤9223372036854775807) :
 Calls prog 76 #[.int .i64 c,.int .i64 e] w (gJ w (.int .i64 (Yg c e))):=by
 by_cases hc:c≤0
 ·rw[show Yg c e=0 from if_pos (.inl hc)]
  have G0:=Zd (aQ w none)
  clear hS
  go_enter func76,ntmps76
  go_wp2_with fail
  go_ret
  exact⟨rfl,G0.out⟩
 by_cases he:e≤0
 ·rw[show Yg c e=0 from if_pos (.inr he)]
  have G0:=Zd (aQ w none)
  have hc':0<c:=gA
  clear hS
  go_enter func76,ntmps76
  go_wp2_with fail
  go_ret
  exact⟨rfl,G0.out⟩
 rw[show Yg c e=(goN (rH c) (rJ e) 31:Int)from if_neg (fun x=>x.elim hc he)]
 exact Ig c e ad cp w hS gA c9 gA e9
theorem XC (u:List Int)(o n:Nat)(h:o+n≤u.length):((aO u).drop o).take n=aO (bP u o n):=by
 have:=qz u [] o n h
 unfold kE at this
 rwa [List.append_nil]at this
def Ii (w:World)(m:List Int)(s:Bool)(L:List Int)(e:Ending)(w':World):Prop:=∃v',e=.returned (.tuple #[dI m s,v'])∧gP w.heap.size w' v' L∧w.grownBy w' none
def Pb (w:World)(l:List Int)(s:Bool)(u:List Int)(wr:World):Prop:=dA wr w.heap.size l s∧dP wr (w.heap.size+1) 46 (aO u)∧dA wr (w.heap.size+1+1) (ay 101) false∧w.grownBy wr none
theorem Pb.new (w:World)(l:List Int)(s:Bool)(u:List Int):Pb w l s u (((w.alloc (.cells (aU l s).toArray 29)).alloc (.cells (aD u) 46)).alloc (.cells (aU (ay 101) false).toArray 29)):=by
 refine⟨((dA.new w l s).aH (ak _ _ none)).aH (ak _ _ none),?_,?_,aB (aB (ak _ _ none) (ak _ _ none)) (ak _ _ none)⟩
 ·have:=(dP.new (w.alloc (.cells (aU l s).toArray 29)) 46 (aO u)).aH (ak _ (.cells (aU (ay 101) false).toArray 29) none)
  rw[qy]at this
  simpa using this
 have:=dA.new ((w.alloc (.cells (aU l s).toArray 29)).alloc (.cells (aD u) 46)) (ay 101) false
 simpa using this
theorem Pb.aH {w:World}{l:List Int}{s:Bool}{u:List Int}{wr wr':World}(h:Pb w l s u wr)(g:wr.grownBy wr' none):Pb w l s u wr':=⟨h.1.aH g,h.2.1.aH g,h.2.2.1.aH g,aB h.2.2.2 g⟩
theorem Pb.set {w:World}{l:List Int}{s:Bool}{u:List Int}{wr:World}(h:Pb w l s u wr)(k:Nat)(z:Int)(hk:k<l.length):Pb w (l.set k z) s u (wr.setCell ⟨w.heap.size,k,none⟩ (.int .i64 z)):=
 ⟨h.1.set k z hk,h.2.1.aJ (aF wr ⟨w.heap.size,k,none⟩ _) (by simp),h.2.2.1.aJ (aF wr ⟨w.heap.size,k,none⟩ _) (by simp<;>omega),aG h.2.2.2 (aF wr ⟨w.heap.size,k,none⟩ _) (Nat.le_refl _)⟩
theorem Pb.put {w:World}{l:List Int}{s:Bool}{u:List Int}{wr:World}(h:Pb w l s u wr)(o:Nat)(M:List Int)(hl:o+M.length≤l.length):Pb w (jr l o M) s u (dQ wr w.heap.size o (aO M)):=by
 have:=h.1.put o M hl
 exact⟨this.1,h.2.1.aJ this.2 gA,h.2.2.1.aJ this.2 gA,aG h.2.2.2 this.2 (Nat.le_refl _)⟩
theorem Pb.fin {w:World}{l:List Int}{s:Bool}{u:List Int}{wr:World}(h:Pb w l s u wr)(m:List Int)(t:Bool)(hm:m.length=101):dA (dQ wr (w.heap.size+1+1) 0 (aU m t)) (w.heap.size+1+1) m t∧w.grownBy (dQ wr (w.heap.size+1+1) 0 (aU m t)) none:=by
 have:=h.2.2.1.fu (m:=m) (t:=t) (au 101) hm
 exact⟨this.1,aG h.2.2.2 this.2 gA⟩
theorem Pb.sub {w:World}{l:List Int}{s:Bool}{u:List Int}{wr:World}(h:Pb w l s u wr)(i:Nat)(hi:i<u.length):wr.cell? ⟨w.heap.size+1,i,none⟩=some (.int .i64 (aC u i)):=by
 have e:=jU u [] i hi
 unfold kE at e
 rw[List.append_nil]at e
 exact(h.2.1.cell i).trans e
theorem yu (w:World)(a1:Addr)(c1:Nat)(hS:Steps w a1 c1)(a2:Addr)(c2:Nat)(hG:wQ w a2 c2)(l:List Int)(s:Bool)(hl:l.length=101)(iQ:jv l)(u:List Int)(hu:sJ u) :
 Calls prog 25 #[dI l s,.agg (aD u)] w (Ii w (yK l u) s (qG l u)):=by
 have M0:=Zd (Pb.new w l s u)
 have GL:=Zd (fun wr (g:w.grownBy wr none)=>uE (aC u 7) a1 c1 wr (jR hS g))
 rw[show glV (aC u 7)=Iz u from rfl]at GL
 have GA:=Zd (fun wr (g:w.grownBy wr none)=>TI (aC u 1) a2 c2 wr (lu hG g))
 rw[show Aq (aC u 1)=IG u from rfl]at GA
 have BU:=Zd (fun wr=>Al (bP u 2 4) (aR _ _ _) (aC u 6) (Iz u) wr)
 rw[show Vd (bP u 2 4) (aC u 6) (Iz u)=Mq u from rfl]at BU
 have P64:jv (bP l 16 80):=fun i=>by
  by_cases hi:i<80
  ·rw[fV _ _ _ _ hi];exact iQ (16+i)
  rw[dO _ i (by rw[aR];omega)];omega
 have B64:jv (Mq u):=fun i=>by
  by_cases hi:i<40
  ·rw[(YC hu).2,dN _ _ _ hi]
   have:=Mr hu
   unfold Mg
   split<;>(try split)<;>omega
  rw[dO _ i (by rw[Dy hu];omega)];omega
 have MX:=Zd (fun v wr (hv:aS wr v (Mq u))=>Tx (bP l 16 80) (20+aC u 0) (IG u) v (Mq u) wr (aR _ _ _) P64 B64 hv (by rw[Dy hu];omega))
 rw[show zq (bP l 16 80) (20+aC u 0) (IG u) (Mq u)=qG l u from rfl]at MX
 have KP:=Zd (fun v wr (hv:aS wr v (qG l u))=>CP (bP l 16 80) v (qG l u) wr (aR _ _ _) (Ev (Bg hu l)) hv (by rw[zI hu];omega))
 have KL:=Zd (LJ (bP l 16 80) (qG l u))
 have F:=Zs (∀v' w',gP w.heap.size w' v' (qG l u)→w.grownBy w' none→Ii w (yK l u) s (qG l u) (.returned (.tuple #[dI ((((jr l 16 (Dw (bP l 16 80) (qG l u))).set 98 (20+aC u 0)).set 97 (IG u)).set 96 (Iz u)) s,v'])) w') (fun v' w' o q=>⟨v',rfl,o,q⟩)
 have U:=Zd (fun wr (h:Pb w l s u wr) i (hi:i<8)=>h.sub i (by rw[hu.len];exact hi))
 have U':=Zd (fun m wr (h:Pb w m s u wr) i (hi:i<8)=>h.sub i (by rw[hu.len];exact hi))
 have UL:=Zs ((aO u).length=8) (by rw[aM];exact hu.len)
 have UP:=Zd (XC u 2 4 (by rw[hu.len];omega))
 obtain⟨l0,l1⟩:=hu.eH
 have HL:=Zd hl
 have CL:=Zd (aX hl s)
 have PL:=Zd (dA.part (l:=l) s 16 80 gA)
 have ZL:=Zd (aX (au 101) false)
 have hz:=gV
 clear iQ hl hu P64 B64 hS hG
 generalize Ii w (yK l u) s (qG l u)=T at *
 unfold dI at hz F ⊢
 generalize Dw (bP l 16 80) (qG l u)=R at *
 generalize OJ (qG l u)=x1 at *
 generalize yH (20+aC u 0) (IG u) (Mq u)=x2 at *
 generalize Ux (bP u 2 4) (aC u 6) (Iz u)=x3 at *
 generalize qG l u=X at *
 generalize Mq u=B at *
 generalize Iz u=Z at *
 generalize IG u=G at *
 go_enter func25,ntmps25
 go_upto_region 1 with fail
 generalize ((w.alloc (.cells (aU l s).toArray 29)).alloc (.cells (aD u) 46)).alloc (.cells (aU (ay 101) false).toArray 29)=W0 at *
 clear hz
 have u7:=U.out W0 M0.out 7 gA
 go_wp2_with fail
 refine(GL.out W0 M0.out.2.2.2).mono ?_
 rintro e W1 ⟨rfl,g1⟩
 have M1:=Zd (M0.out.aH g1)
 have u1:=U.out W1 M1.out 1 gA
 clear M0 g1 GL u7
 go_wp2_with fail
 refine(GA.out W1 M1.out.2.2.2).mono ?_
 rintro e W1' ⟨rfl,rfl⟩
 have u6:=U.out _ M1.out 6 gA
 clear GA u1
 go_wp2_with (first|refine lV 2 M1.out.2.1 Xx (by rw[UL.out];omega) UP.out ?_)
 refine(BU.out _).mono ?_
 rintro e W2 ⟨v2,rfl,o2,g2⟩
 have B2:=Zs (w.heap.size+1+1+1≤W1'.heap.size) (M1.out.2.2.1.lt)
 have M2:=Zd (M1.out.aH g2)
 have MX1:=Zd (MX.out v2 W2 o2.ints)
 have u0:=U.out _ M2.out 0 gA
 clear BU g2 M1 u6 o2
 go_wp2_with (first|refine lV 16 M2.out.1 fP (by rw[CL.out];omega) PL.out ?_)
 refine MX1.out.mono ?_
 rintro e W3 ⟨v3,rfl,o3,g3⟩
 have M3:=Zd (M2.out.aH g3)
 have O3:=Zd (o3.base (b':=w.heap.size+1+1+1) (by have:=M2.out.2.2.1.lt;omega))
 have KP1:=Zd (KP.out v3 W3 O3.out.ints)
 clear MX1 g3 u0 o3
 go_wp2_with (first|refine lV 16 M3.out.1 fP (by rw[CL.out];omega) PL.out ?_)
 refine KP1.out.mono ?_
 rintro e W4 ⟨rfl,g4⟩
 have M4:=Zd (M3.out.aH g4)
 have O4:=Zd (O3.out.aH g4)
 clear KP1 g4
 have M5:=Zd (M4.out.put 16 R (by rw[KL.out,HL.out];omega))
 have O5:=Zd (O4.out.dK (M4.out.1.put 16 R (by rw[KL.out,HL.out];omega)).2 gA)
 have ID:=Zd (d9 R)
 have IL:=Zs ((aO R).length=80) (by rw[aM];exact KL.out)
 go_upto_region 6 with(first|refine sV 16 (aO R) M4.out.1 (by rw[IL.out,CL.out];omega) (by rw[IL.out];exact fP) ID.out ?_)
 generalize dQ W4 w.heap.size 16 (aO R)=W5 at *
 have L5:=Zs ((jr l 16 R).length=101) (by rw[eG];exact HL.out)
 generalize jr l 16 R=m at *
 have u0:=U'.out m _ M5.out 0 gA
 have c98:=M5.out.1.cell 98 (by rw[L5.out];omega)
 have c97:=M5.out.1.cell 97 (by rw[L5.out];omega)
 have c96:=M5.out.1.cell 96 (by rw[L5.out];omega)
 have f98:=M5.out.1.free 98
 have f97:=M5.out.1.free 97
 have f96:=M5.out.1.free 96
 have L6:=Zs ((m.set 98 (20+aC u 0)).length=101) (by rw[List.length_set];exact L5.out)
 have L7:=Zs (((m.set 98 (20+aC u 0)).set 97 G).length=101) (by rw[List.length_set];exact L6.out)
 have L8:=Zs ((((m.set 98 (20+aC u 0)).set 97 G).set 96 Z).length=101) (by rw[List.length_set];exact L7.out)
 have M6:=Zd (M5.out.set 98 (20+aC u 0) (by rw[L5.out];omega))
 have M7:=Zd (M6.out.set 97 G (by rw[L6.out];omega))
 have M8:=Zd (M7.out.set 96 Z (by rw[L7.out];omega))
 have O8:=Zd (((O5.out.dK (aF W5 ⟨w.heap.size,98,none⟩ (.int .i64 (20+aC u 0))) (by simp<;>omega)).dK (aF _ ⟨w.heap.size,97,none⟩ (.int .i64 G)) (by simp<;>omega)).dK (aF _ ⟨w.heap.size,96,none⟩ (.int .i64 Z)) (by simp<;>omega))
 generalize aC u 0=x0 at *
 go_upto_region 7 with fail
 clear c98 c97 c96 f98 f97 f96 u0
 generalize ((W5.setCell ⟨w.heap.size,98,none⟩ (.int .i64 (20+x0))).setCell ⟨w.heap.size,97,none⟩ (.int .i64 G)).setCell ⟨w.heap.size,96,none⟩ (.int .i64 Z)=W8 at *
 generalize ((m.set 98 (20+x0)).set 97 G).set 96 Z=m8 at *
 have A5:=Zd (dA.all s L8.out)
 have C5:=Zd (aX L8.out s)
 have ON:=Zd (dY m8 s)
 have PB:=Zd (M8.out.fin m8 s L8.out)
 have O9:=Zd (O8.out.dK (M8.out.2.2.1.fu (m:=m8) (t:=s) (au 101) L8.out).2 gA)
 have FF:=Zd (F.out _ _ (O9.out.base (b':=w.heap.size) gA) PB.out.2)
 go_wp2_with (first|refine lV 0 M8.out.1 aY (by rw[C5.out];omega) A5.out ?_|refine sV 0 (aU m8 s) M8.out.2.2.1 (by rw[ZL.out,C5.out];omega) (by rw[C5.out];exact aY) ON.out ?_)
 have eO:=wV PB.out.1 (by rw[C5.out];exact aY)
 refine bodyPost_ret (v:=.tuple #[.agg (aU m8 s).toArray,_]) ?_ rfl FF.out
 simp[results,results25,asAddr,Act.put,eO]
def CPl (f:Nat)(w:World):Prop:=∀(l:List Int) (s:Bool),l.length=101→cO l=true→∀(p:List Int),p.length=25→j4 p=true→∀wr,w.grownBy wr none→Calls prog f #[dI l s,.agg (aD p)] wr (Ii wr (oW l p) (oV p) (sK l p))
theorem abq (w:World):Sem.run prog (zeroValue 49) w=.ok (.agg (aD (ay 25))) w:=by
 have hz:=aiL
 cases hq:prog.info? 49 with
 | none=>simp[hq]at hz
 | some i=>
  have hi:i.zero=some (.agg (aD (ay 25))):=by simpa [hq] using hz
  simp[zeroValue,typeInfo,hq,hi]
theorem TJ {wr wr':World}{b:Nat}{T:TypeId}{a:List Int}{r:Option Nat}(h:bO wr b T a)(g:wr.grownBy wr' r)(hr:∀x,r=some x→b≠x):bO wr' b T a:=by
 rcases r with _|x
 ·exact h.aH g
 exact h.aJ g (hr x rfl)
theorem aio:(prog.info? 46).map (·.size)=some 8:=by kernel_rfl
theorem abr (w:World)(a0:Addr)(c0:Nat)(hW:oZ w a0 c0)(a1:Addr)(c1:Nat)(hS:Steps w a1 c1)(a2:Addr)(c2:Nat)(hG:wQ w a2 c2)(l:List Int)(s:Bool)(hl:l.length=101)(hg:cO l=true)(p:List Int)(hp:p.length=25)(gp:j4 p=true)(hk:¬aC p 0=2) :
 Calls prog 28 #[dI l s,.agg (aD p)] w (Ii w (oW l p) (oV p) (sK l p)):=by
 have M0:=Zd (vL.new w l s p)
 obtain⟨l0,hl0⟩:∃l0,plF l p=l0:=⟨_,rfl⟩
 obtain⟨f1,f2⟩:=zK (p:=p) hl hg
 rw[hl0]at f1 f2
 obtain⟨now,pz⟩:∃now,vlL p=now:=⟨_,rfl⟩
 have nl:now.length=8:=by rw[←pz];exact zH p
 have ns:bN now=true:=by rw[←pz];exact uQ p gp
 obtain⟨bS,zV⟩:∃bS,oV p=bS:=⟨_,rfl⟩
 have es:bS=false:=by rw[←zV];unfold oV;exact decide_eq_false gA
 have VA:=Zd (fun wr (g:w.grownBy wr none)=>sO (bP p 1 8) (aR _ _ _) a0 c0 wr (jm hW g))
 rw[(xG gp).1,(xG gp).2,pz]at VA
 obtain⟨s0,hs0⟩:∃s0:Bool,(if aC p 0=1 then false else s)=s0:=⟨_,rfl⟩
 have LL:=Zd (fun k=>oI bS now p f1 k)
 have LG:∀k,k≤2→cO (jX bS now l0 p k)=true:=fun k hk=>nN bS f1 f2 nl ns gp k hk
 have OL:=Zd (fun k (hk:k≤2)=>(tT bS f1 f2 nl ns gp k hk).1)
 have SP:=Zd (show ∀(k:Nat),k<2→∀wr,w.grownBy wr none→Calls prog 25 #[dI (jX bS now l0 p k) s0,.agg (aD (dS p k))] wr (Ii wr (lK bS (jX bS now l0 p k) (dS p k)) s0 (vK bS (jX bS now l0 p k) (dS p k)))from fun k hk wr q=>by
  have g:=LG k gA
  have c:=yu wr a1 c1 (jR hS q) a2 c2 (lu hG q) (jX bS now l0 p k) s0 (LL.out k) (L9 (LL.out k) g) (dS p k) (lG p gp k hk)
  rw[es]at c ⊢
  rw[YW,YX]
  exact c)
 have XD:=Zd (fun k=>xk bS (LL.out k) (dS p k))
 have XL:=Zd (fun k (hk:k<2)=>(tQ bS (LG k gA) (lG p gp k hk)).1)
 have PR':=Zd (fun(k:Nat) wr=>yT (bP (lK bS (jX bS now l0 p k) (dS p k)) 0 8) now (aR _ _ _) nl k wr)
 have AL:=Zd (fun k (hk:k<2)=>(qF (bP (lK bS (jX bS now l0 p k) (dS p k)) 0 8) now k (aR _ _ _) nl (jI (zJ bS (LL.out k) (LG k gA) (lG p gp k hk))) ns).len)
 have MK':=Zd (fun(k:Nat) (hk:k<2) v wr (h:aS wr v (vK bS (jX bS now l0 p k) (dS p k))) (sh:rR v (vK bS (jX bS now l0 p k) (dS p k)))=>pF (gK (bP (lK bS (jX bS now l0 p k) (dS p k)) 0 8) now k) (bP (lK bS (jX bS now l0 p k) (dS p k)) 8 8) (AL.out k hk) (aR _ _ _) v (vK bS (jX bS now l0 p k) (dS p k)) wr h sh (by rw[XL.out k hk];omega))
 have SN:=Zd (fun(k:Nat) (hk:k<2)=>show(xQ (gK (bP (lK bS (jX bS now l0 p k) (dS p k)) 0 8) now k) (bP (lK bS (jX bS now l0 p k) (dS p k)) 8 8) (vK bS (jX bS now l0 p k) (dS p k))).length≤40 by
  have:=UO (gK (bP (lK bS (jX bS now l0 p k) (dS p k)) 0 8) now k) (bP (lK bS (jX bS now l0 p k) (dS p k)) 8 8) (vK bS (jX bS now l0 p k) (dS p k))
  rw[XL.out k hk]at this
  exact this)
 have S1:=Zd (fun(k:Nat)=>show jr (lK bS (jX bS now l0 p k) (dS p k)) 8 (Du (gK (bP (lK bS (jX bS now l0 p k) (dS p k)) 0 8) now k) (bP (lK bS (jX bS now l0 p k) (dS p k)) 8 8) (vK bS (jX bS now l0 p k) (dS p k)))=jX bS now l0 p (k+1)from rfl)
 have S2:=Zd (fun(k:Nat)=>show IJ bS now l0 p k++xQ (gK (bP (lK bS (jX bS now l0 p k) (dS p k)) 0 8) now k) (bP (lK bS (jX bS now l0 p k) (dS p k)) 8 8) (vK bS (jX bS now l0 p k) (dS p k))=IJ bS now l0 p (k+1)from rfl)
 have E0:=Zs (jX bS now l0 p 0=l0) (rfl)
 have E1:=Zs (IJ bS now l0 p 0=[]) (rfl)
 have F:=Zd (show ∀v' w',gP w.heap.size w' v' (IJ bS now l0 p 2)→w.grownBy w' none→Ii w (oW l p) (oV p) (sK l p) (.returned (.tuple #[dI ((jr (jX bS now l0 p 2) 0 now).set 99 0) bS,v'])) w' from fun v' w' o q=>
  ⟨v',by unfold oW;rw[zV,pz,hl0],by unfold sK;rw[zV,pz,hl0];exact o,q⟩)
 have FR:=Zd (fun u=>qx u)
 have NL:=Zd nl
 have HP:=Zd hp
 have HL:=Zd hl
 have HL0:=Zs (l0=if aC p 0=1 then iL else l) (by rw[←hl0];rfl)
 have CL:=Zd (aX hl s)
 have PS:=Zd (fun k (hk:k<2)=>sj p (9+8*k) 8 gA)
 have PV:=Zd (sj p 1 8 gA)
 have ZL:=Zd (aX (au 101) false)
 have hz:=gV
 obtain⟨kd,hkd⟩:∃kd,aC p 0=kd:=⟨_,rfl⟩
 have hk2:(kd==2)=bS:=by rw[es,←hkd];exact beq_eq_false_iff_ne.2 gA
 have KD:=Zd hkd
 have XF:=Zd hs0
 have ES:=Zd es
 clear es
 clear hg hl gp hp f1 f2 nl ns pz zV hkd hW hS hG LG hl0 hk hs0
 generalize Ii w (oW l p) (oV p) (sK l p)=T at *
 generalize jX bS now l0 p=LM at *
 generalize IJ bS now l0 p=LO at *
 unfold dI at hz F SP FR ⊢
 unfold jk at FR
 go_enter func28,ntmps28
 go_upto_region 1 with fail
 generalize ((w.alloc (.cells (aU l s).toArray 29)).alloc (.cells (aD p) 49)).alloc (.cells (aU (ay 101) false).toArray 29)=W0 at *
 clear hz
 have cp:=M0.out.num 0 (by rw[HP.out];omega)
 rw[KD.out]at cp
 rw[KD.out]at HL0 XF
 go_upto_if 14 with fail
 go_cut []from 12 (fun wx=>vL w l0 s0 p wx)
 case first=>
  by_cases hk:kd=1
  ·have hk1:(kd==1)=true:=beq_iff_eq.2 hk
   rw[if_pos hk]at HL0 XF
   clear hk
   go_wp2_with fail
   refine(FR.out _).mono ?_
   rintro e W1 ⟨rfl,g1⟩
   have M1:=Zd (M0.out.aH g1)
   have MA:=M1.out.all (m:=iL) (t:=false) HL.out jH
   have M2:=Zs (vL w l0 s0 p (dQ W1 w.heap.size 0 (aU iL false))) (by rw[HL0.out,←XF.out];exact MA.1)
   have CF:=Zd (aX jH false)
   have IF:=Zd (dY iL false)
   clear M0 g1 MA
   generalize aU iL false=FC at *
   go_wp2_with (first|refine sV 0 FC M1.out.1 (by rw[CL.out,CF.out];omega) (by rw[CF.out];exact aY) IF.out ?_)
   go_meet
   exact M2.out
  have hk1:(kd==1)=false:=beq_eq_false_iff_ne.2 hk
  rw[if_neg hk]at HL0 XF
  clear hk
  go_wp2_with fail
  go_meet
  rw[HL0.out,←XF.out];exact M0.out
 case rest=>
 have M2:=Zd hcut
 clear hcut M0
 go_upto_region 3 with fail
 clear cp
 go_wp2_with (first|refine lV 1 M2.out.2.1 dV (by rw[aM,HP.out];omega) PV.out ?_)
 refine(VA.out _ M2.out.2.2.2).mono ?_
 rintro e W3 ⟨rfl,g3⟩
 obtain⟨b1,b2,b3⟩:=dL W3 26 8 now NL.out
 have B1:=Zd b1
 have B2:=Zd b2
 have M3:=Zd ((M2.out.aH g3).aH b3)
 have NB:=Zs (w.heap.size+1+1+1≤W3.heap.size) ((M2.out.aH g3).2.2.1.lt)
 rw[rF]at B1 B2 M3
 clear g3 VA b1 b2 b3 M2 PV
 go_upto_region 4 with(first|refine sA now B1.out (by rw[NL.out,au]) (by rw[au];exact dV) ?_)
 clear B1
 generalize bT _ W3.heap.size now=W4 at *
 generalize W3.heap.size=ba at *
 have N4:=Zs (ba+1≤W4.heap.size) (B2.out.lt)
 go_wp2_with fail
 go_loopw [8,9] (fun va i wr=>∃k:Nat,i=.int .i64 k∧k≤2∧Hid (gP (ba+1) wr va (LO k))∧Hid (vL w (LM k) s0 p wr)∧Hid (bO wr ba 26 now)∧Hid (ba+1≤wr.heap.size)) (fun _ i _=>2-(intOf i).toNat)
 case atStart=>exact⟨0,rfl,Nat.zero_le _,by rw[E1.out];exact bZ _ _,by rw[E0.out];exact M3.out,B2.out,N4.out⟩
 case round=>
  obtain⟨k,rfl,hk,hO,hM,hB,hN⟩:=hrel
  clear M3 B2 N4
  by_cases jS:k<2
  ·have aj5:(k:Int)<2:=gA
   have hkb:(kd==2)=false:=by rw[hk2,ES.out]
   clear hk2
   have A1:=Zd (dA.all s0 (LL.out k))
   have C1:=Zd (aX (LL.out k) s0)
   have cp:=hM.out.num 0 (by rw[HP.out];omega)
   rw[KD.out]at cp
   have TL:=Zd (XD.out k)
   have PR:=Zd (PR'.out k)
   have MK:=Zd (MK'.out k jS)
   have Q1:=Zd (S1.out k)
   have Q2:=Zd (S2.out k)
   have OK:=Zd (OL.out k hk)
   have SK:=Zd (SN.out k jS)
   have Jt:=Zd (SP.out k jS)
   have PU:=Zd (PS.out k jS)
   rw[show bP p (9+8*k) 8=dS p k from rfl]at PU
   clear XD PR' MK' S1 S2 OL SN SP PS AL XL FR F
   have PPL:=Zd (rQ (gK (bP (lK bS (LM k) (dS p k)) 0 8) now k) (bP (lK bS (LM k) (dS p k)) 8 8) (vK bS (LM k) (dS p k)))
   generalize Du (gK (bP (lK bS (LM k) (dS p k)) 0 8) now k) (bP (lK bS (LM k) (dS p k)) 8 8) (vK bS (LM k) (dS p k))=PP at *
   generalize xQ (gK (bP (lK bS (LM k) (dS p k)) 0 8) now k) (bP (lK bS (LM k) (dS p k)) 8 8) (vK bS (LM k) (dS p k))=LX at *
   generalize I8 (gK (bP (lK bS (LM k) (dS p k)) 0 8) now k) (bP (lK bS (LM k) (dS p k)) 8 8) (vK bS (LM k) (dS p k))=x3 at *
   generalize gK (bP (lK bS (LM k) (dS p k)) 0 8) now k=AK at *
   generalize vK bS (LM k) (dS p k)=XK at *
   generalize lK bS (LM k) (dS p k)=PK at *
   have CK:=Zd (aX TL.out s0)
   have IK:=Zd (dY PK s0)
   have P0:=Zd (dA.part (l:=PK) s0 0 8 (by rw[TL.out];omega))
   have P8:=Zd (dA.part (l:=PK) s0 8 8 (by rw[TL.out];omega))
   replace Jt:=Zd (fun u (h:dM wr u)=>Jt.out u (aB hM.out.2.2.2 h))
   go_upto_region 11 with fail
   clear cp
   refine b_ 9 (dM wr) 11 (by rfl) _ rfl (by kernel_rfl) (fun aK=>?_)
   have aj:=(aZ wr)
   refine jq (hy:=by intro w' bL;(try dsimp only at bL);exact dD rfl rfl (hM.out.1.aH bL) _ underlying29 rfl aY (by rw[C1.out];omega) _ A1.out) (v:=.agg (aU (LM k) s0).toArray) 0 aj aK fun aK=>?_
   refine bF 1 aj aK fun aK=>?_
   refine bF 2 aj aK fun aK=>?_
   refine jq (hy:=by intro w' bL;(try dsimp only at bL);go_simp;(try simp only[Nat.mul_comm]);(try with_reducible rfl)) (v:=.pointer (some ⟨w.heap.size+1,9+8*k,none⟩)) 3 aj aK fun aK=>?_
   refine jq (hy:=by intro w' bL;(try dsimp only at bL);exact dD rfl rfl (hM.out.2.1.aH bL) _ underlying46 rfl aio (by rw[aM,HP.out];omega) _ PU.out) (v:=.agg (aO (dS p k)).toArray) 4 aj aK fun aK=>?_
   refine kT 5 aK fun K hK=>?_
   (try simp only[sZ])
   go_simp
   refine(Jt.out _ aj).mono ?_
   rintro e w2 ⟨v2,rfl,o2,q2⟩
   have Q2:=Zd q2
   have X2:=Zd (o2.base (Nat.le_trans hN.out aj.size))
   clear q2 o2
   unfold dI
   go_wp2_with fail
   have iB:=(bD aj Q2.out)
   refine hK.out _ _ (fun _=>iB) (fun aK=>?_)
   clear hK
   replace aj:=iB
   clear iB
   (try simp only[sZ])
   refine bF 6 aj aK fun aK=>?_
   refine bF 7 aj aK fun aK=>?_
   refine kC (i:=8) (v:=?aoq) rfl (by kernel_rfl) aK (fun _ _ _ h=>h) (Or.inl ⟨by rfl,?alY⟩) aj (fun aK=>?aor)
   case alY=>(intro w' _;go_simp;(try with_reducible rfl))
   (try simp only[sZ])
   refine kT 9 aK fun K hK=>?_
   (try simp only[sZ])
   have M2:=Zd (hM.out.aH aj)
   have MA:=M2.out.all (m:=PK) (t:=s0) (LL.out k) TL.out
   have M3:=Zd MA.1
   have O3:=Zd ((hO.out.aH aj).dK MA.2 (by have:=NB.out;omega))
   have X3:=Zd (X2.out.dK MA.2 (by have:=NB.out;omega))
   have B3:=Zd ((hB.out.aH aj).aJ MA.2 (by have:=NB.out;omega))
   have N3:=Zd (Nat.le_trans (Nat.le_trans hN.out aj.size) MA.2.size)
   clear MA X2
   refine dG rfl 29 _ _ rfl w.heap.size 0 29 (aU (LM k) s0) (aU PK s0) rfl rfl M2.out.1 (by rw[C1.out,CK.out];omega) (by rw[CK.out];exact aY) IK.out ?_
   refine hK.out _ _ (fun h=>by cases h) (fun aK=>?_)
   clear hK aj
   (try simp only[sZ])
   clear M2 Q2 hM hO hB
   generalize dQ w2 w.heap.size 0 (aU PK s0)=w3 at *
   refine bI _ _ _ _ (by rfl) ?_
   refine wpAny_take (i:=10) (v:=?anm) rfl (by kernel_rfl) (by kernel_rfl) (by kernel_rfl) (fun _ _ _ h=>h) (Or.inl ⟨by rfl,?aj6⟩) ?ano
   case aj6=>(intro w';go_simp;(try with_reducible rfl))
   (try simp only[sZ])
   refine xP ?_
   clear A1 C1 Jt PU
   go_upto_region 12 with fail
   refine b_ 15 (dM w3) 16 (by rfl) _ rfl (by kernel_rfl) (fun aK=>?_)
   have aj:=(aZ w3)
   refine bF 0 aj aK fun aK=>?_
   refine jq (hy:=by intro w' bL;(try dsimp only at bL);exact dD rfl rfl (M3.out.1.aH bL) _ underlying26 rfl dV (by rw[CK.out];omega) _ P0.out) (v:=.agg (aO (bP PK 0 8)).toArray) 1 aj aK fun aK=>?_
   refine jq (hy:=by intro w' bL;(try dsimp only at bL);exact yA (B3.out.aH bL) (by rw[NL.out];exact dV)) (v:=.agg (aD now)) 2 aj aK fun aK=>?_
   refine bF 3 aj aK fun aK=>?_
   refine bF 5 aj aK fun aK=>?_
   refine jq (hy:=by intro w' bL;(try dsimp only at bL);exact dD rfl rfl (M3.out.1.aH bL) _ underlying26 rfl dV (by rw[CK.out];omega) _ P8.out) (v:=.agg (aO (bP PK 8 8)).toArray) 6 aj aK fun aK=>?_
   refine bF 7 aj aK fun aK=>?_
   refine kT 4 aK fun K hK=>?_
   (try simp only[sZ])
   go_simp
   refine(PR.out _).mono ?_
   rintro e w4 ⟨rfl,q4⟩
   have Q4:=Zd q4
   clear q4
   go_wp2_with fail
   have iB:=(bD aj Q4.out)
   refine hK.out _ _ (fun _=>iB) (fun aK=>?_)
   clear hK
   replace aj:=iB
   clear iB
   (try simp only[sZ])
   refine kT 8 aK fun K hK=>?_
   (try simp only[sZ])
   go_simp
   refine(MK.out v2 _ (X3.out.aH aj).ints (X3.out.aH aj).Iy).mono ?_
   rintro e w5 ⟨v5,rfl,o5,q5⟩
   have Q5:=Zd q5
   have X5:=Zd (o5.base (Nat.le_trans N3.out aj.size))
   clear q5 o5
   go_wp2_with fail
   have iB:=(bD aj Q5.out)
   refine hK.out _ _ (fun _=>iB) (fun aK=>?_)
   clear hK
   replace aj:=iB
   clear iB
   (try simp only[sZ])
   refine bF 9 aj aK fun aK=>?_
   refine bF 10 aj aK fun aK=>?_
   refine bF 11 aj aK fun aK=>?_
   refine kC (i:=12) (v:=?aj7) rfl (by kernel_rfl) aK (fun _ _ _ h=>h) (Or.inl ⟨by rfl,?aep⟩) aj (fun aK=>?aj8)
   case aep=>(intro w' _;go_simp;(try with_reducible rfl))
   (try simp only[sZ])
   refine bF 13 aj aK fun aK=>?_
   refine bF 14 aj aK fun aK=>?_
   refine kT 15 aK fun K hK=>?_
   (try simp only[sZ])
   have M5:=Zd (M3.out.aH aj)
   have MA:=M5.out.put 8 PP (by rw[PPL.out,TL.out];omega)
   have M6:=Zd MA.1
   have O6:=Zd ((O3.out.aH aj).dK MA.2 (by have:=NB.out;omega))
   have X6:=Zd (X5.out.dK MA.2 (by have:=NB.out;omega))
   have B6:=Zd ((B3.out.aH aj).aJ MA.2 (by have:=NB.out;omega))
   have N6:=Zd (Nat.le_trans (Nat.le_trans N3.out aj.size) MA.2.size)
   rw[Q1.out]at M6
   clear MA X5 Q1
   refine dG rfl 26 _ _ rfl w.heap.size 8 29 (aU PK s0) (aO PP) rfl rfl M5.out.1 (by rw[aM,PPL.out,CK.out];omega) (by rw[aM,PPL.out];exact dV) (d9 _) ?_
   refine hK.out _ _ (fun h=>by cases h) (fun aK=>?_)
   clear hK aj
   (try simp only[sZ])
   clear M5 M3 O3 B3 X3 Q5 Q4
   generalize dQ w5 w.heap.size 8 (aO PP)=w6 at *
   refine bI _ _ _ _ (by rfl) ?_
   refine xP ?_
   clear PR MK P0 P8 jS
   go_upto_region 13 with fail
   have LB:=Zs (((LO k).length+LX.length)*8≤140737488355328) (by rw[OK.out];have:=SK.out;omega)
   have XI:=Zd X6.out.ints
   have XS:=Zd X6.out.Iy
   go_wp2_with (at_builtin;refine dF (by rfl) _ _ rfl (ba+1) _ _ (LO k) LX rfl rfl O6.out XI.out XS.out LB.out N6.out ?_)
   intro v7 w7 h7 g7
   rw[Q2.out]at h7
   have O7:=Zd h7
   have M7:=Zd (M6.out.own g7 (fun x e=>by have:=(O6.out.lt x e).1;have:=NB.out;omega))
   have B7:=Zd (TJ B6.out g7 (fun x e=>by have:=(O6.out.lt x e).1;omega))
   have N7:=Zd (Nat.le_trans N6.out g7.size)
   clear h7 g7 O6 M6 B6 N6 X6 Q2 XI XS
   go_wp2_with fail
   go_roundw
   case rel=>exact⟨k+1,by go_num,gA,O7.out,M7.out,B7.out,N7.out⟩
   case measure=>simp[intOf];omega
  obtain rfl:k=2:=gA
  have C2:=Zd (aX (LL.out 2) s0)
  clear XD PR' MK' S1 S2 OL SN SP PS AL XL FR
  go_upto_region 14 with fail
  refine wp_region_held_drew (S:=fun u=>dP u (w.heap.size+1) 49 (aO p)∧bO u ba 26 now) (by kernel_rfl) ⟨hM.out.2.1.aH (aZ wr),hB.out.aH (aZ wr)⟩ (fun aj=>?_)
  refine bV (hy:=by intro w' bL;exact yA bL.2 (by rw[NL.out];exact dV)) (v:=.agg (aD now)) 0 aj ?_
  refine bV 1 aj ?_
  refine bV (hy:=by intro w' bL;have cc:=(bL.1.cell 0).trans (yO p 0 (by rw[HP.out];omega));rw[KD.out]at cc;go_simp;(try with_reducible rfl)) (v:=.int .i64 kd) 2 aj ?_
  refine bV (hy:=by intro w' bL;go_simp;(try simp only[hk2]);(try with_reducible rfl)) (v:=.bool bS) 3 aj ?_
  refine bV 4 aj ?_
  refine fI 5 fun K hK=>?_
  (try simp only[sZ])
  have MD:=Zd (hM.out.aH (aZ wr))
  have MA:=MD.out.put 0 now (by rw[NL.out,LL.out];omega)
  have M6:=Zd MA.1
  have O6:=Zd ((hO.out.aH (aZ wr)).dK MA.2 (by have:=NB.out;omega))
  have HS6:=And.intro (aj.1.aJ MA.2 gA) (aj.2.aJ MA.2 (by have:=NB.out;omega))
  clear MA
  refine dG rfl 26 _ _ rfl w.heap.size 0 29 (aU (LM 2) s0) (aO now) rfl rfl MD.out.1 (by rw[aM,NL.out,C2.out];omega) (by rw[aM,NL.out];exact dV) (d9 _) ?_
  refine hK.out _ _ HS6 (fun aj=>?_)
  clear hK
  (try simp only[sZ])
  clear MD HS6
  generalize dQ wr.drew w.heap.size 0 (aO now)=w6 at *
  have L6:=Zs ((jr (LM 2) 0 now).length=101) (by rw[eG];exact LL.out 2)
  generalize jr (LM 2) 0 now=m6 at *
  refine bV 6 aj ?_
  refine fI 7 fun K hK=>?_
  (try simp only[sZ])
  have ck:=M6.out.1.cell 99 (by rw[L6.out];omega)
  have fk:=M6.out.1.free 99
  have M7:=Zd (M6.out.set 99 0 (by rw[L6.out];omega))
  have O7:=Zd (O6.out.dK (aF w6 ⟨w.heap.size,99,none⟩ (.int .i64 0)) (by have:=NB.out;simp;omega))
  have HS7:=And.intro (aj.1.aJ (aF w6 ⟨w.heap.size,99,none⟩ (.int .i64 0)) (by simp)) (aj.2.aJ (aF w6 ⟨w.heap.size,99,none⟩ (.int .i64 0)) (by have:=NB.out;simp;omega))
  go_simp
  go_wp2_with fail
  refine hK.out _ _ HS7 (fun aj=>?_)
  clear hK
  (try simp only[sZ])
  clear ck fk M6 O6 HS7
  generalize w6.setCell ⟨w.heap.size,99,none⟩ (.int .i64 0)=w7 at *
  have L7:=Zs ((m6.set 99 0).length=101) (by rw[List.length_set];exact L6.out)
  generalize m6.set 99 0=m7 at *
  refine bV 8 aj ?_
  refine fI 9 fun K hK=>?_
  (try simp only[sZ])
  have ck:=M7.out.1.cellS L7.out
  have fk:=M7.out.1.free 101
  have M8:=Zd (M7.out.adj L7.out bS)
  have O8:=Zd (O7.out.dK (aF w7 ⟨w.heap.size,101,none⟩ (.bool bS)) (by have:=NB.out;simp;omega))
  have HS8:=And.intro (aj.1.aJ (aF w7 ⟨w.heap.size,101,none⟩ (.bool bS)) (by simp)) (aj.2.aJ (aF w7 ⟨w.heap.size,101,none⟩ (.bool bS)) (by have:=NB.out;simp;omega))
  go_simp
  go_wp2_with fail
  refine hK.out _ _ HS8 (fun aj=>?_)
  clear hK
  (try simp only[sZ])
  clear ck fk M7 O7 HS8
  generalize w7.setCell ⟨w.heap.size,101,none⟩ (.bool bS)=w8 at *
  refine lM ?_
  clear aj
  go_upto_region 15 with fail
  have A8:=Zd (dA.all bS L7.out)
  have C8:=Zd (aX L7.out bS)
  have ON:=Zd (dY m7 bS)
  have PB:=Zd (M8.out.fin m7 bS L7.out)
  have O9:=Zd (O8.out.dK PB.out.2.2 (by have:=NB.out;omega))
  have FF:=Zd (F.out _ _ (O9.out.base (b':=w.heap.size) (by have:=NB.out;omega)) PB.out.2.1)
  clear F O8 O9
  go_wp2_with (first|refine lV 0 M8.out.1 aY (by rw[C8.out];omega) A8.out ?_|refine sV 0 (aU m7 bS) M8.out.2.2.1 (by rw[ZL.out,C8.out];omega) (by rw[C8.out];exact aY) ON.out ?_)
  have eO:=wV PB.out.1 (by rw[C8.out];exact aY)
  refine bodyPost_ret (v:=.tuple #[.agg (aU m7 bS).toArray,_]) ?_ rfl FF.out
  simp[results,results28,asAddr,Act.put,eO]
theorem abt (w:World)(a0:Addr)(c0:Nat)(hW:oZ w a0 c0)(a1:Addr)(c1:Nat)(hS:Steps w a1 c1)(a2:Addr)(c2:Nat)(hG:wQ w a2 c2)(l:List Int)(s:Bool)(hl:l.length=101)(hg:cO l=true)(p:List Int)(hp:p.length=25)(gp:j4 p=true)(hk:aC p 0=2) :
 Calls prog 28 #[dI l s,.agg (aD p)] w (Ii w (oW l p) (oV p) (sK l p)):=by
 have M0:=Zd (vL.new w l s p)
 obtain⟨l0,hl0⟩:∃l0,plF l p=l0:=⟨_,rfl⟩
 obtain⟨f1,f2⟩:=zK (p:=p) hl hg
 rw[hl0]at f1 f2
 obtain⟨now,pz⟩:∃now,vlL p=now:=⟨_,rfl⟩
 have nl:now.length=8:=by rw[←pz];exact zH p
 have ns:bN now=true:=by rw[←pz];exact uQ p gp
 obtain⟨bS,zV⟩:∃bS,oV p=bS:=⟨_,rfl⟩
 have es:bS=true:=by rw[←zV];unfold oV;exact decide_eq_true hk
 have VA:=Zd (fun wr (g:w.grownBy wr none)=>sO (bP p 1 8) (aR _ _ _) a0 c0 wr (jm hW g))
 rw[(xG gp).1,(xG gp).2,pz]at VA
 obtain⟨s0,hs0⟩:∃s0:Bool,s=s0:=⟨_,rfl⟩
 have LL:=Zd (fun k=>oI bS now p f1 k)
 have LG:∀k,k≤2→cO (jX bS now l0 p k)=true:=fun k hk=>nN bS f1 f2 nl ns gp k hk
 have OL:=Zd (fun k (hk:k≤2)=>(tT bS f1 f2 nl ns gp k hk).1)
 have SP:=Zd (show ∀(k:Nat),k<2→∀wr,Calls prog 89 #[dI (jX bS now l0 p k) s0] wr (xR wr (lK bS (jX bS now l0 p k) (dS p k)) s0 (vK bS (jX bS now l0 p k) (dS p k)) 0)from fun k hk wr=>by
  have g:=LG k gA
  have c:=JN (jX bS now l0 p k) s0 (LL.out k) (L9 (LL.out k) g) wr
  rw[(mK (s:=s0) g).2.1,(mK (s:=s0) g).2.2.2]at c
  rw[es]at c ⊢
  rw[YV,acR]
  exact c)
 have XD:=Zd (fun k=>xk bS (LL.out k) (dS p k))
 have XL:=Zd (fun k (hk:k<2)=>(tQ bS (LG k gA) (lG p gp k hk)).1)
 have PR':=Zd (fun(k:Nat) wr=>yT (bP (lK bS (jX bS now l0 p k) (dS p k)) 0 8) now (aR _ _ _) nl k wr)
 have AL:=Zd (fun k (hk:k<2)=>(qF (bP (lK bS (jX bS now l0 p k) (dS p k)) 0 8) now k (aR _ _ _) nl (jI (zJ bS (LL.out k) (LG k gA) (lG p gp k hk))) ns).len)
 have MK':=Zd (fun(k:Nat) (hk:k<2) v wr (h:aS wr v (vK bS (jX bS now l0 p k) (dS p k))) (sh:rR v (vK bS (jX bS now l0 p k) (dS p k)))=>pF (gK (bP (lK bS (jX bS now l0 p k) (dS p k)) 0 8) now k) (bP (lK bS (jX bS now l0 p k) (dS p k)) 8 8) (AL.out k hk) (aR _ _ _) v (vK bS (jX bS now l0 p k) (dS p k)) wr h sh (by rw[XL.out k hk];omega))
 have SN:=Zd (fun(k:Nat) (hk:k<2)=>show(xQ (gK (bP (lK bS (jX bS now l0 p k) (dS p k)) 0 8) now k) (bP (lK bS (jX bS now l0 p k) (dS p k)) 8 8) (vK bS (jX bS now l0 p k) (dS p k))).length≤40 by
  have:=UO (gK (bP (lK bS (jX bS now l0 p k) (dS p k)) 0 8) now k) (bP (lK bS (jX bS now l0 p k) (dS p k)) 8 8) (vK bS (jX bS now l0 p k) (dS p k))
  rw[XL.out k hk]at this
  exact this)
 have S1:=Zd (fun(k:Nat)=>show jr (lK bS (jX bS now l0 p k) (dS p k)) 8 (Du (gK (bP (lK bS (jX bS now l0 p k) (dS p k)) 0 8) now k) (bP (lK bS (jX bS now l0 p k) (dS p k)) 8 8) (vK bS (jX bS now l0 p k) (dS p k)))=jX bS now l0 p (k+1)from rfl)
 have S2:=Zd (fun(k:Nat)=>show IJ bS now l0 p k++xQ (gK (bP (lK bS (jX bS now l0 p k) (dS p k)) 0 8) now k) (bP (lK bS (jX bS now l0 p k) (dS p k)) 8 8) (vK bS (jX bS now l0 p k) (dS p k))=IJ bS now l0 p (k+1)from rfl)
 have E0:=Zs (jX bS now l0 p 0=l0) (rfl)
 have E1:=Zs (IJ bS now l0 p 0=[]) (rfl)
 have F:=Zd (show ∀v' w',gP w.heap.size w' v' (IJ bS now l0 p 2)→w.grownBy w' none→Ii w (oW l p) (oV p) (sK l p) (.returned (.tuple #[dI ((jr (jX bS now l0 p 2) 0 now).set 99 0) bS,v'])) w' from fun v' w' o q=>
  ⟨v',by unfold oW;rw[zV,pz,hl0],by unfold sK;rw[zV,pz,hl0];exact o,q⟩)
 have FR:=Zd (fun u=>qx u)
 have NL:=Zd nl
 have HP:=Zd hp
 have HL:=Zd hl
 have HL0:=Zs (l0=l) (by rw[←hl0];exact if_neg gA)
 have CL:=Zd (aX hl s)
 have PS:=Zd (fun k (hk:k<2)=>sj p (9+8*k) 8 gA)
 have PV:=Zd (sj p 1 8 gA)
 have ZL:=Zd (aX (au 101) false)
 have hz:=gV
 obtain⟨kd,hkd⟩:∃kd,aC p 0=kd:=⟨_,rfl⟩
 have hk1:(kd==1)=false:=by rw[←hkd];exact beq_eq_false_iff_ne.2 gA
 have hk2:(kd==2)=bS:=by rw[es,←hkd];exact beq_iff_eq.2 hk
 have KD:=Zd hkd
 have XF:=Zd hs0
 have ES:=Zd es
 clear es
 clear hg hl gp hp f1 f2 nl ns pz zV hkd hW hS hG LG hl0 hk hs0
 generalize Ii w (oW l p) (oV p) (sK l p)=T at *
 generalize jX bS now l0 p=LM at *
 generalize IJ bS now l0 p=LO at *
 unfold dI at hz F SP FR ⊢
 unfold jk at FR
 go_enter func28,ntmps28
 go_upto_region 1 with fail
 generalize ((w.alloc (.cells (aU l s).toArray 29)).alloc (.cells (aD p) 49)).alloc (.cells (aU (ay 101) false).toArray 29)=W0 at *
 clear hz
 have cp:=M0.out.num 0 (by rw[HP.out];omega)
 rw[KD.out]at cp
 go_upto_region 3 with fail
 have M2:=Zs (vL w l0 s0 p W0) (by rw[HL0.out,←XF.out];exact M0.out)
 clear M0
 clear cp
 go_wp2_with (first|refine lV 1 M2.out.2.1 dV (by rw[aM,HP.out];omega) PV.out ?_)
 refine(VA.out _ M2.out.2.2.2).mono ?_
 rintro e W3 ⟨rfl,g3⟩
 obtain⟨b1,b2,b3⟩:=dL W3 26 8 now NL.out
 have B1:=Zd b1
 have B2:=Zd b2
 have M3:=Zd ((M2.out.aH g3).aH b3)
 have NB:=Zs (w.heap.size+1+1+1≤W3.heap.size) ((M2.out.aH g3).2.2.1.lt)
 rw[rF]at B1 B2 M3
 clear g3 VA b1 b2 b3 M2 PV
 go_upto_region 4 with(first|refine sA now B1.out (by rw[NL.out,au]) (by rw[au];exact dV) ?_)
 clear B1
 generalize bT _ W3.heap.size now=W4 at *
 generalize W3.heap.size=ba at *
 have N4:=Zs (ba+1≤W4.heap.size) (B2.out.lt)
 go_wp2_with fail
 go_loopw [8,9] (fun va i wr=>∃k:Nat,i=.int .i64 k∧k≤2∧Hid (gP (ba+1) wr va (LO k))∧Hid (vL w (LM k) s0 p wr)∧Hid (bO wr ba 26 now)∧Hid (ba+1≤wr.heap.size)) (fun _ i _=>2-(intOf i).toNat)
 case atStart=>exact⟨0,rfl,Nat.zero_le _,by rw[E1.out];exact bZ _ _,by rw[E0.out];exact M3.out,B2.out,N4.out⟩
 case round=>
  obtain⟨k,rfl,hk,hO,hM,hB,hN⟩:=hrel
  clear M3 B2 N4
  by_cases jS:k<2
  ·have aj5:(k:Int)<2:=gA
   have hkb:(kd==2)=true:=by rw[hk2,ES.out]
   clear hk2
   have A1:=Zd (dA.all s0 (LL.out k))
   have C1:=Zd (aX (LL.out k) s0)
   have cp:=hM.out.num 0 (by rw[HP.out];omega)
   rw[KD.out]at cp
   have TL:=Zd (XD.out k)
   have PR:=Zd (PR'.out k)
   have MK:=Zd (MK'.out k jS)
   have Q1:=Zd (S1.out k)
   have Q2:=Zd (S2.out k)
   have OK:=Zd (OL.out k hk)
   have SK:=Zd (SN.out k jS)
   have Jt:=Zd (SP.out k jS)
   have PU:=Zd (PS.out k jS)
   rw[show bP p (9+8*k) 8=dS p k from rfl]at PU
   clear XD PR' MK' S1 S2 OL SN SP PS AL XL FR F
   have PPL:=Zd (rQ (gK (bP (lK bS (LM k) (dS p k)) 0 8) now k) (bP (lK bS (LM k) (dS p k)) 8 8) (vK bS (LM k) (dS p k)))
   generalize Du (gK (bP (lK bS (LM k) (dS p k)) 0 8) now k) (bP (lK bS (LM k) (dS p k)) 8 8) (vK bS (LM k) (dS p k))=PP at *
   generalize xQ (gK (bP (lK bS (LM k) (dS p k)) 0 8) now k) (bP (lK bS (LM k) (dS p k)) 8 8) (vK bS (LM k) (dS p k))=LX at *
   generalize I8 (gK (bP (lK bS (LM k) (dS p k)) 0 8) now k) (bP (lK bS (LM k) (dS p k)) 8 8) (vK bS (LM k) (dS p k))=x3 at *
   generalize gK (bP (lK bS (LM k) (dS p k)) 0 8) now k=AK at *
   generalize vK bS (LM k) (dS p k)=XK at *
   generalize lK bS (LM k) (dS p k)=PK at *
   have CK:=Zd (aX TL.out s0)
   have IK:=Zd (dY PK s0)
   have P0:=Zd (dA.part (l:=PK) s0 0 8 (by rw[TL.out];omega))
   have P8:=Zd (dA.part (l:=PK) s0 8 8 (by rw[TL.out];omega))
   go_upto_region 10 with fail
   clear cp
   go_wp2_with (first|refine lV 0 hM.out.1 aY (by rw[C1.out];omega) A1.out ?_)
   refine(Jt.out _).mono ?_
   rintro e w2 ⟨v2,rfl,o2,g2⟩
   have M2:=Zd (hM.out.aH g2)
   have X2:=Zd (o2.base hN.out)
   have MA:=M2.out.all (m:=PK) (t:=s0) (LL.out k) TL.out
   have M3:=Zd MA.1
   have O3:=Zd ((hO.out.aH g2).dK MA.2 (by have:=NB.out;omega))
   have X3:=Zd (X2.out.dK MA.2 (by have:=NB.out;omega))
   have B3:=Zd ((hB.out.aH g2).aJ MA.2 (by have:=NB.out;omega))
   have N3:=Zd (Nat.le_trans (Nat.le_trans hN.out g2.size) MA.2.size)
   clear MA X2 hM hO hB hN g2 o2
   unfold dI
   go_upto_region 12 with(first|refine sV 0 (aU PK s0) M2.out.1 (by rw[C1.out,CK.out];omega) (by rw[CK.out];exact aY) IK.out ?_)
   clear M2
   generalize dQ w2 w.heap.size 0 (aU PK s0)=w3 at *
   clear A1 C1 Jt PU
   go_upto_region 12 with fail
   refine b_ 15 (dM w3) 16 (by rfl) _ rfl (by kernel_rfl) (fun aK=>?_)
   have aj:=(aZ w3)
   refine bF 0 aj aK fun aK=>?_
   refine jq (hy:=by intro w' bL;(try dsimp only at bL);exact dD rfl rfl (M3.out.1.aH bL) _ underlying26 rfl dV (by rw[CK.out];omega) _ P0.out) (v:=.agg (aO (bP PK 0 8)).toArray) 1 aj aK fun aK=>?_
   refine jq (hy:=by intro w' bL;(try dsimp only at bL);exact yA (B3.out.aH bL) (by rw[NL.out];exact dV)) (v:=.agg (aD now)) 2 aj aK fun aK=>?_
   refine bF 3 aj aK fun aK=>?_
   refine bF 5 aj aK fun aK=>?_
   refine jq (hy:=by intro w' bL;(try dsimp only at bL);exact dD rfl rfl (M3.out.1.aH bL) _ underlying26 rfl dV (by rw[CK.out];omega) _ P8.out) (v:=.agg (aO (bP PK 8 8)).toArray) 6 aj aK fun aK=>?_
   refine bF 7 aj aK fun aK=>?_
   refine kT 4 aK fun K hK=>?_
   (try simp only[sZ])
   go_simp
   refine(PR.out _).mono ?_
   rintro e w4 ⟨rfl,q4⟩
   have Q4:=Zd q4
   clear q4
   go_wp2_with fail
   have iB:=(bD aj Q4.out)
   refine hK.out _ _ (fun _=>iB) (fun aK=>?_)
   clear hK
   replace aj:=iB
   clear iB
   (try simp only[sZ])
   refine kT 8 aK fun K hK=>?_
   (try simp only[sZ])
   go_simp
   refine(MK.out v2 _ (X3.out.aH aj).ints (X3.out.aH aj).Iy).mono ?_
   rintro e w5 ⟨v5,rfl,o5,q5⟩
   have Q5:=Zd q5
   have X5:=Zd (o5.base (Nat.le_trans N3.out aj.size))
   clear q5 o5
   go_wp2_with fail
   have iB:=(bD aj Q5.out)
   refine hK.out _ _ (fun _=>iB) (fun aK=>?_)
   clear hK
   replace aj:=iB
   clear iB
   (try simp only[sZ])
   refine bF 9 aj aK fun aK=>?_
   refine bF 10 aj aK fun aK=>?_
   refine bF 11 aj aK fun aK=>?_
   refine kC (i:=12) (v:=?aj7) rfl (by kernel_rfl) aK (fun _ _ _ h=>h) (Or.inl ⟨by rfl,?aep⟩) aj (fun aK=>?aj8)
   case aep=>(intro w' _;go_simp;(try with_reducible rfl))
   (try simp only[sZ])
   refine bF 13 aj aK fun aK=>?_
   refine bF 14 aj aK fun aK=>?_
   refine kT 15 aK fun K hK=>?_
   (try simp only[sZ])
   have M5:=Zd (M3.out.aH aj)
   have MA:=M5.out.put 8 PP (by rw[PPL.out,TL.out];omega)
   have M6:=Zd MA.1
   have O6:=Zd ((O3.out.aH aj).dK MA.2 (by have:=NB.out;omega))
   have X6:=Zd (X5.out.dK MA.2 (by have:=NB.out;omega))
   have B6:=Zd ((B3.out.aH aj).aJ MA.2 (by have:=NB.out;omega))
   have N6:=Zd (Nat.le_trans (Nat.le_trans N3.out aj.size) MA.2.size)
   rw[Q1.out]at M6
   clear MA X5 Q1
   refine dG rfl 26 _ _ rfl w.heap.size 8 29 (aU PK s0) (aO PP) rfl rfl M5.out.1 (by rw[aM,PPL.out,CK.out];omega) (by rw[aM,PPL.out];exact dV) (d9 _) ?_
   refine hK.out _ _ (fun h=>by cases h) (fun aK=>?_)
   clear hK aj
   (try simp only[sZ])
   clear M5 M3 O3 B3 X3 Q5 Q4
   generalize dQ w5 w.heap.size 8 (aO PP)=w6 at *
   refine bI _ _ _ _ (by rfl) ?_
   refine xP ?_
   clear PR MK P0 P8 jS
   go_upto_region 13 with fail
   have LB:=Zs (((LO k).length+LX.length)*8≤140737488355328) (by rw[OK.out];have:=SK.out;omega)
   have XI:=Zd X6.out.ints
   have XS:=Zd X6.out.Iy
   go_wp2_with (at_builtin;refine dF (by rfl) _ _ rfl (ba+1) _ _ (LO k) LX rfl rfl O6.out XI.out XS.out LB.out N6.out ?_)
   intro v7 w7 h7 g7
   rw[Q2.out]at h7
   have O7:=Zd h7
   have M7:=Zd (M6.out.own g7 (fun x e=>by have:=(O6.out.lt x e).1;have:=NB.out;omega))
   have B7:=Zd (TJ B6.out g7 (fun x e=>by have:=(O6.out.lt x e).1;omega))
   have N7:=Zd (Nat.le_trans N6.out g7.size)
   clear h7 g7 O6 M6 B6 N6 X6 Q2 XI XS
   go_wp2_with fail
   go_roundw
   case rel=>exact⟨k+1,by go_num,gA,O7.out,M7.out,B7.out,N7.out⟩
   case measure=>simp[intOf];omega
  obtain rfl:k=2:=gA
  have C2:=Zd (aX (LL.out 2) s0)
  clear XD PR' MK' S1 S2 OL SN SP PS AL XL FR
  go_upto_region 14 with fail
  refine wp_region_held_drew (S:=fun u=>dP u (w.heap.size+1) 49 (aO p)∧bO u ba 26 now) (by kernel_rfl) ⟨hM.out.2.1.aH (aZ wr),hB.out.aH (aZ wr)⟩ (fun aj=>?_)
  refine bV (hy:=by intro w' bL;exact yA bL.2 (by rw[NL.out];exact dV)) (v:=.agg (aD now)) 0 aj ?_
  refine bV 1 aj ?_
  refine bV (hy:=by intro w' bL;have cc:=(bL.1.cell 0).trans (yO p 0 (by rw[HP.out];omega));rw[KD.out]at cc;go_simp;(try with_reducible rfl)) (v:=.int .i64 kd) 2 aj ?_
  refine bV (hy:=by intro w' bL;go_simp;(try simp only[hk2]);(try with_reducible rfl)) (v:=.bool bS) 3 aj ?_
  refine bV 4 aj ?_
  refine fI 5 fun K hK=>?_
  (try simp only[sZ])
  have MD:=Zd (hM.out.aH (aZ wr))
  have MA:=MD.out.put 0 now (by rw[NL.out,LL.out];omega)
  have M6:=Zd MA.1
  have O6:=Zd ((hO.out.aH (aZ wr)).dK MA.2 (by have:=NB.out;omega))
  have HS6:=And.intro (aj.1.aJ MA.2 gA) (aj.2.aJ MA.2 (by have:=NB.out;omega))
  clear MA
  refine dG rfl 26 _ _ rfl w.heap.size 0 29 (aU (LM 2) s0) (aO now) rfl rfl MD.out.1 (by rw[aM,NL.out,C2.out];omega) (by rw[aM,NL.out];exact dV) (d9 _) ?_
  refine hK.out _ _ HS6 (fun aj=>?_)
  clear hK
  (try simp only[sZ])
  clear MD HS6
  generalize dQ wr.drew w.heap.size 0 (aO now)=w6 at *
  have L6:=Zs ((jr (LM 2) 0 now).length=101) (by rw[eG];exact LL.out 2)
  generalize jr (LM 2) 0 now=m6 at *
  refine bV 6 aj ?_
  refine fI 7 fun K hK=>?_
  (try simp only[sZ])
  have ck:=M6.out.1.cell 99 (by rw[L6.out];omega)
  have fk:=M6.out.1.free 99
  have M7:=Zd (M6.out.set 99 0 (by rw[L6.out];omega))
  have O7:=Zd (O6.out.dK (aF w6 ⟨w.heap.size,99,none⟩ (.int .i64 0)) (by have:=NB.out;simp;omega))
  have HS7:=And.intro (aj.1.aJ (aF w6 ⟨w.heap.size,99,none⟩ (.int .i64 0)) (by simp)) (aj.2.aJ (aF w6 ⟨w.heap.size,99,none⟩ (.int .i64 0)) (by have:=NB.out;simp;omega))
  go_simp
  go_wp2_with fail
  refine hK.out _ _ HS7 (fun aj=>?_)
  clear hK
  (try simp only[sZ])
  clear ck fk M6 O6 HS7
  generalize w6.setCell ⟨w.heap.size,99,none⟩ (.int .i64 0)=w7 at *
  have L7:=Zs ((m6.set 99 0).length=101) (by rw[List.length_set];exact L6.out)
  generalize m6.set 99 0=m7 at *
  refine bV 8 aj ?_
  refine fI 9 fun K hK=>?_
  (try simp only[sZ])
  have ck:=M7.out.1.cellS L7.out
  have fk:=M7.out.1.free 101
  have M8:=Zd (M7.out.adj L7.out bS)
  have O8:=Zd (O7.out.dK (aF w7 ⟨w.heap.size,101,none⟩ (.bool bS)) (by have:=NB.out;simp;omega))
  have HS8:=And.intro (aj.1.aJ (aF w7 ⟨w.heap.size,101,none⟩ (.bool bS)) (by simp)) (aj.2.aJ (aF w7 ⟨w.heap.size,101,none⟩ (.bool bS)) (by have:=NB.out;simp;omega))
  go_simp
  go_wp2_with fail
  refine hK.out _ _ HS8 (fun aj=>?_)
  clear hK
  (try simp only[sZ])
  clear ck fk M7 O7 HS8
  generalize w7.setCell ⟨w.heap.size,101,none⟩ (.bool bS)=w8 at *
  refine lM ?_
  clear aj
  go_upto_region 15 with fail
  have A8:=Zd (dA.all bS L7.out)
  have C8:=Zd (aX L7.out bS)
  have ON:=Zd (dY m7 bS)
  have PB:=Zd (M8.out.fin m7 bS L7.out)
  have O9:=Zd (O8.out.dK PB.out.2.2 (by have:=NB.out;omega))
  have FF:=Zd (F.out _ _ (O9.out.base (b':=w.heap.size) (by have:=NB.out;omega)) PB.out.2.1)
  clear F O8 O9
  go_wp2_with (first|refine lV 0 M8.out.1 aY (by rw[C8.out];omega) A8.out ?_|refine sV 0 (aU m7 bS) M8.out.2.2.1 (by rw[ZL.out,C8.out];omega) (by rw[C8.out];exact aY) ON.out ?_)
  have eO:=wV PB.out.1 (by rw[C8.out];exact aY)
  refine bodyPost_ret (v:=.tuple #[.agg (aU m7 bS).toArray,_]) ?_ rfl FF.out
  simp[results,results28,asAddr,Act.put,eO]
theorem TM (w:World)(a0:Addr)(c0:Nat)(hW:oZ w a0 c0)(a1:Addr)(c1:Nat)(hS:Steps w a1 c1)(a2:Addr)(c2:Nat)(hG:wQ w a2 c2):CPl 28 w:=fun l s hl hg p hp gp wr g=>by
 by_cases h:¬aC p 0=2
 ·exact abr wr a0 c0 (jm hW g) a1 c1 (jR hS g) a2 c2 (lu hG g) l s hl hg p hp gp h
 replace h:aC p 0=2:=gA
 exact abt wr a0 c0 (jm hW g) a1 c1 (jR hS g) a2 c2 (lu hG g) l s hl hg p hp gp h
def FoldM (w wr:World)(rs:List Int):Prop:=bO wr w.heap.size 3 rs∧w.grownBy wr none
theorem FoldM.set {w wr:World}{rs:List Int}(h:FoldM w wr rs)(k:Nat)(z:Int):FoldM w (wr.setCell ⟨w.heap.size,k,none⟩ (.int .i64 z)) (rs.set k z):=
 ⟨h.1.set k z,aG h.2 (aF _ ⟨w.heap.size,k,none⟩ _) (by simp)⟩
theorem FoldM.aH {w wr wr':World}{rs:List Int}(h:FoldM w wr rs)(g:wr.grownBy wr' none):FoldM w wr' rs:=⟨h.1.aH g,aB h.2 g⟩
def foC (x:Int):Int:=eU ((x+2048) / 4096)
theorem Ol (v u:Value)(r l:List Int)(w:World)(hr:aS w v r)(hl:aS w u l)(hs:u_ r l=false)(br:r.length≤1000000000000000000)(bl:l.length≤1000000000000000000) :
 Calls prog 69 #[v,u] w (fO w [] 1):=by
 obtain⟨ad,c,rfl,hc,_⟩:=hr
 obtain⟨Yr,c',rfl,hc',_⟩:=hl
 have G0:=Zd (aQ w none)
 by_cases h1:r.length=l.length
 ·have h2:¬l.length≤80:=by
   intro h;unfold u_ at hs;simp[h1,h]at hs
  have h3:(80:Int)<l.length:=gA
  rw[h1]
  clear hs h1
  go_enter func69,ntmps69
  go_wp2_with fail
  go_ret2
  exact⟨_,rfl,bZ _ _,G0.out⟩
 have h3:¬(r.length:Int)=l.length:=gA
 clear hs
 go_enter func69,ntmps69
 go_wp2_with fail
 go_ret2
 exact⟨_,rfl,bZ _ _,G0.out⟩
theorem JR (v u:Value)(r l:List Int)(w:World)(hr:aS w v r)(hl:aS w u l)(h1:r.length=l.length)(h2:l.length≤80)(hk:okO r l=false) :
 Calls prog 69 #[v,u] w (fO w [] 2):=by
 have R1:=Zd (bM v r w hr gA)
 have R2:=Zd (bM u l w hl gA)
 obtain⟨ad,c,rfl,hc,_⟩:=hr
 obtain⟨Yr,c',rfl,hc',_⟩:=hl
 have G0:=Zd (aQ w none)
 have h3:(l.length:Int)≤80:=gA
 rw[h1]at R1 ⊢
 clear h1
 rcases h:aL r with _|_
 ·rw[h]at R1
  clear h hk
  go_enter func69,ntmps69
  go_wp2_with fail
  refine R1.out.mono ?_
  rintro e w1 ⟨rfl,rfl⟩
  go_wp2_with fail
  go_ret2
  exact⟨_,rfl,bZ _ _,G0.out⟩
 have h':aL l=false:=by unfold okO at hk;rw[h]at hk;simpa using hk
 rw[h]at R1
 rw[h']at R2
 clear h h' hk
 go_enter func69,ntmps69
 go_wp2_with fail
 refine R1.out.mono ?_
 rintro e w1 ⟨rfl,rfl⟩
 go_wp2_with fail
 refine R2.out.mono ?_
 rintro e w1 ⟨rfl,rfl⟩
 go_wp2_with fail
 go_ret2
 exact⟨_,rfl,bZ _ _,G0.out⟩
theorem TP (v u:Value)(r l:List Int)(w:World)(hr:aS w v r)(hl:aS w u l)(h1:r.length=l.length)(h2:l.length≤80)(kr:aL r=true)(kl:aL l=true) :
 Calls prog 69 #[v,u] w (fO w (fM l.length (Yk r l)) 0):=by
 have R1:=Zd (bM v r w hr gA)
 have R2:=Zd (bM u l w hl gA)
 rw[kr]at R1
 rw[kl]at R2
 have RB:=Zd (jE r _ _ gA gA ((aV r).1 kr))
 have LB:=Zd (jE l _ _ gA gA ((aV l).1 kl))
 obtain⟨ad,c,rfl,hc,hcr⟩:=hr
 obtain⟨Yr,c',rfl,hc',aK⟩:=hl
 have CR:=Zd hcr
 have CL:=Zd aK
 have M0:=Zs (FoldM w (w.alloc (.cells (aD (ay l.length)) 3)) (ay l.length)) (⟨bO.new w 3 (ay l.length),ak _ _ none⟩)
 have jg:=fZ l.length gA
 have h3:(l.length:Int)≤80:=gA
 rw[h1]at R1 hc CR ⊢
 clear hcr aK kr kl
 generalize hN:l.length=N at *
 have HN:=Zd hN
 clear hN
 go_enter func69,ntmps69
 go_wp2_with fail
 refine R1.out.mono ?_
 rintro e w1 ⟨rfl,rfl⟩
 go_wp2_with fail
 refine R2.out.mono ?_
 rintro e w2 ⟨rfl,rfl⟩
 clear R1 R2
 go_wp2_with fail
 clear jg
 generalize w2.alloc (.cells (aD (ay N)) 3)=W0 at *
 go_loopw [35] (fun s35 wr=>∃(i:Nat) (rs:List Int),s35=.int .i64 i∧i≤N∧Hid (vT l r N i 0 rs)∧Hid (FoldM w2 wr rs)) (fun s35 _=>N-(intOf s35).toNat)
 case atStart=>exact⟨0,ay N,rfl,Nat.zero_le _,Pz l r N,M0.out⟩
 case round=>
  obtain⟨i,rs,rfl,hi,hF,hM⟩:=hrel
  clear M0
  by_cases hiN:i<N
  ·obtain⟨al,rfl,hv⟩:=CL.out gA
   have cx:=bA hM.out.2 (hv i gA)
   obtain⟨x1,x2⟩:=LB.out i
   have i1:(i:Int)<N:=gA
   have DI:decide ((i:Int)<N)=true:=by simp;omega
   clear hv
   obtain⟨x,hx⟩:∃x,x=aC l i:=⟨_,rfl⟩
   rw[←hx]at cx x1 x2
   have HX:=Zd hx
   clear hx
   go_wp2_with fail
   go_loopw [42] (fun s42 wi=>∃(k:Nat) (rs:List Int),s42=.int .i64 k∧k≤N∧Hid (vT l r N i k rs)∧Hid (FoldM w2 wi rs)) (fun s42 _=>N-(intOf s42).toNat)
   case atStart=>exact⟨0,rs,rfl,Nat.zero_le _,hF.out,hM.out⟩
   case round=>
    obtain⟨k,rs',rfl,hk,hF',hM'⟩:=hrel
    clear hF hM cx
    by_cases hkN:k<N
    ·obtain⟨ar,rfl,hv⟩:=CR.out gA
     have cy:=bA hM'.out.2 (hv k gA)
     obtain⟨y1,y2⟩:=RB.out k
     obtain⟨p1,p2⟩:=pK x (aC r k) x1 x2 y1 y2
     have k1:(k:Int)<N:=gA
     by_cases hik:i+k<N
     ·have j1:(i:Int)+k<N:=gA
      have hlen:rs'.length=N:=hF'.out.1
      have cd:=hM'.out.1.cell (i+k) gA
      have fd:=hM'.out.1.free (i+k)
      obtain⟨b1,b2⟩:=PD hF'.out h2 RB.out LB.out (i+k) hik gA
      have NF:=Zd (ZR hF'.out hik)
      have NM:=Zd (hM'.out.set (i+k) (aC rs' (i+k)+x*aC r k))
      rw[←HX.out]at NF
      clear hF' hM' hv
      generalize aC r k=y at *
      generalize aC rs' (i+k)=z at *
      go_wp2_with fail
      go_roundw
      case rel=>exact⟨k+1,_,by go_num,gA,NF.out,NM.out⟩
      case measure=>simp[intOf];omega
     have j1:¬(i:Int)+k<N:=gA
     have NF:=Zd (UQ hF'.out hik)
     clear hF' hv
     generalize aC r k=y at *
     go_wp2_with fail
     go_roundw
     case rel=>exact⟨k+1,_,by go_num,gA,NF.out,hM'.out⟩
     case measure=>simp[intOf];omega
    obtain rfl:k=N:=gA
    have NF:=Zd (ZT hF'.out)
    clear hF'
    go_wp2_with fail
    go_roundw
    case rel=>exact⟨i+1,rs',by go_num,gA,NF.out,hM'.out⟩
    case measure=>simp[intOf];omega
  obtain rfl:i=N:=gA
  have PE:=Zd (ZU hF.out)
  have BD:=Zd (fun m (hm:m<i)=>PD hF.out h2 RB.out LB.out m hm (Nat.le_refl _))
  have hlen:rs.length=i:=hF.out.1
  have M1:=hM
  clear hF hM
  go_wp2_with fail
  go_loopw [68] (fun s68 wi=>∃(m:Nat) (ts:List Int),s68=.int .i64 m∧m≤i∧Hid (ab5 i foC rs m ts)∧Hid (FoldM w2 wi ts)) (fun s68 _=>i-(intOf s68).toNat)
  case atStart=>exact⟨0,rs,rfl,Nat.zero_le _,⟨⟨hlen,fun j hj=>gA⟩,fun j hj=>rfl⟩,M1.out⟩
  case round=>
   obtain⟨m,ts,rfl,hm,hF,hM⟩:=hrel
   clear M1
   by_cases hmN:m<i
   ·have hlt:ts.length=i:=hF.out.1.1
    have cd:=hM.out.1.cell m gA
    rw[hF.out.2 m (Nat.le_refl _)]at cd
    obtain⟨b1,b2⟩:=BD.out m hmN
    have NF:=Zd (UY hF.out hmN)
    have m1:(m:Int)<i:=gA
    have DN:=Zd (fun w'=>jM (aC rs m+2048) 12 gA gA gA w')
    rw[show((12:Nat):Int)=12 from rfl,show(2:Int)^12=4096 by decide]at DN
    have SS:=Zd (fun w'=>nU ((aC rs m+2048) / 4096) w' gA gA)
    rw[show eU ((aC rs m+2048) / 4096)=foC (aC rs m)from rfl]at SS
    clear hF
    generalize foC (aC rs m)=z at *
    generalize aC rs m=x at *
    generalize (x+2048) / 4096=y at *
    go_wp2_with fail
    refine(DN.out _).mono ?_
    rintro e w3 ⟨rfl,g3⟩
    have M3:=Zd (hM.out.aH g3)
    clear g3 hM cd DN
    go_wp2_with fail
    refine(SS.out _).mono ?_
    rintro e w4 ⟨rfl,g4⟩
    have M4:=Zd (M3.out.aH g4)
    clear g4 SS
    have cd:=M4.out.1.cell m gA
    have fd:=M4.out.1.free m
    have NM:=Zd (M4.out.set m z)
    generalize aC ts m=q at *
    go_wp2_with fail
    go_roundw
    case rel=>exact⟨m+1,_,by go_num,gA,NF.out,NM.out⟩
    case measure=>simp[intOf];omega
   obtain rfl:m=i:=gA
   have EL:=Zd (show ts=fM m (Yk r l)from dJ hF.out.1.1 (fun j hj=>by
    rw[hF.out.1.2 j hj];show foC (aC rs j)=Yk r l j;rw[PE.out j hj];rfl))
   have hlt:ts.length=m:=hF.out.1.1
   have OF:=zx hM.out.1 (Nat.le_refl _) gA
   rw[hlt]at OF
   have GF:=Zd hM.out.2
   have OO:=Zd OF
   clear hF hM OF
   go_wp2_with fail
   go_ret2
   rw[EL.out]at OO
   exact⟨_,rfl,OO.out,GF.out⟩
theorem TQ (v u:Value)(r l:List Int)(w:World)(hr:aS w v r)(hl:aS w u l)(br:r.length≤1000000000000000000)(bl:l.length≤1000000000000000000) :
 Calls prog 69 #[v,u] w (fO w (Es r l) (J_ r l)):=by
 rcases hs:u_ r l with _|_
 ·rw[show Es r l=[] by unfold Es;rw[hs];simp,show J_ r l=1 by unfold J_;rw[hs];rfl]
  exact Ol v u r l w hr hl hs br bl
 have hs':=hs
 unfold u_ at hs'
 simp only[Bool.and_eq_true,decide_eq_true_eq]at hs'
 rcases hk:okO r l with _|_
 ·rw[show Es r l=[] by unfold Es;rw[hk];simp,show J_ r l=2 by unfold J_;rw[hs,hk];rfl]
  exact JR v u r l w hr hl hs'.1 hs'.2 hk
 rw[show Es r l=fM l.length (Yk r l) by unfold Es;rw[if_pos ⟨hs,hk⟩],show J_ r l=0 by unfold J_;rw[hs,hk];rfl]
 unfold okO at hk
 simp only[Bool.and_eq_true]at hk
 exact TP v u r l w hr hl hs'.1 hs'.2 hk.1 hk.2
def RingM (w wr:World)(a:List Int)(B:Nat)(rs:List Int):Prop:=bO wr w.heap.size 58 a∧bO wr B 3 rs∧w.heap.size<B∧w.grownBy wr none
theorem RingM.set {w wr:World}{a:List Int}{B:Nat}{rs:List Int}(h:RingM w wr a B rs)(k:Nat)(z:Int):RingM w (wr.setCell ⟨B,k,none⟩ (.int .i64 z)) a B (rs.set k z):=
 ⟨h.1.aJ (aF _ ⟨B,k,none⟩ _) (by have:=h.2.2.1;simp;omega),h.2.1.set k z,h.2.2.1,aG h.2.2.2 (aF _ ⟨B,k,none⟩ _) (by have:=h.2.2.1;simp;omega)⟩
theorem XG (a:List Int)(n:Int)(hn:¬(0≤n∧n≤80))(w:World) :
 Calls prog 67 #[.agg (aD a),.int .i64 n] w (fO w [] 1):=by
 have G0:=Zd (ak w (.cells (aD a) 58) none)
 by_cases h1:n<0
 ·go_enter func67,ntmps67
  go_wp2_with fail
  go_ret2
  exact⟨_,rfl,bZ _ _,G0.out⟩
 have h2:80<n:=gA
 go_enter func67,ntmps67
 go_wp2_with fail
 go_ret2
 exact⟨_,rfl,bZ _ _,G0.out⟩
theorem TU (a:List Int)(ha:a.length=9)(n:Nat)(hn:n≤80)(w:World) :
 Calls prog 67 #[.agg (aD a),.int .i64 n] w (fO w (xQ a (ay 8) (jc n)) (I8 a (ay 8) (jc n))):=by
 have jg:=fZ n gA
 have hbd:=nH
 have M0:=Zd (show RingM w ((w.alloc (.cells (aD a) 58)).alloc (.cells (aD (ay n)) 3)) a (w.heap.size+1) (ay n)from
  ⟨(bO.new w 58 a).aH (ak _ _ none),bO.new1 w _ 3 (ay n),gA,aB (ak _ _ none) (ak _ _ none)⟩)
 have MK:=Zd (fun wr v (h:aS wr v (jc n)) (s:rR v (jc n))=>pF a (ay 8) ha (au 8) v (jc n) wr h s (by unfold jc;rw[bQ];omega))
 have hq:=rQ a (ay 8) (jc n)
 have h1l:(jc n).length=n:=bQ _ _
 generalize xQ a (ay 8) (jc n)=L at *
 generalize I8 a (ay 8) (jc n)=en at *
 generalize Du a (ay 8) (jc n)=P at *
 go_enter func67,ntmps67
 go_wp2_with fail
 generalize (w.alloc (.cells (aD a) 58)).alloc _=W0 at *
 clear jg hbd
 go_loopw [21] (fun i wr=>∃m:Nat,i=.int .i64 m∧m≤n∧Hid (RingM w wr a (w.heap.size+1) (if m=0 then ay n else jc n))) (fun i _=>n-(intOf i).toNat)
 case atStart=>exact⟨0,rfl,Nat.zero_le _,M0.out⟩
 case round=>
  obtain⟨m,rfl,hm,hM⟩:=hrel
  clear M0
  by_cases hmn:m<n
  ·have i1:(m:Int)<n:=gA
   by_cases h0:m=0
   ·subst h0
    rw[if_pos rfl]at hM
    have cd:=hM.out.2.1.cell 0 (by simp[ay];omega)
    have fd:=hM.out.2.1.free 0
    have NM:=Zd (hM.out.set 0 4096)
    rw[one_set n gA]at NM
    rw[iZ]at cd
    clear hM
    rw[show((0:Nat):Int)=0 from rfl]at i1 ⊢
    go_wp2_with fail
    go_roundw
    case rel=>exact⟨1,by go_num,gA,NM.out⟩
    case measure=>simp[intOf];omega
   have i2:¬(m:Int)=0:=gA
   rw[if_neg h0]at hM
   go_wp2_with fail
   go_roundw
   case rel=>exact⟨m+1,by go_num,gA,hM.out⟩
   case measure=>simp[intOf];omega
  obtain rfl:m=n:=gA
  have hE:(if m=0 then ay m else jc m)=jc m:=by
   split
   ·rename_i h;subst h;rfl
   rfl
  rw[hE]at hM
  have BA:=Zd hM.out.1
  have hIn:=zx hM.out.2.1 (Nat.le_refl _) (by rw[h1l];omega)
  rw[h1l]at hIn
  have MC:=Zd (MK.out wr (.slice (some ⟨w.heap.size+1,0,none⟩) m m) hIn.ints hIn.Iy)
  have GM:=Zd hM.out.2.2.2
  have hbd:=nH
  clear hM hIn hE
  go_wp2_with (first|refine lA BA.out (by rw[ha];exact dz) ?_)
  refine MC.out.mono ?_
  rintro e w2 ⟨v',rfl,o2,g2⟩
  obtain⟨b1,b2,b3⟩:=dL w2 26 8 P hq
  have B1:=Zd b1
  have G3:=Zd (aB (aB GM.out g2) b3)
  have O3:=Zd ((o2.aH b3).base (World.grownBy.size GM.out))
  rw[rF]at B1 G3 O3
  clear b1 b2 b3 o2 g2 MC hbd
  go_wp2_with (first|refine sA P B1.out (by rw[hq,au]) (by rw[au];exact aW) ?_)
  go_ret2
  exact⟨_,rfl,O3.out,G3.out⟩
theorem TV (a:List Int)(ha:a.length=9)(n:Int)(w:World) :
 Calls prog 67 #[.agg (aD a),.int .i64 n] w (fO w (rgL a n) (rgE a n)):=by
 by_cases hn:0≤n∧n≤80
 ·rw[show rgL a n=xQ a (ay 8) (jc n.toNat)from if_pos hn,show rgE a n=I8 a (ay 8) (jc n.toNat)from if_pos hn]
  have e:n=(n.toNat:Int):=gA
  have:=TU a ha n.toNat gA w
  rw[←e]at this
  exact this
 rw[show rgL a n=[]from if_neg hn,show rgE a n=1 from if_neg hn]
 exact XG a n hn w
end Go.Proofs.YtbaccaipcimlhaaGreatDoor
