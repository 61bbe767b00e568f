import Derived.Test.YtmpfdogdinhhcaaGreatDoorBun4
import Derived.LaidMore
import Derived.Stop.Joined
import Derived.Lib.LaidTab
namespace Go.Proofs.YtmpfdogdinhhcaaGreatDoor
open Go.ChangeShapes Go.WideShapes Go.ChangeAt Go.RowKit
open Go.RowKit
open Tryz
set_option linter.unusedSimpArgs false
set_option linter.unusedVariables false
set_option maxHeartbeats 2000000
set_option maxRecDepth 100000
set_option linter.defProp false
variable {w w' u:World}{n b k j:Nat}{l p r:List Int}{x v':Value}{T:TypeId}{s:Bool}{y:List Value}{z:Option Nat}{i:Int}{Q:Exit→Act→World→Prop}{a:Act}{o:Oper}{Z:Nat→Prop}{f:Nat→Int}
def Ns (ax:V)(j:L)(i:W)(hv:jI i ax j)(hb:yP j)(G:j.length=15)(hs:qJ j 14=aB j 14)(ah:Addr)(ct:Nat)(hT:TabS i 1 ah ct Bc 8):Calls prog 33 #[ax] i (AZ i j):=by
 obtain⟨ad,X,rfl,hc,ap⟩:=hv;obtain⟨J,rfl,ai⟩:=ap gO;have hz:=fT Un;have BV:=Zd λwr (o:i.grownBy wr none)=>(show jI wr (.slice (some J) 14 X) (j.take 14)from Sn (n:=j.length) ⟨some J,X,rfl,hc,λ_=>⟨J,rfl,λa hi=>aU o (ai a hi)⟩⟩ 14 gO);have CK:=Zd λwr (o:i.grownBy wr none)=>yF (.slice (some J) 14 X) (j.take 14) wr (BV wr o) (Nn hb 14) (by simp;omega);rw[show(j.take 14).length=14 by simp;omega,aam]at CK;have aH:=ai 14 gO;obtain⟨y1,y2⟩:=hb 14;rw[G]at hc ⊢;have B0:=Zd<|bY.new i 79 (au 25);have s:=Zd<|ak 25;have G0:=Zd<|aj i (.cells (aF (au 25)) 79) none;have a7:(qJ j 14==aB j 14)=true:=beq_iff_eq.2 hs;have SB:=Zd λb wr (o:i.grownBy wr none) (hz:Struct wr b)=>VG b (.slice (some J) 14 X) (j.take 14) wr hz (BV wr o) (Nn hb 14) (by simp;omega);rw[ak_]at SB;obtain⟨X0,X1⟩:=agG j hb 14;rw[show(256:Int)^14=5192296858534827628530496329220096 by decide]at X1;have NU:=Zd λwr (o:i.grownBy wr none)=>uP (au 25) (ak 25) ah ct wr (iq hT o);have av:(14:Int)<=(X:Int):=gO;have GP:=Zd λc G b wr (o:i.grownBy wr none)=>Im c G b ah ct wr (iq hT o);have PR:=Zd λc G b wr=>Bt c G b wr;have EF:=Zd λy=>Kv j G hs y;have ER:=Zd λb e=>FK j G hs b e;have EP:=Zd λb e c=>TJ j G hs b e c;have EK:=Zd λb e c=>agL j G hs b e c;have EL:=Zs (xV j=0->oJ j=Bj (xB j 14)) (λy=>Q9 y);clear ap ai BV hT;generalize hZ:au 25=m at *
 have HZ:=Zd hZ;generalize qJ j 14=bf at *
 generalize aB j 14=az at *
 generalize hX:xB j 14=f at *
 have HX:=Zd hX;clear hZ hX;go_enter func33,ntmps33;go_upto_region 3 with fail;generalize i.alloc (.cells (aF m) 79)=W0 at *
 refine wp_region_held_drew (S:=dB i) (by kernel_rfl) (aX G0 (bB (aM _ none))) λd=>?_;refine aV 0 d ?_;refine aV (hy:=by intro c k;have av:(14:Int)<=(X:Int):=gO;go_simp;(try(first|done|(rw[Q9 av])|rfl))) (v:=.slice (some J) 14 X) 1 d ?_;refine aV 3 d ?_;refine aV 4 d ?_;refine aV (hy:=by intro c k;have K:c.cell? { block:=J.block,off:=J.off+14 }=some (.int .u8 az):=aU k aH;go_simp;(try with_reducible rfl)) (v:=.int .u8 az) 5 d ?_;refine eU 2 λJ G=>?_;(try simp only[sZ]);go_simp;refine(CK _ (aX G0 (bB (aM _ none)))).mono ?_;rintro u w1 ⟨rfl,rfl⟩;go_wp2_with fail;refine G.out _ _ d λd=>?_;clear G;(try simp only[sZ]);refine aV (hy:=by intro c k;go_simp;(first|done|rfl|simp[a7])) (v:=.bool false) 6 d ?_;refine jX ?_;have B1:=Zd<|B0.aC (bB (aM W0 none));have G1:=Zd<|ay G0 (bB (aM W0 none));clear B0 G0 CK;generalize W0.drew=W1 at *
 go_upto_region 5 with fail;have ZS:=Zd<|dW W1;have GA:=Zd<|ay G1 (aj W1 iW none);have BA:=Zd<|B1.aC (aj W1 iW none);rw[show iW=.cells #[.bool false,N] 113 from rfl]at ZS GA BA;go_wp2_with fail;generalize a1:W1.alloc (.cells #[.bool false,N] 113)=W2 at *
 have S0:=Zs (i.heap.size<W1.heap.size) (B1.lt);clear a1 B1 G1;generalize W1.heap.size=q at *
 refine(SB q W2 GA ZS).mono ?_;rintro u z ⟨rfl,i3,g3⟩;have I3:=Zd i3;have B3:=Zd<|BA.out.aH g3 (by have:=S0.out;omega);have G3:=Zd<|aG GA.out g3 (by have:=S0.out;omega);clear i3 g3 BA GA SB ZS;go_upto_region 6 with fail;have C4:=Zs ((z.alloc (.cells #[.pointer (some ⟨q,0,none⟩)] 109)).cell? ⟨z.heap.size,0,none⟩=some (.pointer (some ⟨q,0,none⟩))) (by rw[aI (dF z _)];rfl);have I4:=Zd<|bP I3 (aj z (.cells #[.pointer (some ⟨q,0,none⟩)] 109) none);have B4:=Zd<|B3.aC (aj z (.cells #[.pointer (some ⟨q,0,none⟩)] 109) none);have G4:=Zd<|ay G3 (aj z (.cells #[.pointer (some ⟨q,0,none⟩)] 109) none);have S4:=Zs (q<z.heap.size/\(z.alloc (.cells #[.pointer (some ⟨q,0,none⟩)] 109)).heap.size=z.heap.size+1) (⟨lS I3,by simp⟩);clear I3 B3 G3;generalize z.alloc (.cells #[.pointer (some ⟨q,0,none⟩)] 109)=W4 at *
 generalize z.heap.size=U at *
 go_wp2_with fail;refine(NU W4 G4).mono ?_;rintro u E ⟨v1,v2,v3,rfl,f1,f2,f3,f4⟩;rw[K3 (show Nz.length<=25 by decide)]at f1;have o2:=f1.get 1 rfl;obtain⟨gw,cw,rfl,a4,al,a3⟩:=o2.form (by decide);rw[show Nz.length=25 from rfl]at o2 a3 ⊢;have s4:=S4.out;have s0:=S0.out;have OR:=Zs (amM i q U gw E.heap.size (E.heap.size+1)) (⟨s0,s4.1,gO,al,gO⟩);have M0:=Zd (show Z9 i q U gw cw E.heap.size (E.heap.size+1) m f 112 N [] (E.alloc (.cells #[I 112] 3))from by
  have g:=aj E (.cells #[I 112] 3) none;have l:f % 2^112=f:=Int.emod_eq_of_lt X0 (by rw[show(2:Int)^112=5192296858534827628530496329220096 by decide];exact X1);exact⟨⟨dF E _,aU g (aU f2 C4)⟩,by rw[l];exact bP (bP I4 f2) g,(o2.base (by have:=G4.size;omega)).aC g,bN _ _,(B4.aC f2).aC g,ay (ay G4 f2) g,by simp⟩)
 clear f1 f2 f3 f4 o2 s4 s0 S0 S4 C4 I4 B4 G4 NU a4 al;have a5:∀(fn:Fn) (first aq:Array V) (i:W),(Instr.makeFunc fn first aq).run prog i=.ok (.func fn first aq) i:=λ_ _ _ _=>rfl;go_wp2_with fail;generalize E.alloc (.cells #[I 112] 3)=W5 at *
 generalize E.heap.size+1=H at *
 generalize E.heap.size=bl at *
 clear a5;go_loopw [10,42] (λl a wr=>∃g:Nat,a=I g/\g<=25/\Hid (Z9 i q U gw cw bl H m f (112-sW g) l (f_ g (fI f)) wr)) (λ_ a _=>25-(intOf a).toNat)
 case atStart=>exact⟨0,rfl,QN _,M0⟩
 case round=>
  obtain⟨g,rfl,hm,D⟩:=hrel;clear M0;have t:=OR.out;by_cases ab:g<25
  .have O:=D.2.2.1.cell rfl g (by show g<25;omega);rw[acR g ab]at O;obtain⟨w,l⟩:=Tx g ab;have R:=Kt (g+1) gO;have Y:sW (g+1)=sW g+lX g:=rfl;have i1:(g:Int)<25:=gO;have T:=Zd<|Io (lX g) (112-sW g) bl U q (f % 2^(112-sW g)) wr gO gO D.1 D.2.1 (FT _ (Int.ne_of_gt (jP _))) (H7 _ (jP _)) l ⟨by have:=t.2.2.2.1;have:=t.2.2.1;have:=t.2.1;omega,by have:=t.2.1;omega,by have:=t.2.2.2.1;have:=t.2.2.1;omega⟩;rw[ai3 f g ab]at T;have MT:=Zd (λl b e w=>(show Z9 i q U gw cw bl H m f (112-sW (g+1)) u10 (f_ g (fI f)) l from by
    have:=D.took OR (lX g) gO l b e w;rw[show 112-sW g-lX g=112-sW (g+1) by omega]at this;exact this))
   have x:=Zs (f_ (g+1) (fI f)=f_ g (fI f)++[fI f g]) (by unfold f_;rw[List.range_succ];simp);have B:=Zd<|cK g (fI f);have Z:=Zd<|agJ f g ab;clear D t R Y;generalize fI f g=n at *
   generalize lX g=ba at *
   go_wp2_with fail;refine T.mono ?_;rintro u M ⟨rfl,t1,t2,t3⟩;have p:=Zd<|MT M t1 t2 t3;clear T MT t1 t2 t3 O;have C:=Zs (H<=(M.alloc (.cells #[I n] 3)).heap.size) (by have:=p.2.2.2.2.2.2;simp;omega);have r:=Zd<|p.grow (aj M (.cells #[I n] 3) none);clear p;go_wp2_with (at_builtin;refine dH (by rfl) _ _ rfl H _ (.slice (some ⟨M.heap.size,0,none⟩) 1 1) (f_ g (fI f)) [n] rfl rfl r.2.2.2.1 (uj M n) (.inr ⟨_,_,rfl⟩) (by rw[B.out];simp;omega) C ?_);intro v7 F v P;rw[<-x.out]at v;have Q:=Zd<|r.app OR P v;clear v P r C x B;go_wp2_with fail;go_roundw
   case rel=>exact⟨g+1,by go_num,gO,Q⟩
   case measure=>simp[intOf];omega
  obtain rfl:g=25:=gO;rw[show((25:Nat):Int)=25 from rfl]at *
  rw[agD]at D;have T:=Zd<|Io 1 6 bl U q (f % 2^6) wr gO gO D.1 D.2.1 (FT _ (Int.ne_of_gt (jP _))) (H7 _ (jP _)) gO ⟨by have:=t.2.2.2.1;have:=t.2.2.1;have:=t.2.1;omega,by have:=t.2.1;omega,by have:=t.2.2.2.1;have:=t.2.2.1;omega⟩;rw[show f % 2^6 / 2^(6-1)=pB f by unfold pB;rw[show(2:Int)^6=64 by decide,show(2:Int)^(6-1)=32 by decide];omega,show((1:Nat):Int)=1 from rfl]at T;have MT:=Zd λl b e w=>(show Z9 i q U gw cw bl H m f 5 u10 (Bj f) l from D.took OR 1 gO l b e w);clear D t;go_wp2_with fail;refine T.mono ?_;rintro u M ⟨rfl,t1,t2,t3⟩;have p:=Zd<|MT M t1 t2 t3;clear T MT t1 t2 t3;have cv:=p.1.2;have R:=Zd<|ahc q (f % 2^5) M p.2.1;rw[show(2:Int)^5=32 by decide]at R;by_cases aa:f % 32=0
  .rw[Q9 aa]at R;obtain⟨n,B,aA,al,a9,a2⟩:=p.2.2.2.1.form (by rw[tq];omega);subst aA;rw[tq]at p a2 ⊢;have a0:=p.2.2.2.1.cell (tq f).symm 0 (by rw[tq];omega);have O6:=Zd p.2.2.2.1;have w:=Zd p.2.2.2.2.1;have G6:=Zd p.2.2.2.2.2.1;have l:=Zd<|tq f;clear p EF;have aw:=wD m 0 (aB (Bj f) 0);have aE:¬aF m=#[]:=λu=>by
    have:=congrArg Array.size u;simp[aF]at this;have b:=s.out;rw[this]at b;simp at b
   have ao:=Zd (show iI (Bj f)from λa=>by
    by_cases hi:a<25
    .rw[TH f a hi];have:=agJ f a hi;omega
    rw[dI _ a (by rw[tq];omega)];omega)
   generalize hU:Bj f=b at *
   have HU:=Zd hU;clear hU;go_wp2_with fail;refine R.mono ?_;rintro u F ⟨rfl,rfl⟩;clear R;obtain⟨x,ac⟩:∃x,m.set 0 (aB b 0)=x:=⟨_,rfl⟩;rw[ac]at aw;have am:=Zd ac;have KL:=Zs (x.length=25) (by rw[<-ac,XB];exact s);clear ac;have FB:=dG F 79 25 x KL;rw[HZ.out]at FB;have F0:=Zd FB.1;have F1:=Zd FB.2.1;have F2:=Zd FB.2.2;clear FB;go_upto_region 19 with(first|refine sA x F0 (by rw[s.out,KL.out]) (by rw[s.out];exact dS) ?_);(try simp only[Act.put]);have e:=Zs (UnN i F.heap.size n B H m b x (b_ (F.alloc (.cells (aF m) 79)) F.heap.size x)) (⟨F1,O6.aC F2,w.aC F2,ay G6 F2⟩);have bc:i.heap.size<F.heap.size:=w.lt;have PS:=Zs (Np b 1 x) (by rw[<-am.out];exact aan b m s);obtain⟨L8,af,ag⟩:∃L8:L,Hid (L8.length=8)/\Hid (∀g,g<8->aB L8 g=aB b (1+g)):=⟨(b.drop 1).take 8,by show _=_;simp[l.out],λg q=>by simp[aB,List.getD,KC,List.getElem?_drop,q,Nat.add_comm]⟩;have an:=Zd<|Nq PS gO af ag;clear F0 F1 F2 O6 w G6 PS am aw aE a0 cv;generalize b_ (F.alloc (.cells (aF m) 79)) F.heap.size x=W8 at *
   generalize F.heap.size=bp at *
   have q1:(25:Int)<=B:=gO;have q2:¬B=1:=gO;have q3:(9:Int)<=B:=gO;refine wp_region_held_drew (S:=dB i) (by kernel_rfl) (aX e.2.2.2 (bB (aM _ none))) λd=>?_;replace e:=Zd<|e.grow (bB (aM W8 none));generalize W8.drew=wd at *
   refine aV 0 d ?_;refine aV (v:=.slice (some ⟨bp,1,none⟩) 8 8) 1 d ?_;refine aV 2 d ?_;refine aV (hy:=by intro c k;go_simp;(first|done|rfl|skip)) (v:=.slice (some ⟨n,1,none⟩) 8 (B-1)) 3 d ?_;refine eU 4 λJ G=>?_;(try simp only[sZ]);refine abR rfl _ _ rfl bp 1 8 8 (B-1) 79 x L8 ⟨n,1,none⟩ e.1 rfl rfl af (λg q=>by rw[Addr.add_mid,e.out.2.1.cell l.out.symm (1+g) (by rw[l.out];omega),ag.out g q]) (by rw[KL.out];omega) ?_;intro w9 b9 C;replace e:=Zd<|e.turn C b9 gO gO;refine G.out _ _ (jq d C gO) λd=>?_;clear G;(try simp only[sZ]);refine jX ?_;clear d af ag;generalize uL x 1 L8=K1 at *
   go_wp2_with fail;go_loopw [15] (λa wr=>∃(v:Nat) (r:L),a=I v/\v<=2/\Hid (Np b (9+8*v) r)/\Hid (UnN i bp n B H m b r wr)) (λa _=>2-(intOf a).toNat)
   case atStart=>exact⟨0,K1,rfl,QN _,an,e⟩
   case round=>
    obtain⟨v,r,rfl,hk,hP,hN⟩:=hrel;clear an e;by_cases bb:v<2
    .have e:=Zd hN;have Q:=Zd hP.1;obtain⟨a,O⟩:∃a:Nat,9+8*v=a:=⟨_,rfl⟩;have Y:a+8<=25:=gO;have Z:(9:Int)+8*(v:Int)=(a:Int):=gO;have J3:(a:Int)<=B:=gO;have J4:¬B=a:=gO;have J5:(a:Int)<=25:=gO;have J6:a<25:=gO;have i1:(v:Int)<2:=gO;have J7:9+v*8=a:=gO;have P:=Zd (show Np b (9+8*(v+1)) (uL r a [aB b a,aB b (a+1),aB b (a+2),aB b (a+3),aB b (a+4),aB b (a+5),aB b (a+6),aB b (a+7)])from by
      have:=Nq (M:=[aB b a,aB b (a+1),aB b (a+2),aB b (a+3),aB b (a+4),aB b (a+5),aB b (a+6),aB b (a+7)]) hP gO rfl (λg q=>by
       rw[O]
       match g,q with
       | 0,_=>rfl
       | 1,_=>rfl
       | 2,_=>rfl
       | 3,_=>rfl
       | 4,_=>rfl
       | 5,_=>rfl
       | 6,_=>rfl
       | 7,_=>rfl)
      rw[O]at this;rw[show 9+8*(v+1)=a+8 by omega];exact this)
     clear hN hP O;go_upto_region 24 with fail;refine wp_region_held_drew (S:=λc=>fO H c (.slice (some ⟨n,0,none⟩) 25 B) b) (by kernel_rfl) (e.2.1.aC (bB (aM _ none))) λd=>?_;replace e:=Zd<|e.grow (bB (aM wr none));generalize wr.drew=wd at *
     refine aV 0 d ?_;refine aV 1 d ?_;refine aV (hy:=by intro c k;go_simp;(first|done|rfl|(intro y;exfalso;omega))) (v:=.pointer (some ⟨n,a,none⟩)) 2 d ?_;refine aV (hy:=by intro c k;have K:c.cell? ⟨n,a,none⟩=some (I (aB b a)):=k.cell l.symm a (by rw[l.out];omega);go_simp;(try with_reducible rfl)) (v:=I (aB b a)) 3 d ?_;refine aV 4 d ?_;refine aV (hy:=by intro c k;go_simp;(first|done|rfl|(intro y;exfalso;omega))) (v:=.pointer (some ⟨n,a+1,none⟩)) 5 d ?_;refine aV (hy:=by intro c k;have K:c.cell? ⟨n,(a+1),none⟩=some (I (aB b (a+1))):=k.cell l.symm (a+1) (by rw[l.out];omega);go_simp;(try with_reducible rfl)) (v:=I (aB b (a+1))) 6 d ?_;refine aV 7 d ?_;refine aV (hy:=by intro c k;go_simp;(first|done|rfl|(intro y;exfalso;omega))) (v:=.pointer (some ⟨n,a+2,none⟩)) 8 d ?_;refine aV (hy:=by intro c k;have K:c.cell? ⟨n,(a+2),none⟩=some (I (aB b (a+2))):=k.cell l.symm (a+2) (by rw[l.out];omega);go_simp;(try with_reducible rfl)) (v:=I (aB b (a+2))) 9 d ?_;refine aV 10 d ?_;refine aV (hy:=by intro c k;go_simp;(first|done|rfl|(intro y;exfalso;omega))) (v:=.pointer (some ⟨n,a+3,none⟩)) 11 d ?_;refine aV (hy:=by intro c k;have K:c.cell? ⟨n,(a+3),none⟩=some (I (aB b (a+3))):=k.cell l.symm (a+3) (by rw[l.out];omega);go_simp;(try with_reducible rfl)) (v:=I (aB b (a+3))) 12 d ?_;refine aV 13 d ?_;refine aV (hy:=by intro c k;go_simp;(first|done|rfl|(intro y;exfalso;omega))) (v:=.pointer (some ⟨n,a+4,none⟩)) 14 d ?_;refine aV (hy:=by intro c k;have K:c.cell? ⟨n,(a+4),none⟩=some (I (aB b (a+4))):=k.cell l.symm (a+4) (by rw[l.out];omega);go_simp;(try with_reducible rfl)) (v:=I (aB b (a+4))) 15 d ?_;refine aV 16 d ?_;refine aV (hy:=by intro c k;go_simp;(first|done|rfl|(intro y;exfalso;omega))) (v:=.pointer (some ⟨n,a+5,none⟩)) 17 d ?_;refine aV (hy:=by intro c k;have K:c.cell? ⟨n,(a+5),none⟩=some (I (aB b (a+5))):=k.cell l.symm (a+5) (by rw[l.out];omega);go_simp;(try with_reducible rfl)) (v:=I (aB b (a+5))) 18 d ?_;refine aV (hy:=by intro c k;go_simp;(first|done|rfl|skip)) (v:=.agg #[I (aB b (a+2)),I (aB b (a+3)),I (aB b (a+4)),I (aB b (a+5))]) 19 d ?_;refine aV 20 d ?_;refine aV (hy:=by intro c k;go_simp;(first|done|rfl|(intro y;exfalso;omega))) (v:=.pointer (some ⟨n,a+6,none⟩)) 21 d ?_;refine aV (hy:=by intro c k;have K:c.cell? ⟨n,(a+6),none⟩=some (I (aB b (a+6))):=k.cell l.symm (a+6) (by rw[l.out];omega);go_simp;(try with_reducible rfl)) (v:=I (aB b (a+6))) 22 d ?_;refine aV 23 d ?_;refine aV (hy:=by intro c k;go_simp;(first|done|rfl|(intro y;exfalso;omega))) (v:=.pointer (some ⟨n,a+7,none⟩)) 24 d ?_;refine aV (hy:=by intro c k;have K:c.cell? ⟨n,(a+7),none⟩=some (I (aB b (a+7))):=k.cell l.symm (a+7) (by rw[l.out];omega);go_simp;(try with_reducible rfl)) (v:=I (aB b (a+7))) 25 d ?_;refine aV (hy:=by intro c k;go_simp;(first|done|rfl|skip)) (v:=.agg (aF [aB b a,aB b (a+1),aB b (a+2),aB b (a+3),aB b (a+4),aB b (a+5),aB b (a+6),aB b (a+7)])) 26 d ?_;refine aV 27 d ?_;refine aV (hy:=by intro c k;go_simp;(first|done|rfl|omega|skip)) (v:=.pointer (some ⟨bp,a,none⟩)) 28 d ?_;refine eU 29 λJ G=>?_;(try simp only[sZ]);refine Yu rfl 76 _ _ rfl bp a 79 r [aB b a,aB b (a+1),aB b (a+2),aB b (a+3),aB b (a+4),aB b (a+5),aB b (a+6),aB b (a+7)] rfl rfl e.1 (by rw[Q.out];simp;omega) Gy ?_;intro w9 b9 C;replace e:=Zd<|e.turn C b9 gO gO;refine G.out _ _ e.2.1 λd=>?_;clear G;(try simp only[sZ]);refine jX ?_;clear d;go_wp2_with fail;go_roundw
     case rel=>exact⟨v+1,_,by go_num,gO,P,e⟩
     case measure=>simp[intOf];omega
    obtain rfl:v=2:=gO;rw[show((2:Nat):Int)=2 from rfl]at *
    have a6:=af0 hP l;subst a6;have e:=Zd hN;clear hP hN;have Z:=Zd λwr o=>GP r l ao wr o;have PP:=Zd λwr=>PR r l ao wr;clear GP PR;rcases hgd:jC r with _|_
    .rw[hgd]at Z;go_wp2_with (first|refine lA e.1 (by rw[l.out];exact dS) ?_);refine(Z _ e.2.2.2).mono ?_;rintro u w9 ⟨rfl,C⟩;replace e:=Zd<|e.grow C;clear C Z;have d:=ER aa hgd;have O:=Zs (∀c,i.grownBy c none->AZ i j (.returned (.tuple #[.agg (aF m),I 2])) c) (λc o=>⟨by rw[d,vD j (by rw[d];omega),HZ.out],o⟩);have a:=bF (rs':=m) e.2.2.1 rfl;have w:=Zd e.2.2.1;have P:=Zd a.1;have Q:=Zd<|aG e.2.2.2 a.2 (Q6 _);clear a d e;go_wp2_with (first|refine sA m w rfl (by rw[s.out];exact dS) ?_);have Y:=kU P (by rw[s.out];exact dS);refine QB (v:=.tuple #[.agg (aF m),I 2]) ?_ rfl (O _ Q);simp[results,results33,asAddr,Act.put,Y]
    rw[hgd]at Z;go_wp2_with (first|refine lA e.1 (by rw[l.out];exact dS) ?_);refine(Z _ e.2.2.2).mono ?_;rintro u w9 ⟨rfl,C⟩;replace e:=Zd<|e.grow C;clear C Z;go_wp2_with (first|refine lA e.1 (by rw[l.out];exact dS) ?_);refine(PP _).mono ?_;rintro u bd ⟨rfl,ar⟩;replace e:=Zd<|e.grow ar;clear ar PP;by_cases ae:nE r=pB f
    .have hq:(pB f==nE r)=true:=beq_iff_eq.2 ae.symm;have d:=EK aa hgd ae;have O:=Zs (∀c,i.grownBy c none->AZ i j (.returned (.tuple #[.agg (aF r),I 0])) c) (λc o=>⟨by rw[EL.out d,d],o⟩);have a:=bF (rs':=r) e.2.2.1 (by rw[l.out,s.out]);have w:=Zd e.2.2.1;have P:=Zd a.1;have Q:=Zd<|aG e.2.2.2 a.2 (Q6 _);clear a d;generalize nE r=p1 at *
     generalize pB f=p2 at *
     go_wp2_with (first|refine lA e.1 (by rw[l.out];exact dS) ?_|refine sA r w (by rw[l.out,s.out]) (by rw[s.out];exact dS) ?_);have Y:=kU P (by rw[l.out];exact dS);refine QB (v:=.tuple #[.agg (aF r),I 0]) ?_ rfl (O _ Q);simp[results,results33,asAddr,Act.put,Y]
    have hq:(pB f==nE r)=false:=beq_eq_false_iff_ne.2 (λu=>ae u.symm);have d:=EP aa hgd ae;have O:=Zs (∀c,i.grownBy c none->AZ i j (.returned (.tuple #[.agg (aF m),I 3])) c) (λc o=>⟨by rw[d,vD j (by rw[d];omega),HZ.out],o⟩);have a:=bF (rs':=m) e.2.2.1 rfl;have w:=Zd e.2.2.1;have P:=Zd a.1;have Q:=Zd<|aG e.2.2.2 a.2 (Q6 _);clear a d e;generalize nE r=p1 at *
    generalize pB f=p2 at *
    go_wp2_with (first|refine sA m w rfl (by rw[s.out];exact dS) ?_);have Y:=kU P (by rw[s.out];exact dS);refine QB (v:=.tuple #[.agg (aF m),I 3]) ?_ rfl (O _ Q);simp[results,results33,asAddr,Act.put,Y]
  rw[X9 aa,X9 (show ¬f % 32<0 by omega)]at R;have d:=EF aa;have O:=Zs (∀c,i.grownBy c none->AZ i j (.returned (.tuple #[.agg (aF m),I 3])) c) (λc o=>⟨by rw[d,vD j (by rw[d];omega),HZ.out],o⟩);have a:=bF (rs':=m) p.2.2.2.2.1 rfl;have w:=Zd p.2.2.2.2.1;have P:=Zd a.1;have Q:=Zd<|aG p.2.2.2.2.2.1 a.2 (Q6 _);clear a d p;go_wp2_with fail;refine R.mono ?_;rintro u F ⟨rfl,rfl⟩;clear R;go_wp2_with (first|refine sA m w rfl (by rw[s.out];exact dS) ?_);have Y:=kU P (by rw[s.out];exact dS);refine QB (v:=.tuple #[.agg (aF m),I 3]) ?_ rfl (O _ Q);simp[results,results33,asAddr,Act.put,Y]
def Qr (c:V)(a:L)(b:W)(e:jI b c a)(h:yP a)(k:a.length<=1000000000000000000)(f:Addr)(g:Nat)(j:TabS b 1 f g Bc 8):Calls prog 33 #[c] b (AZ b a):=by
 by_cases d:a.length=15
 .by_cases i:qJ a 14=aB a 14
  .exact Ns c a b e h d i f g j
  exact Qq c a b e h d i
 exact Nr c a b e d k

def tabS_of {h:Type}{r:TypeId×Value->h}{W:World}{x:Nat->Bool}{q:String}{e:Array Value}{w:List MemPlace}
 (u:prog.globalNamed q=some k) (g:W.var? prog q=some e) (f:DataW.trod r prog W n x s b 26 e.toList=some (.slice (l.map λa=>.lit (.int .i64 a)) [],w)) :
 ∃c d,TabS W k c d l l.length:=by
 have⟨c,d,p,o,t⟩:=open_row underlying26 (show prog.cellsOf 3=1 by kernel_rfl) f;have i:=World.var?_cell u g 0;have⟨y⟩:=e;simp only at p;subst p;rw[GK]at i o;refine⟨c,d,i,o,λc d=>?_⟩;have f:(l.map λa=>(.lit (.int .i64 a):DataW h))[c]?=some (.lit (.int .i64 (l.getD c 0))):=by
  rw[List.getElem?_map,List.getD_eq_getElem?_getD,KM d];rfl
 have⟨C,z,B,g,v⟩:=t c _ f;have⟨a,j,m,_⟩:=DataW.trod_int underlying3 v;rw[g];simp at j m;rw[j,List.getD_eq_getElem?_getD,m.1]
def tabA_of {d:Type}{f:TypeId×Value->d}{W:World}{r:Nat->Bool}{a:String}{c:Array Value}{q:List MemPlace}
 (i:prog.globalNamed a=some k) (o:W.var? prog a=some c) (m:prog.underlying T=some (.array j 3)) (g:prog.cellsOf T=j) (h:DataW.trod f prog W n r s b T c.toList=some (Lib.tabData .i64 l,q)) :
 TabA W k l l.length:=λd c=>by
 have e:=Lib.cells_of_tab m underlying3 (show prog.cellsOf 3=1 by kernel_rfl) g h;have p:Lib.TabIs prog W a .i64 l:=by unfold Lib.TabIs;rw[o,<-e]
 exact p.cell i d c
end Go.Proofs.YtmpfdogdinhhcaaGreatDoor
