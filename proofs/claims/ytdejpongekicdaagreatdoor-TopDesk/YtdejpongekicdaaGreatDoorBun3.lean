/- Texts put together: PulI, Dual, Pow, GaiA, PlyS, PkpA, PkpMath, PkpB, PkpC, PkpE, LpcE, Better, BetterB, BtrG, PitB, PitC. -/
import Derived.Test.YtdejpongekicdaaGreatDoorBun2
import Derived.BigQuiet
import Derived.Deep.QuietTactic
import Derived.Test.YtdejpongekicdaaGreatDoorProg
import Derived.Test.YtdejpongekicdaaGreatDoorBun1
import Derived.WalkKit
import Derived.WalkSpells
import Derived.WalkLawsBesides
import Derived.RowKit3
import Derived.Laws.OwnMore
import Derived.Deep.Cut
import Derived.Laws.BitsAllLaws
import Derived.Laws.Bits128
import Derived.Laws.Externs
import Derived.Shelf.Bits.Mul64
/- PulI -/
namespace Go.Proofs.YtdejpongekicdaaGreatDoor
open Go.RowKit
set_option linter.unusedVariables false
set_option linter.unusedSimpArgs false
set_option maxHeartbeats 1000000
theorem and1F:∀q:Fin 16,bits BinOp.and IntKind.i64 (q.val:Int) 1=(q.val:Int) % 2:=by decide +kernel
theorem div_small (s:Int)(m:Nat)(h0:0≤s)(h1:s≤15):(s / 2^m % 2=1∧bits BinOp.and IntKind.i64 (s / 2^m) 1=1)∨(¬s / 2^m % 2=1∧bits BinOp.and IntKind.i64 (s / 2^m) 1=0):=by
 have hp:(1:Int)≤2^m:=Int.pow_pos (by omega)
 have a1:0≤s / 2^m:=Int.ediv_nonneg h0 (by omega)
 have a2:s / 2^m≤s:=Int.ediv_le_self _ h0
 generalize s / 2^m=q at *
 have:=and1F ⟨q.toNat,by omega⟩
 simp only at this
 rw[show((q.toNat:Nat):Int)=q by omega]at this
 by_cases h:q % 2=1
 ·exact .inl ⟨h,by rw[this,h]⟩
 ·exact .inr ⟨h,by rw[this];omega⟩
set_option maxRecDepth 100000 in
theorem pulBuild_no (x:List Int)(hx:x.length=4)(s z:Int)(h:¬((0≤s∧s≤15)∧(0≤z∧z≤32767)∧goodX x=true))(w:World) :
  Calls Tryz.prog 158 #[.agg (arrI x),.int .i64 s,.int .i64 z] w (ListE w [] 2):=by
 have B0:=hide (Blk.new w 77 x)
 have G0:=hide (grown_alloc w (.cells (arrI x) 77) none)
 have PC:=hide (pulPlaces_any x hx)
 have WS:=hide (pulWithin_any s 0 15)
 have WZ:=hide (pulWithin_any z 0 32767)
 by_cases h1:0≤s∧s≤15
 ·rw[decide_eq_true h1]at WS
  by_cases h2:0≤z∧z≤32767
  ·have hg:goodX x=false:=by
    rcases hb:goodX x with _|_
    ·rfl
    ·exact absurd ⟨h1,h2,hb⟩ h
   rw[decide_eq_true h2]at WZ
   rw[hg]at PC
   clear h h1 h2 hg
   go_enter Tryz.func158,Tryz.ntmps158
   go_upto_region 1 with fail
   generalize w.alloc _=W1 at *
   go_wp2_with fail
   refine(WS.out W1).mono ?_
   rintro e w1 ⟨rfl,rfl⟩
   clear WS
   go_wp2_with fail
   refine(WZ.out w1).mono ?_
   rintro e w2 ⟨rfl,rfl⟩
   clear WZ
   go_wp2_with (first|refine wpList_load_arrG (by rfl) 77 _ rfl _ rfl _ B0.out _ Tryz.underlying77 rfl (by rw[hx];exact size4) ?_)
   refine(PC.out w2).mono ?_
   rintro e w3 ⟨rfl,g3⟩
   have GF:=hide (grown_none G0.out g3)
   clear PC g3 B0 G0
   go_wp2_with fail
   go_ret2
   exact⟨_,rfl,Own_nil _ _,GF.out⟩
  ·rw[decide_eq_false h2]at WZ
   clear h h1 h2 PC
   go_enter Tryz.func158,Tryz.ntmps158
   go_upto_region 1 with fail
   generalize w.alloc _=W1 at *
   go_wp2_with fail
   refine(WS.out W1).mono ?_
   rintro e w1 ⟨rfl,rfl⟩
   clear WS
   go_wp2_with fail
   refine(WZ.out w1).mono ?_
   rintro e w2 ⟨rfl,rfl⟩
   clear WZ B0
   go_wp2_with fail
   go_ret2
   exact⟨_,rfl,Own_nil _ _,G0.out⟩
 ·rw[decide_eq_false h1]at WS
  clear h h1 PC WZ
  go_enter Tryz.func158,Tryz.ntmps158
  go_upto_region 1 with fail
  generalize w.alloc _=W1 at *
  go_wp2_with fail
  refine(WS.out W1).mono ?_
  rintro e w1 ⟨rfl,rfl⟩
  clear WS B0
  go_wp2_with fail
  go_ret2
  exact⟨_,rfl,Own_nil _ _,G0.out⟩
set_option maxRecDepth 100000 in
theorem pulBuild_yes (x:List Int)(hx:x.length=4)(s z:Int)(h:(0≤s∧s≤15)∧(0≤z∧z≤32767)∧goodX x=true)(w:World) :
  Calls Tryz.prog 158 #[.agg (arrI x),.int .i64 s,.int .i64 z] w (ListE w (tab 40 (blN x s z)) 0):=by
 have B0:=hide (Blk.new w 77 x)
 have G0:=hide (grown_alloc w (.cells (arrI x) 77) none)
 have PC:=hide (pulPlaces_any x hx)
 have WS:=hide (pulWithin_any s 0 15)
 have WZ:=hide (pulWithin_any z 0 32767)
 obtain⟨h1,h2,hg⟩:=h
 rw[decide_eq_true h1]at WS
 rw[decide_eq_true h2]at WZ
 rw[hg]at PC
 have hmk:=make_zeros 40 (by omega)
 rw[show((40:Nat):Int)=40 from rfl]at hmk
 have HG:=hide hg
 have HX:=hide hx
 have IX:=hide (fun(k:Nat) (hk:k<4)=>index_arr x Tryz.underlying77 k (by omega) hx)
 obtain⟨s1,s2⟩:=h1
 obtain⟨z1,z2⟩:=h2
 clear hg
 go_enter Tryz.func158,Tryz.ntmps158
 go_upto_region 1 with fail
 generalize w.alloc _=W1 at *
 go_wp2_with fail
 refine(WS.out W1).mono ?_
 rintro e w1 ⟨rfl,rfl⟩
 clear WS
 go_wp2_with fail
 refine(WZ.out w1).mono ?_
 rintro e w2 ⟨rfl,rfl⟩
 clear WZ
 go_wp2_with (first|refine wpList_load_arrG (by rfl) 77 _ rfl _ rfl _ B0.out _ Tryz.underlying77 rfl (by rw[hx];exact size4) ?_)
 refine(PC.out w2).mono ?_
 rintro e w3 ⟨rfl,g3⟩
 have ga:=grown_alloc w3 (.cells (arrI (zeros 40)) 3) none
 have M0:=hide (show Blk (w3.alloc (.cells (arrI (zeros 40)) 3)) w3.heap.size 3 (zeros 40)∧w.heap.size≤w3.heap.size∧w.grownBy (w3.alloc (.cells (arrI (zeros 40)) 3)) none from⟨Blk.new w3 _ _,Nat.le_trans G0.out.size g3.size,grown_none (grown_none G0.out g3) ga⟩)
 have BX:=hide ((B0.out.keep g3).keep ga)
 clear PC g3 B0 G0 ga
 go_upto_region 4 with fail
 generalize w3.alloc _=W4 at *
 generalize w3.heap.size=B at *
 clear hmk
 go_wp2_with (first|refine wpList_load_arr rfl 77 _ rfl _ rfl _ BX.out _ Tryz.underlying77 rfl (by rw[hx];exact size4) ?_)
 clear BX
 go_loopw [27] (fun i wr=>∃(m:Nat) (rs:List Int),i=.int .i64 m∧m≤4∧Hid (FillB x s z m rs)∧Hid (Blk wr B 3 rs∧w.heap.size≤B∧w.grownBy wr none)) (fun i _=>4-(intOf i).toNat)
 case atStart=>exact⟨0,zeros 40,rfl,Nat.zero_le _,fillB_start x s z,M0.out⟩
 case round=>
  obtain⟨m,rs,rfl,hm,hF,hM⟩:=hrel
  clear M0
  by_cases hm4:m<4
  ·have hix:=IX.out m hm4
   have i1:(m:Int)<4:=by omega
   have hPL:=psN_lt HG.out HX.out m hm4
   obtain⟨g1,g2⟩:=(goodX_iff x).1 HG.out m (by omega)
   have AT:=hide (pulAt_any (m:Int) (nth x m) (by omega) (by omega) g1 g2 wr)
   rw[show(m:Int)+4*nth x m=((psN x m:Nat):Int) by unfold psN;omega]at AT
   have NF:=hide (fillB_step HG.out HX.out hm4 hF.out)
   have rl:=hF.out.1
   have cd:=hM.out.1.cell (psN x m) (by omega)
   have fd:=hM.out.1.free (psN x m)
   have gs:=grown_setCell wr ⟨B,psN x m,none⟩ (.int .i64 (blV s z m))
   have NM:=hide (show Blk (wr.setCell ⟨B,psN x m,none⟩ (.int .i64 (blV s z m))) B 3 (rs.set (psN x m) (blV s z m))∧w.heap.size≤B∧w.grownBy (wr.setCell ⟨B,psN x m,none⟩ (.int .i64 (blV s z m))) none from⟨hM.out.1.set _ _,hM.out.2.1,grown_own hM.out.2.2 gs hM.out.2.1⟩)
   have QB:=hide (div_small s m s1 s2)
   have EV:=hide (show blV s z m=if s / 2^m % 2=1 then z else -z from rfl)
   have i2:((psN x m:Nat):Int)<40:=by omega
   clear hF hM gs rl g1 g2
   generalize psN x m=P at *
   generalize nth x m=pl at *
   generalize nth rs P=q at *
   generalize blV s z m=V at *
   rcases QB.out with⟨hq,hb⟩|⟨hq,hb⟩
   ·have HV:=hide (show V=z by rw[EV.out,if_pos hq])
    clear hq EV QB
    go_wp2_with fail
    refine AT.out.mono ?_
    rintro e wy ⟨rfl,rfl⟩
    clear AT hb
    rw[HV.out]at NF NM
    go_wp2_with fail
    go_roundw
    case rel=>exact⟨m+1,_,by go_num,by omega,NF.out,NM.out⟩
    case measure=>simp[intOf];omega
   ·have HV:=hide (show V=-z by rw[EV.out,if_neg hq])
    clear hq EV QB
    go_wp2_with fail
    refine AT.out.mono ?_
    rintro e wy ⟨rfl,rfl⟩
    clear AT hb
    rw[HV.out]at NF NM
    go_wp2_with fail
    go_roundw
    case rel=>exact⟨m+1,_,by go_num,by omega,NF.out,NM.out⟩
    case measure=>simp[intOf];omega
  ·obtain rfl:m=4:=by omega
   have rl:=hF.out.1
   have OF:=own_blk (base:=w.heap.size) hM.out.1 hM.out.2.1 (by omega)
   rw[rl,fillB_all hF.out]at OF
   have OO:=hide OF
   have GF:=hide hM.out.2.2
   clear hF hM rl OF
   rw[show((4:Nat):Int)=4 from rfl]
   go_wp2_with fail
   go_ret2
   exact⟨_,rfl,OO.out,GF.out⟩
theorem pulBuild_any (x:List Int)(hx:x.length=4)(s z:Int)(w:World):Calls Tryz.prog 158 #[.agg (arrI x),.int .i64 s,.int .i64 z] w (ListE w (blL x s z) (blE x s z)):=by
 by_cases h:(0≤s∧s≤15)∧(0≤z∧z≤32767)∧goodX x=true
 ·obtain⟨e1,e2⟩:=blL_yes h
  rw[e1,e2]
  exact pulBuild_yes x hx s z h w
 ·obtain⟨e1,e2⟩:=blL_no h
  rw[e1,e2]
  exact pulBuild_no x hx s z h w
theorem tgE_cases (t r:List Int):(¬(t.length=40∧r.length=40)∧tgE t r=1∧tgV t r=[])∨((t.length=40∧r.length=40)∧rightB t=false∧tgE t r=2∧tgV t r=[])∨((t.length=40∧r.length=40)∧rightB t=true∧rightB r=false∧tgE t r=2∧tgV t r=[])∨((t.length=40∧r.length=40)∧rightB t=true∧rightB r=true∧tgE t r=0∧tgV t r=tgL t r):=by
 by_cases h:t.length=40∧r.length=40
 ·rcases ht:rightB t with _|_
  ·exact .inr (.inl ⟨h,rfl,by unfold tgE;rw[if_pos h,ht];rfl,by unfold tgV;rw[if_neg (by rw[ht];simp)]⟩)
  ·rcases hr:rightB r with _|_
   ·exact .inr (.inr (.inl ⟨h,rfl,rfl,by unfold tgE;rw[if_pos h,ht,hr];rfl,by unfold tgV;rw[if_neg (by rw[ht,hr];simp)]⟩))
   ·exact .inr (.inr (.inr ⟨h,rfl,rfl,by unfold tgE;rw[if_pos h,ht,hr];rfl,by unfold tgV;rw[if_pos (by rw[ht,hr];exact⟨h.1,h.2,rfl⟩)]⟩))
 ·exact .inl ⟨h,if_neg h,by unfold tgV;rw[if_neg (fun x=>h ⟨x.1,x.2.1⟩)]⟩
theorem right_dropP {t:List Int}(h:rightB t=true)(n:Nat):rightB (t.drop n)=true:=by
 rw[rightB_iff]
 intro i hi
 rw[nth_drop]
 exact nth_in _ _ _ (by omega) (by omega) ((rightB_iff t).1 h) _
set_option maxRecDepth 100000 in
theorem pulTarget_any (vt vr:Value)(t r:List Int)(w:World)(ht:Ints w vt t)(hr:Ints w vr r)(hs:Shp vt t)(hl:t.length≤1000000000000000000)(hl2:r.length≤1000000000000000000) :
  Calls Tryz.prog 156 #[vt,vr] w (ListE w (tgV t r) (tgE t r)):=by
 rcases tgE_cases t r with⟨h,e1,e2⟩|⟨h,h1,e1,e2⟩|⟨h,h1,h2,e1,e2⟩|⟨h,h1,h2,e1,e2⟩
 ·rw[e1,e2]
  clear e1 e2 hs
  obtain⟨at',ct,rfl,_,_⟩:=ht
  obtain⟨ar,cr,rfl,_,_⟩:=hr
  generalize t.length=nt at *
  generalize r.length=nr at *
  by_cases q1:nt=40
  ·have b2:((nr:Int) != 40)=true:=by simp;omega
   subst q1
   clear h
   go_enter Tryz.func156,Tryz.ntmps156
   go_wp2_with fail
   go_ret2
   exact⟨_,rfl,Own_nil _ _,grown_refl _ _⟩
  ·have b1:((nt:Int) != 40)=true:=by simp;omega
   clear h q1
   go_enter Tryz.func156,Tryz.ntmps156
   go_wp2_with fail
   go_ret2
   exact⟨_,rfl,Own_nil _ _,grown_refl _ _⟩
 ·rw[e1,e2]
  have ST:=hide (pulSamples_any vt t w ht hl)
  rw[h1]at ST
  clear e1 e2 hs h1
  obtain⟨at',ct,rfl,_,_⟩:=ht
  obtain⟨ar,cr,rfl,_,_⟩:=hr
  rw[h.1]at ST
  rw[h.1,h.2]
  clear h hl hl2
  go_enter Tryz.func156,Tryz.ntmps156
  go_wp2_with fail
  refine ST.out.mono ?_
  rintro e w1 ⟨rfl,rfl⟩
  clear ST
  go_wp2_with fail
  go_ret2
  exact⟨_,rfl,Own_nil _ _,grown_refl _ _⟩
 ·rw[e1,e2]
  have ST:=hide (pulSamples_any vt t w ht hl)
  have SR:=hide (pulSamples_any vr r w hr hl2)
  rw[h1]at ST
  rw[h2]at SR
  clear e1 e2 hs h1 h2
  obtain⟨at',ct,rfl,_,_⟩:=ht
  obtain⟨ar,cr,rfl,_,_⟩:=hr
  rw[h.1]at ST
  rw[h.2]at SR
  rw[h.1,h.2]
  clear h hl hl2
  go_enter Tryz.func156,Tryz.ntmps156
  go_wp2_with fail
  refine ST.out.mono ?_
  rintro e w1 ⟨rfl,rfl⟩
  clear ST
  go_wp2_with fail
  refine SR.out.mono ?_
  rintro e w2 ⟨rfl,rfl⟩
  clear SR
  go_wp2_with fail
  go_ret2
  exact⟨_,rfl,Own_nil _ _,grown_refl _ _⟩
 ·rw[e1,e2]
  have ST:=hide (pulSamples_any vt t w ht hl)
  have SR:=hide (pulSamples_any vr r w hr hl2)
  have SL:=hide (fun(k:Nat) (hk:k≤40)=>slice_l ht hs k (by omega))
  have PR:=hide (fun(k:Nat) (hk:k≤40) W (g:w.grownBy W none) (vB:Value) (iv:Ints w vB (t.drop k))=>pulProduct_any vB vr (t.drop k) r W (Ints_keep iv g) (Ints_keep hr g) (by rw[List.length_drop];omega) (by rw[List.length_drop];omega) (right_dropP h1 k) h2)
  have EP:=hide (fun(k:Nat) (hk:k≤40)=>(show dotS (t.drop k) r (t.drop k).length=tgN t r k by rw[List.length_drop,h.1];exact tgN_drop t r h2 k hk))
  rw[h1]at ST
  rw[h2]at SR
  clear e1 e2 hs h1 h2
  obtain⟨at',ct,rfl,_,_⟩:=ht
  obtain⟨ar,cr,rfl,_,_⟩:=hr
  rw[h.1]at ST SL
  rw[h.2]at SR PR
  rw[h.1,h.2]
  clear h hl hl2
  have hmk:=make_zeros 40 (by omega)
  rw[show((40:Nat):Int)=40 from rfl]at hmk
  have M0:=hide (show Blk (w.alloc (.cells (arrI (zeros 40)) 3)) w.heap.size 3 (zeros 40)∧w.grownBy (w.alloc (.cells (arrI (zeros 40)) 3)) none from⟨Blk.new w 3 (zeros 40),grown_alloc _ _ none⟩)
  go_enter Tryz.func156,Tryz.ntmps156
  go_wp2_with fail
  refine ST.out.mono ?_
  rintro e w1 ⟨rfl,rfl⟩
  clear ST
  go_wp2_with fail
  refine SR.out.mono ?_
  rintro e w2 ⟨rfl,rfl⟩
  clear SR
  go_wp2_with fail
  clear hmk
  generalize w2.alloc _=W0 at *
  go_loopw [27] (fun i wr=>∃(m:Nat) (rs:List Int),i=.int .i64 m∧m≤40∧Hid (FillN 40 (tgN t r) m rs)∧Hid (Blk wr w2.heap.size 3 rs∧w2.grownBy wr none)) (fun i _=>40-(intOf i).toNat)
  case atStart=>exact⟨0,zeros 40,rfl,Nat.zero_le _,fillN_start 40 _,M0.out⟩
  case round=>
   obtain⟨m,rs,rfl,hm,hF,hM⟩:=hrel
   clear M0
   by_cases hm40:m<40
   ·have hlen:rs.length=40:=hF.out.1
    obtain⟨vB,hsl,iv,_⟩:=SL.out m hm
    have P1:=hide (PR.out m hm wr hM.out.2 vB iv)
    rw[EP.out m hm]at P1
    have cd:=hM.out.1.cell m (by omega)
    have fd:=hM.out.1.free m
    have NF:=hide (fillN_step hF.out hm40)
    have NM:=hide (show Blk (wr.setCell ⟨w2.heap.size,m,none⟩ (.int .i64 (tgN t r m))) w2.heap.size 3 (rs.set m (tgN t r m))∧w2.grownBy (wr.setCell ⟨w2.heap.size,m,none⟩ (.int .i64 (tgN t r m))) none from⟨hM.out.1.set m _,grown_own hM.out.2 (grown_setCell wr ⟨w2.heap.size,m,none⟩ _) (Nat.le_refl _)⟩)
    have i1:(m:Int)<40:=by omega
    clear hF hM hlen SL PR EP iv
    generalize tgN t r m=z at *
    generalize nth rs m=q at *
    go_wp2_with fail
    refine P1.out.mono ?_
    rintro e wy ⟨rfl,rfl⟩
    clear P1 hsl
    go_wp2_with fail
    go_roundw
    case rel=>exact⟨m+1,_,by go_num,by omega,NF.out,NM.out⟩
    case measure=>simp[intOf];omega
   ·obtain rfl:m=40:=by omega
    have hlen:rs.length=40:=hF.out.1
    have OF:=own_blk (base:=w2.heap.size) hM.out.1 (Nat.le_refl _) (by omega)
    rw[hlen,show rs=tgL t r from fillN_all hF.out]at OF
    have OO:=hide OF
    have GF:=hide hM.out.2
    clear hF hM OF SL PR EP hlen
    rw[show((40:Nat):Int)=40 from rfl]
    go_wp2_with fail
    go_ret2
    exact⟨_,rfl,OO.out,GF.out⟩
end Go.Proofs.YtdejpongekicdaaGreatDoor

/- Dual -/
namespace Go.Proofs.YtdejpongekicdaaGreatDoor
open Go.RowKit
set_option maxHeartbeats 400000
theorem within_yes (x l m:Int)(h1:l≤x)(h2:x≤m)(w:World) :
  Calls Tryz.prog 259 #[.int .i64 x,.int .i64 l,.int .i64 m] w fun e w'=>e=.returned (.bool true)∧w'=w:=by
 go_enter Tryz.func259,Tryz.ntmps259
 go_wp2
 go_ret
 exact⟨rfl,rfl⟩
end Go.Proofs.YtdejpongekicdaaGreatDoor

/- Pow -/
namespace Go.Proofs.YtdejpongekicdaaGreatDoor
open Go.RowKit
set_option maxHeartbeats 1000000
theorem wrap_i64_at (n:Int)(h0:0≤n)(h1:n<9223372036854775808):IntKind.i64.wrap n=n:=by
 have e:n % 2^64=n:=Int.emod_eq_of_lt (by omega) (by omega)
 simp only[IntKind.wrap,IntKind.bits,IntKind.signed,e]
 rw[if_neg (by simp;omega)]
theorem and_low1 (x:Int):bits .and .i64 x 1=x % 2:=by
 show IntKind.i64.wrap ((BitVec.ofInt 64 x &&& BitVec.ofInt 64 1).toNat:Int)=_
 rw[BitVec.toNat_and,BitVec.toNat_ofInt,show(BitVec.ofInt 64 1).toNat=2^1-1 by decide,Nat.and_two_pow_sub_one_eq_mod]
 rw[wrap_i64_at _ (by omega) (by omega)]
 omega
def groV:Value:=.agg #[.int .i64 444758425,.int .i64 203159592,.int .i64 97181937,.int .i64 47538611,.int .i64 23511884,.int .i64 11692281,.int .i64 5830311,.int .i64 2911209,.int .i64 1454619,.int .i64 727063,.int .i64 363470,.int .i64 181719,.int .i64 90856,.int .i64 45427,.int .i64 22713]
theorem index_gro (k:Nat)(hk:k<15)(w:World):Sem.run Tryz.prog (Instr.index 255 groV (.int .i64 k)) w=.ok (.int .i64 (groAt k)) w:=by
 have h:k=0∨k=1∨k=2∨k=3∨k=4∨k=5∨k=6∨k=7∨k=8∨k=9∨k=10∨k=11∨k=12∨k=13∨k=14:=by omega
 rcases h with rfl|rfl|rfl|rfl|rfl|rfl|rfl|rfl|rfl|rfl|rfl|rfl|rfl|rfl|rfl
 all_goals simp[Instr.index,go_sem,groV,groAt,gro]
theorem groAt_bd (k:Nat)(h:k<15):0≤groAt k∧groAt k≤444758425:=by
 have:∀k:Fin 15,0≤groAt k.val∧groAt k.val≤444758425:=by decide
 exact this ⟨k,h⟩
theorem up_bd (x r:Int)(h1:1073741824≤x)(h2:x≤2147438200)(h3:0≤r)(h4:r≤444758425):0≤x*r∧x*r≤955091231616835000:=by
 have e1:=Int.mul_le_mul h2 h4 h3 (by decide)
 exact⟨Int.mul_nonneg (by omega) h3,by omega⟩
def Grows (w:World):Prop:=∀i,i<15→w.cell? ⟨5,i,none⟩=some (.int .i64 (groAt i))
set_option maxRecDepth 100000 in
theorem pow_yes (n:Nat)(f:Int)(hn:n≤30)(h1:0≤f)(h2:f≤32767)(w:World)(hG:Grows w) :
  Calls Tryz.prog 234 #[.int .i64 n,.int .i64 f] w fun e w'=>e=.returned (.tuple #[.int .i64 (powN n f),.int .i64 0])∧w'=w:=by
 have c0:w.cell? ⟨5,0,none⟩=some (.int .i64 444758425):=hG 0 (by omega)
 have c1:w.cell? ⟨5,1,none⟩=some (.int .i64 203159592):=hG 1 (by omega)
 have c2:w.cell? ⟨5,2,none⟩=some (.int .i64 97181937):=hG 2 (by omega)
 have c3:w.cell? ⟨5,3,none⟩=some (.int .i64 47538611):=hG 3 (by omega)
 have c4:w.cell? ⟨5,4,none⟩=some (.int .i64 23511884):=hG 4 (by omega)
 have c5:w.cell? ⟨5,5,none⟩=some (.int .i64 11692281):=hG 5 (by omega)
 have c6:w.cell? ⟨5,6,none⟩=some (.int .i64 5830311):=hG 6 (by omega)
 have c7:w.cell? ⟨5,7,none⟩=some (.int .i64 2911209):=hG 7 (by omega)
 have c8:w.cell? ⟨5,8,none⟩=some (.int .i64 1454619):=hG 8 (by omega)
 have c9:w.cell? ⟨5,9,none⟩=some (.int .i64 727063):=hG 9 (by omega)
 have c10:w.cell? ⟨5,10,none⟩=some (.int .i64 363470):=hG 10 (by omega)
 have c11:w.cell? ⟨5,11,none⟩=some (.int .i64 181719):=hG 11 (by omega)
 have c12:w.cell? ⟨5,12,none⟩=some (.int .i64 90856):=hG 12 (by omega)
 have c13:w.cell? ⟨5,13,none⟩=some (.int .i64 45427):=hG 13 (by omega)
 have c14:w.cell? ⟨5,14,none⟩=some (.int .i64 22713):=hG 14 (by omega)
 clear hG
 go_enter Tryz.func234,Tryz.ntmps234
 go_wp2_with fail
 refine(within_yes _ _ _ (by omega) (by omega) _).mono ?_
 rintro e w1 ⟨rfl,rfl⟩
 go_wp2_with fail
 refine(within_yes _ _ _ h1 h2 _).mono ?_
 rintro e w1 ⟨rfl,rfl⟩
 go_wp2_with fail
 have IX:=hide index_gro
 have eV:(.agg #[.int .i64 444758425,.int .i64 203159592,.int .i64 97181937,.int .i64 47538611,.int .i64 23511884,.int .i64 11692281,.int .i64 5830311,.int .i64 2911209,.int .i64 1454619,.int .i64 727063,.int .i64 363470,.int .i64 181719,.int .i64 90856,.int .i64 45427,.int .i64 22713]:Value)=groV:=rfl
 rw[eV]
 clear eV
 clear c0 c1 c2 c3 c4 c5 c6 c7 c8 c9 c10 c11 c12 c13 c14
 generalize groV=V at *
 have HB:=hide (pw_most f)
 have HN:=hide (powN_ge n f hn)
 go_loop [6,18] (fun x i=>∃k:Nat,i=.int .i64 k∧x=.int .i64 (pw f k)∧k≤15) (fun _ i=>15-(intOf i).toNat)
 case atStart=>exact⟨0,rfl,rfl,by omega⟩
 case round=>
  obtain⟨k,rfl,rfl,hk⟩:=hrel
  by_cases hk':k=15
  ·subst hk'
   have x1:=(HN.out).2.2
   have HP:=hide (show powN n f=pw f 15 / 2^(30-n)from rfl)
   rw[HP.out]at x1
   generalize pw f 15=x at *
   go_wp2_with fail
   go_ret2
   exact⟨by rw[HP.out];rfl,rfl⟩
  ·have ix:=IX.out k (by omega) w1
   obtain⟨x1,x2⟩:=HB.out k hk
   obtain⟨r1,r2⟩:=groAt_bd k (by omega)
   obtain⟨m1,m2⟩:=up_bd _ _ x1 x2 r1 r2
   obtain⟨y1,y2⟩:=HB.out (k+1) (by omega)
   have b:=and_low1 (f / 2^(14-k))
   by_cases hb:powBit f k=1
   ·have e:=hide (show pw f (k+1)=pw f k+pw f k*groAt k / 1073741824 by show(if powBit f k=1 then _ else _)=_;rw[if_pos hb];rfl)
    rw[e.out]at y1 y2
    rw[show f / 2^(14-k) % 2=powBit f k from rfl,hb]at b
    have E:pw f (k+1)=pw f k+pw f k*groAt k / 1073741824:=e.out
    have E':=hide E
    clear E e hb IX HN HB
    generalize pw f k=x at *
    generalize groAt k=r at *
    go_wp2_with fail
    go_round
    case rel=>exact⟨k+1,by go_num,by rw[E'.out],by omega⟩
    case measure=>simp[intOf];omega
   ·have e:=hide (show pw f (k+1)=pw f k by show(if powBit f k=1 then _ else _)=_;rw[if_neg hb])
    have hb0:powBit f k=0:=by
     unfold powBit at *
     omega
    rw[show f / 2^(14-k) % 2=powBit f k from rfl,hb0]at b
    clear hb hb0 IX HN HB y1 y2
    generalize pw f k=x at *
    generalize groAt k=r at *
    go_wp2_with fail
    go_round
    case rel=>exact⟨k+1,by go_num,by rw[e.out],by omega⟩
    case measure=>simp[intOf];omega
end Go.Proofs.YtdejpongekicdaaGreatDoor

/- GaiA -/
namespace Go.Proofs.YtdejpongekicdaaGreatDoor
open Go.RowKit
set_option linter.unusedVariables false
set_option linter.unusedSimpArgs false
set_option maxHeartbeats 1000000
theorem gaiLevel_any (n:Int)(w:World)(hG:Grows w):Calls Tryz.prog 162 #[.int .i64 n] w fun e w'=>e=.returned (.tuple #[.int .i64 (glV n),.int .i64 (glE n)])∧w'=w:=by
 by_cases h:0≤n∧n≤31
 ·obtain⟨k,rfl⟩:∃k:Nat,n=(k:Int):=⟨n.toNat,by omega⟩
  have hk:k≤31:=by omega
  rw[(glV_nat k hk).1,(glV_nat k hk).2]
  have P:=hide (pow_yes (3+3*k / 8) ((3*k % 8*4096:Nat):Int) (by omega) (by omega) (by omega) w hG)
  rw[gsz_pow k (by omega)]at P
  have e1:(3*(k:Int)).tdiv 8=((3*k / 8:Nat):Int):=by rw[Int.tdiv_eq_ediv_of_nonneg (by omega)];omega
  have e2:(3*(k:Int)) / 8=((3*k / 8:Nat):Int):=by omega
  have e3:(3*(k:Int)).tmod 8=((3*k % 8:Nat):Int):=by rw[Int.tmod_eq_emod_of_nonneg (by omega)];omega
  have e4:(3*(k:Int)) % 8=((3*k % 8:Nat):Int):=by omega
  rw[show((3+3*k / 8:Nat):Int)=3+((3*k / 8:Nat):Int) by omega,show((3*k % 8*4096:Nat):Int)=((3*k % 8:Nat):Int)*4096 by omega]at P
  have b1:3*k / 8≤11:=by omega
  have b2:3*k % 8≤7:=by omega
  generalize 3*k / 8=q at *
  generalize 3*k % 8=r at *
  generalize gszN k=z at *
  have c1:(q:Int)≤11:=by omega
  have c2:(r:Int)≤7:=by omega
  have c3:(k:Int)≤31:=by omega
  clear hG h b1 b2
  go_enter Tryz.func162,Tryz.ntmps162
  go_wp2_with fail
  refine P.out.mono ?_
  rintro e w1 ⟨rfl,rfl⟩
  clear P
  go_wp2_with fail
  go_ret2
  exact⟨rfl,rfl⟩
 ·rw[show glV n=0 from if_neg h,show glE n=2 from if_neg h]
  clear hG
  by_cases h1:n<0
  ·clear h
   go_enter Tryz.func162,Tryz.ntmps162
   go_wp2_with fail
   go_ret2
   exact⟨rfl,rfl⟩
  ·have h2:32≤n:=by omega
   clear h
   go_enter Tryz.func162,Tryz.ntmps162
   go_wp2_with fail
   go_ret2
   exact⟨rfl,rfl⟩
theorem gaiOne_yes (c e:Int)(w:World)(hG:Grows w)(c0:0<c)(c9:c≤9223372036854775807)(e0:0<e)(e9:e≤9223372036854775807) :
  Calls Tryz.prog 159 #[.int .i64 c,.int .i64 e] w fun x w'=>x=.returned (.int .i64 (goN (capC c) (capE e) 31:Int))∧w'=w:=by
 have L:=hide (fun n=>gaiLevel_any n w hG)
 have e1:min c 1152921504606846976=capC c:=by unfold capC;split<;>omega
 have e2:min e 17592186044416=capE e:=by unfold capE;split<;>omega
 have e3:(if 1152921504606846976<c then 1152921504606846976 else c)=capC c:=rfl
 have e4:(if 17592186044416<e then 17592186044416 else e)=capE e:=rfl
 obtain⟨b1,b2⟩:=capC_bd c c0
 obtain⟨b3,b4⟩:=capE_bd e e0
 have L0:=hide (L.out 0)
 rw[glV0.1,glV0.2]at L0
 clear hG
 go_enter Tryz.func159,Tryz.ntmps159
 go_wp2_with fail
 refine L0.out.mono ?_
 rintro x w1 ⟨rfl,rfl⟩
 clear L0 e1 e2 e3 e4
 generalize hC:capC c=C at *
 generalize hE:capE e=E at *
 have HC:=hide hC
 have HE:=hide hE
 clear hC hE
 clear c0 c9 e0 e9
 go_wp2_with fail
 go_loop [5,6,8] (fun s b i=>∃m:Nat,i=.int .i64 ((m+1:Nat):Int)∧s=.int .i64 (goN C E m:Int)∧b=.int .i64 (gszN m)∧m≤31) (fun _ _ i=>40-(intOf i).toNat)
 case atStart=>exact⟨0,rfl,rfl,rfl,by omega⟩
 case round=>
  obtain⟨m,rfl,rfl,rfl,hm⟩:=hrel
  by_cases hm31:m<31
  ·have LL:=hide (L.out ((m+1:Nat):Int))
   rw[(glV_nat (m+1) (by omega)).1,(glV_nat (m+1) (by omega)).2]at LL
   have NY:=hide (goN_yes C E m)
   have NN:=hide (goN_no C E m)
   obtain⟨g1,g2⟩:=gszN_bd (m+1)
   obtain⟨g3,g4⟩:=gszN_bd m
   have i1:((m+1:Nat):Int)<32:=by omega
   clear L
   generalize goN C E m=s at *
   generalize gszN m=y at *
   have q1:0≤(gszN (m+1)+y)*E:=Int.mul_nonneg (by omega) (by omega)
   have q2:(gszN (m+1)+y)*E≤50534*17592186044416:=Int.mul_le_mul (by omega) (by omega) (by omega) (by omega)
   generalize hJ:m+1=J at *
   generalize hX:gszN J=x at *
   have HX:=hide hX
   clear hX
   by_cases hd:(x+y)*E<2*C
   ·have HEN:=hide (NY.out hd)
    clear NY NN
    go_wp2_with fail
    refine LL.out.mono ?_
    rintro ee w2 ⟨rfl,rfl⟩
    clear LL
    go_wp2_with fail
    go_round
    case rel=>exact⟨J,by go_num,by rw[HEN.out],by rw[HX.out],by omega⟩
    case measure=>simp[intOf];omega
   ·have HEN:=hide (NN.out hd)
    clear NY NN
    go_wp2_with fail
    refine LL.out.mono ?_
    rintro ee w2 ⟨rfl,rfl⟩
    clear LL
    go_wp2_with fail
    go_round
    case rel=>exact⟨J,by go_num,by rw[HEN.out],by rw[HX.out],by omega⟩
    case measure=>simp[intOf];omega
  ·obtain rfl:m=31:=by omega
   rw[show((31+1:Nat):Int)=32 from rfl]
   generalize hS:goN C E 31=s at *
   have HS:=hide hS
   clear hS L
   generalize gszN 31=z at *
   go_wp2_with fail
   go_ret
   exact⟨by rw[HC.out,HE.out,HS.out];rfl,rfl⟩
theorem gaiOne_any (c e:Int)(w:World)(hG:Grows w)(c9:c≤9223372036854775807)(e9:e≤9223372036854775807) :
  Calls Tryz.prog 159 #[.int .i64 c,.int .i64 e] w fun x w'=>x=.returned (.int .i64 (goV c e))∧w'=w:=by
 by_cases hc:c≤0
 ·rw[show goV c e=0 from if_pos (.inl hc)]
  clear hG
  go_enter Tryz.func159,Tryz.ntmps159
  go_wp2_with fail
  go_ret
  exact⟨rfl,rfl⟩
 ·by_cases he:e≤0
  ·rw[show goV c e=0 from if_pos (.inr he)]
   clear hG
   go_enter Tryz.func159,Tryz.ntmps159
   go_wp2_with fail
   go_ret
   exact⟨rfl,rfl⟩
  ·rw[show goV c e=(goN (capC c) (capE e) 31:Int)from if_neg (fun x=>x.elim hc he)]
   exact gaiOne_yes c e w hG (by omega) c9 (by omega) e9
end Go.Proofs.YtdejpongekicdaaGreatDoor

/- PlyS -/
namespace Go.Proofs.YtdejpongekicdaaGreatDoor
open Go.RowKit
set_option linter.unusedVariables false
set_option linter.unusedSimpArgs false
theorem intsV_getP (u:List Int)(i:Nat)(h:i<u.length):(intsV u)[i]?=some (.int .i64 (nth u i)):=by
 have:=mixC_get u [] i h
 unfold mixC at this
 rwa [List.append_nil]at this
theorem BlkM.cellS {w:World}{b:Nat}{l:List Int}{s:Bool}(h:BlkM w b l s)(hl:l.length=101):w.cell? ⟨b,101,none⟩=some (.bool s):=by
 rw[BlkV.cell h]
 unfold memC mixC
 rw[List.getElem?_append_right (by rw[intsV_len,hl];omega),intsV_len,hl]
 rfl
theorem BlkM.setS {w:World}{b:Nat}{l:List Int}{s:Bool}(h:BlkM w b l s)(hl:l.length=101)(t:Bool):BlkM (w.setCell ⟨b,101,none⟩ (.bool t)) b l t:=by
 have:=BlkV.set h 101 (.bool t)
 have e:(memC l s).set 101 (.bool t)=memC l t:=by
  unfold memC mixC
  rw[List.set_append_right _ _ (by rw[intsV_len,hl];omega),intsV_len,hl]
  rfl
 rw[e]at this
 exact this
def PlQ (w:World)(l:List Int)(s:Bool)(p:List Int)(wr:World):Prop:=BlkM wr w.heap.size l s∧BlkV wr (w.heap.size+1) 82 (intsV p)∧BlkM wr (w.heap.size+1+1) (zeros 101) false∧w.grownBy wr none
theorem PlQ.new (w:World)(l:List Int)(s:Bool)(p:List Int):PlQ w l s p (((w.alloc (.cells (memC l s).toArray 53)).alloc (.cells (arrI p) 82)).alloc (.cells (memC (zeros 101) false).toArray 53)):=by
 refine⟨((BlkM.new w l s).keep (grown_alloc _ _ none)).keep (grown_alloc _ _ none),?_,?_,grown_none (grown_none (grown_alloc _ _ none) (grown_alloc _ _ none)) (grown_alloc _ _ none)⟩
 ·have:=(BlkV.new (w.alloc (.cells (memC l s).toArray 53)) 82 (intsV p)).keep (grown_alloc _ (.cells (memC (zeros 101) false).toArray 53) none)
  rw[intsV_arr]at this
  simpa using this
 ·have:=BlkM.new ((w.alloc (.cells (memC l s).toArray 53)).alloc (.cells (arrI p) 82)) (zeros 101) false
  simpa using this
theorem PlQ.keep {w:World}{l:List Int}{s:Bool}{p:List Int}{wr wr':World}(h:PlQ w l s p wr)(g:wr.grownBy wr' none):PlQ w l s p wr':=⟨h.1.keep g,h.2.1.keep g,h.2.2.1.keep g,grown_none h.2.2.2 g⟩
theorem PlQ.own {w:World}{l:List Int}{s:Bool}{p:List Int}{wr wr':World}{r:Option Nat}(h:PlQ w l s p wr)(g:wr.grownBy wr' r)(hr:∀x,r=some x→w.heap.size+1+1+1≤x):PlQ w l s p wr':=by
 rcases r with _|x
 ·exact h.keep g
 ·have:=hr x rfl
  exact⟨h.1.keepBut g (by omega),h.2.1.keepBut g (by omega),h.2.2.1.keepBut g (by omega),grown_own h.2.2.2 g (by omega)⟩
theorem PlQ.mem {w:World}{l m:List Int}{s t:Bool}{p:List Int}{wr wr':World}(h:PlQ w l s p wr)(hb:BlkM wr' w.heap.size m t)(g:wr.grownBy wr' (some w.heap.size)):PlQ w m t p wr':=⟨hb,h.2.1.keepBut g (by omega),h.2.2.1.keepBut g (by omega),grown_own h.2.2.2 g (Nat.le_refl _)⟩
theorem PlQ.all {w:World}{l m:List Int}{s t:Bool}{p:List Int}{wr:World}(h:PlQ w l s p wr)(hl:l.length=101)(hm:m.length=101):PlQ w m t p (putV wr w.heap.size 0 (memC m t))∧wr.grownBy (putV wr w.heap.size 0 (memC m t)) (some w.heap.size):=by
 have:=h.1.putAll (m:=m) (t:=t) hl hm
 exact⟨h.mem this.1 this.2,this.2⟩
theorem PlQ.put {w:World}{l:List Int}{s:Bool}{p:List Int}{wr:World}(h:PlQ w l s p wr)(o:Nat)(M:List Int)(hl:o+M.length≤l.length):PlQ w (ovr l o M) s p (putV wr w.heap.size o (intsV M))∧wr.grownBy (putV wr w.heap.size o (intsV M)) (some w.heap.size):=by
 have:=h.1.put o M hl
 exact⟨h.mem this.1 this.2,this.2⟩
theorem PlQ.set {w:World}{l:List Int}{s:Bool}{p:List Int}{wr:World}(h:PlQ w l s p wr)(k:Nat)(z:Int)(hk:k<l.length):PlQ w (l.set k z) s p (wr.setCell ⟨w.heap.size,k,none⟩ (.int .i64 z)):=h.mem (h.1.set k z hk) (grown_setCell wr ⟨w.heap.size,k,none⟩ _)
theorem PlQ.setS {w:World}{l:List Int}{s:Bool}{p:List Int}{wr:World}(h:PlQ w l s p wr)(hl:l.length=101)(t:Bool):PlQ w l t p (wr.setCell ⟨w.heap.size,101,none⟩ (.bool t)):=h.mem (h.1.setS hl t) (grown_setCell wr ⟨w.heap.size,101,none⟩ _)
theorem PlQ.fin {w:World}{l:List Int}{s:Bool}{p:List Int}{wr:World}(h:PlQ w l s p wr)(m:List Int)(t:Bool)(hm:m.length=101):BlkM (putV wr (w.heap.size+1+1) 0 (memC m t)) (w.heap.size+1+1) m t∧w.grownBy (putV wr (w.heap.size+1+1) 0 (memC m t)) none∧wr.grownBy (putV wr (w.heap.size+1+1) 0 (memC m t)) (some (w.heap.size+1+1)):=by
 have:=h.2.2.1.putAll (m:=m) (t:=t) (zeros_len 101) hm
 exact⟨this.1,grown_own h.2.2.2 this.2 (by omega),this.2⟩
theorem PlQ.num {w:World}{l:List Int}{s:Bool}{p:List Int}{wr:World}(h:PlQ w l s p wr)(i:Nat)(hi:i<p.length):wr.cell? ⟨w.heap.size+1,i,none⟩=some (.int .i64 (nth p i)):=(h.2.1.cell i).trans (intsV_getP p i hi)
end Go.Proofs.YtdejpongekicdaaGreatDoor

/- PkpA -/
namespace Go.Proofs.YtdejpongekicdaaGreatDoor
open Go.RowKit
set_option linter.unusedVariables false
set_option linter.unusedSimpArgs false
set_option maxHeartbeats 1000000
def OwnF (base:Nat)(w:World)(v:Value)(n:Nat)(A:List Value):Prop:=w.ownsRow base 124 3 v n A
theorem OwnF.keep {base:Nat}{w w':World}{v:Value}{n:Nat}{A:List Value}(h:OwnF base w v n A)(g:w.grownBy w' none):OwnF base w' v n A:=World.ownsRow.kept h g (by rcases v.ownBlock with _|b<;>simp)
theorem OwnF.lt {base:Nat}{w:World}{v:Value}{n:Nat}{A:List Value}(h:OwnF base w v n A)(g:Nat)(hg:v.ownBlock=some g):base≤g∧g<w.heap.size:=World.ownsRow.lt h g hg
theorem OwnF.base {b b':Nat}{w:World}{v:Value}{n:Nat}{A:List Value}(h:OwnF b w v n A)(hb:b'≤b):OwnF b' w v n A:=by
 refine⟨h.1,?_⟩
 rcases h.2 with h|⟨g,cap,cur,e,h1,h2⟩
 ·exact .inl h
 ·exact .inr ⟨g,cap,cur,e,by omega,h2⟩
theorem infoF:(Tryz.prog.info? 124).map (fun i=>(i.zero,i.size,i.bytes))=some (some (.agg #[.pointer none,.int .i64 0,.int .i64 0]),3,24):=by kernel_rfl
theorem step_appF {y:Nat→Option Bool}{o:Oper}{a:Act}{w:World}{K:Act→World→Prop}{Q:Exit→Act→World→Prop}{E:Prop}(hg:o.guard=none)(s x:Operand)
  (hop:o.op=Op.call { callee:=Callee.builtin Builtin.append,args:=#[s,x],argTypes:=#[119,119] }) (base:Nat) (va:Value) (n:Nat) (A:List Value) (hs:a.eval s=va) (ha:OwnF base w va n A) (ad:Addr) (m c:Nat) (B:List Value) (hx:a.eval x=.slice (some ad) m c)
  (hB:B.length=m*3) (hc:∀j u,B[j]?=some u→w.cell? (ad.add j)=some u) (h1:∀u∈B,u.oneCell'=true) (hl:n+m≤1000) (hbase:base≤w.heap.size)
  (h:∀v' w',OwnF base w' v' (n+m) (A++B)→w.grownBy w' va.ownBlock→K (a.put o.dst v') w'):if Region.wanted o y=true then Oper.wp Tryz.prog o a w K Q else E:=by
 have hw:Region.wanted o y=true:=by simp[Region.wanted,hg]
 rw[if_pos hw]
 obtain⟨i0,hi,hz0,hz1,hz2⟩:=info_parts infoF
 exact wp_append_own w s x 119 hop base 124 i0 _ 3 24 Tryz.underlying119 hi hz0 hz1 hz2 rfl (by decide) va n A hs ha ad m c B hx hB hc h1 (by unfold maxLen;omega) (by omega) hbase (fun v' w' h2 h3 _=>h v' w' h2 h3)
theorem wpList_appF {ops:Array Oper}{rest:List Oper}{o:Oper}{a:Act}{w:World}{Q:Exit→Act→World→Prop}(hg:o.guard=none)(s x:Operand)
  (hop:o.op=Op.call { callee:=Callee.builtin Builtin.append,args:=#[s,x],argTypes:=#[119,119] }) (base:Nat) (va:Value) (n:Nat) (A:List Value) (hs:a.eval s=va) (ha:OwnF base w va n A) (ad:Addr) (m c:Nat) (B:List Value) (hx:a.eval x=.slice (some ad) m c)
  (hB:B.length=m*3) (hc:∀j u,B[j]?=some u→w.cell? (ad.add j)=some u) (h1:∀u∈B,u.oneCell'=true) (hl:n+m≤1000) (hbase:base≤w.heap.size)
  (h:∀v' w',OwnF base w' v' (n+m) (A++B)→w.grownBy w' va.ownBlock→wpList Tryz.prog ops Q rest (a.put o.dst v') w'):wpList Tryz.prog ops Q (o::rest) a w:=by
 obtain⟨i0,hi,hz0,hz1,hz2⟩:=info_parts infoF
 exact wpList_append_own (P:=Tryz.prog) (w:=w) hg s x 119 hop base 124 i0 _ 3 24 Tryz.underlying119 hi hz0 hz1 hz2 rfl (by decide) va n A hs ha ad m c B hx hB hc h1 (by unfold maxLen;omega) (by omega) hbase (fun v' w' h2 h3 _=>h v' w' h2 h3)
theorem lit_cells (u:World)(L:List Value)(j:Nat)(x:Value)(h:L[j]?=some x):(u.alloc (.cells L.toArray 124)).cell? ((⟨u.heap.size,0,none⟩:Addr).add j)=some x:=by
 rw[Addr.add_mid,Nat.zero_add,cell_of_heap (heap_new u _)]
 simpa using h
theorem litF (u:World)(base:Nat)(hb:base≤u.heap.size)(L:List Value)(n:Nat)(hn:L.length=n*3)(h:n≤1000):OwnF base (u.alloc (.cells L.toArray 124)) (.slice (some ⟨u.heap.size,0,none⟩) n n) n L:=
 ⟨hn,.inr ⟨u.heap.size,n,L.toArray,rfl,hb,heap_new u _,Nat.le_refl _,by unfold maxLen;omega,by simpa using hn,by simp;exact List.take_of_length_le (by omega)⟩⟩
def triV (b i:Nat)(x y:Int):List Value:=[.pointer (some ⟨b,i,none⟩),.int .i64 x,.int .i64 y]
def fldV (b i:Nat):List Value:=triV b i (wdN i:Int) (moN i)
def flF (b:Nat):Nat→List Value
 | 0=>[]
 | n+1=>flF b n++fldV b n
theorem flF_len (b:Nat):∀n,(flF b n).length=n*3
 | 0=>rfl
 | n+1=>by
  show(flF b n++fldV b n).length=_
  rw[List.length_append,flF_len b n]
  show n*3+3=_
  omega
theorem flF_get (b:Nat):∀n i j,i<n→j<3→(flF b n)[i*3+j]?=(fldV b i)[j]?
 | 0,i,j,hi,_=>by omega
 | n+1,i,j,hi,hj=>by
  show(flF b n++fldV b n)[i*3+j]?=_
  have hl:=flF_len b n
  by_cases e:i=n
  ·subst e
   rw[List.getElem?_append_right (by omega),hl,show i*3+j-i*3=j by omega]
  ·rw[List.getElem?_append_left (by omega)]
   exact flF_get b n i j (by omega) hj
theorem triV_one (b i:Nat)(x y:Int):∀u∈triV b i x y,u.oneCell'=true:=by
 intro u hu
 simp[triV]at hu
 rcases hu with rfl|rfl|rfl<;>rfl
def haF (b o:Nat):List Value:=(((((((triV b o 6 59++triV b (o+1) 3 7)++triV b (o+2) 4 9)++triV b (o+3) 4 9)++triV b (o+4) 4 9)++triV b (o+5) 4 9)++(triV b (o+6) 4 15++triV b (o+7) 5 31)))
theorem haF_one (b o:Nat):∀u∈haF b o,u.oneCell'=true:=by
 intro u hu
 simp only[haF,List.mem_append]at hu
 rcases hu with(((((hu|hu)|hu)|hu)|hu)|hu)|(hu|hu)<;>exact triV_one _ _ _ _ u hu
theorem flF_half (b k:Nat)(hk:k<2):flF b (9+8*k+8)=flF b (9+8*k)++haF b (9+8*k):=by
 match k,hk with
 | 0,_=>show _=flF b 9++haF b 9;simp only[flF,haF,List.append_assoc,List.nil_append];rfl
 | 1,_=>show _=flF b 17++haF b 17;simp only[flF,haF,List.append_assoc,List.nil_append];rfl
def widq:List Int:=[6,6,5,5,4,4,3,3]
theorem widq_at (m:Nat)(h:m<8):widq.getD m 0=(wdN (m+1):Int)∧moN (m+1)=2^wdN (m+1)-1∧wdN (m+1)≤6:=by
 have:∀m:Fin 8,widq.getD m.val 0=(wdN (m.val+1):Int)∧moN (m.val+1)=2^wdN (m.val+1)-1∧wdN (m.val+1)≤6:=by decide
 exact this ⟨m,h⟩
theorem pqin_yes (x l m:Int)(h1:l≤x)(h2:x≤m)(w:World) :
  Calls Tryz.prog 210 #[.int .i64 x,.int .i64 l,.int .i64 m] w fun e w'=>e=.returned (.bool true)∧w'=w:=by
 go_enter Tryz.func210,Tryz.ntmps210
 go_wp2
 go_ret
 exact⟨rfl,rfl⟩
theorem pknown_yes (i:Nat)(h:i<8)(w:World) :
  Calls Tryz.prog 209 #[.int .i64 i] w fun e w'=>e=.returned (.bool true)∧w'=w:=by
 go_enter Tryz.func209,Tryz.ntmps209
 go_wp2_with fail
 refine(pqin_yes _ _ _ (by omega) (by omega) _).mono ?_
 rintro e w1 ⟨rfl,rfl⟩
 go_wp2_with fail
 go_ret
 exact⟨rfl,rfl⟩
theorem pwidth_yes (i:Nat)(h:i<8)(w:World)(hW:TabA w 3 widq 8) :
  Calls Tryz.prog 168 #[.int .i64 i] w fun e w'=>e=.returned (.int .i64 (wdN (i+1):Int))∧w'=w:=by
 have hc:=hW i h
 rw[(widq_at i h).1]at hc
 clear hW
 generalize wdN (i+1)=b at *
 go_enter Tryz.func168,Tryz.ntmps168
 go_wp2_with fail
 refine(pknown_yes i h _).mono ?_
 rintro e w1 ⟨rfl,rfl⟩
 go_wp2_with fail
 go_ret
 exact⟨rfl,rfl⟩
theorem pow_in (b:Nat)(hb:b≤6):IntKind.i64.wrap ((2:Int)^b)=2^b∧(2:Int)^b≤64∧0<(2:Int)^b:=by
 have:∀b:Fin 7,IntKind.i64.wrap ((2:Int)^b.val)=2^b.val∧(2:Int)^b.val≤64∧0<(2:Int)^b.val:=by decide +kernel
 exact this ⟨b,by omega⟩
theorem pkFull_any (b i:Nat)(n:Nat)(hb:n≤6)(w:World) :
  Calls Tryz.prog 167 #[.pointer (some ⟨b,i,none⟩),.int .i64 (n:Int)] w fun e w'=>e=.returned (.agg (triV b i (n:Int) (2^n-1)).toArray)∧w.grownBy w' none:=by
 unfold triV
 have hp:=(pow_in n hb).1
 have h2:=(pow_in n hb).2
 go_enter Tryz.func167,Tryz.ntmps167
 go_wp2_with fail
 refine bodyPost_ret (v:=.agg #[.pointer (some ⟨b,i,none⟩),.int .i64 (n:Int),.int .i64 (2^n-1)]) (by simp[results,Tryz.results167,go_sem]) rfl ⟨rfl,?_⟩
 first|exact grown_alloc _ _ none|done
def haP (b o:Nat):Nat→List Value
 | 0=>triV b o 6 59++triV b (o+1) 3 7
 | k+1=>haP b o k++triV b (o+2+k) 4 9
set_option maxRecDepth 100000 in
theorem pkHalf_any (b o:Nat)(w:World) :
  Calls Tryz.prog 169 #[.pointer (some ⟨b,o,none⟩)] w fun e w'=>∃v,e=.returned v∧OwnF w.heap.size w' v 8 (haF b o)∧w.grownBy w' none:=by
 go_enter Tryz.func169,Tryz.ntmps169
 go_upto_region 1 with fail
 refine wp_region_held_drew (S:=GrownW w) (by kernel_rfl) (gw_start _) (fun hHeld=>?_)
 refine wpAnyH_take (i:=0) (v:=?vha0) rfl (by kernel_rfl) (by kernel_rfl) (by kernel_rfl) (fun _ _ _ h=>h) (Or.inl ⟨by rfl,?yha0⟩) hHeld ?rha0
 case yha0=>(intro w' hSw;go_simp;(try with_reducible rfl))
 (try simp only[Act.put,sL])
 refine wpAnyH_take (i:=1) (v:=?vha1) rfl (by kernel_rfl) (by kernel_rfl) (by kernel_rfl) (fun _ _ _ h=>h) (Or.inl ⟨by rfl,?yha1⟩) hHeld ?rha1
 case yha1=>(intro w' hSw;go_simp;(try with_reducible rfl))
 (try simp only[Act.put,sL])
 refine wpAnyH_take (i:=2) (v:=?vha2) rfl (by kernel_rfl) (by kernel_rfl) (by kernel_rfl) (fun _ _ _ h=>h) (Or.inl ⟨by rfl,?yha2⟩) hHeld ?rha2
 case yha2=>(intro w' hSw;go_simp;(try with_reducible rfl))
 (try simp only[Act.put,sL])
 refine wpAnyH_take (i:=3) (v:=?vha3) rfl (by kernel_rfl) (by kernel_rfl) (by kernel_rfl) (fun _ _ _ h=>h) (Or.inl ⟨by rfl,?yha3⟩) hHeld ?rha3
 case yha3=>(intro w' hSw;go_simp;(try with_reducible rfl))
 (try simp only[Act.put,sL])
 refine wpAnyH_take (i:=4) (v:=?vha4) rfl (by kernel_rfl) (by kernel_rfl) (by kernel_rfl) (fun _ _ _ h=>h) (Or.inl ⟨by rfl,?yha4⟩) hHeld ?rha4
 case yha4=>(intro w' hSw;go_simp;(try with_reducible rfl))
 (try simp only[Act.put,sL])
 refine wpAnyH_take (i:=5) (v:=?vha5) rfl (by kernel_rfl) (by kernel_rfl) (by kernel_rfl) (fun _ _ _ h=>h) (Or.inl ⟨by rfl,?yha5⟩) hHeld ?rha5
 case yha5=>(intro w' hSw;go_simp;(try with_reducible rfl))
 (try simp only[Act.put,sL])
 refine wpAnyH_take (i:=6) (v:=?vha6) rfl (by kernel_rfl) (by kernel_rfl) (by kernel_rfl) (fun _ _ _ h=>h) (Or.inl ⟨by rfl,?yha6⟩) hHeld ?rha6
 case yha6=>(intro w' hSw;go_simp;(try with_reducible rfl))
 (try simp only[Act.put,sL])
 refine wpAnyH_ready (rs:=[7]) (by kernel_rfl) (by simp) (AllReadyH.cons rfl (fun K hK=>?_) AllReadyH.nil)
 (try simp only[Act.put,sL])
 go_simp
 refine(pkFull_any b (o+1) 3 (by omega) _).mono ?_
 rintro e w1 ⟨rfl,g1⟩
 have G1:=hide g1
 clear g1
 unfold triV
 go_wp2_with fail
 refine hK.out _ _ (gw_trans hHeld G1.out) (fun hHeld=>?_)
 clear hK
 (try simp only[Act.put,sL])
 refine wpAnyH_ready (rs:=[8]) (by kernel_rfl) (by simp) (AllReadyH.cons rfl (fun K hK=>?_) AllReadyH.nil)
 (try simp only[Act.put,sL])
 go_simp
 go_wp2_with fail
 refine hK.out _ _ (gw_alloc hHeld _) (fun hHeld=>?_)
 clear hK
 (try simp only[Act.put,sL])
 refine wpAnyH_take (i:=9) (v:=?vha9) rfl (by kernel_rfl) (by kernel_rfl) (by kernel_rfl) (fun _ _ _ h=>h) (Or.inl ⟨by rfl,?yha9⟩) hHeld ?rha9
 case yha9=>(intro w' hSw;go_simp;(try with_reducible rfl))
 (try simp only[Act.put,sL])
 refine wpAnyH_done (by kernel_rfl) ?_ _
 have M0:=hide (show OwnF w.heap.size (w1.alloc (.cells (haP b o 0).toArray 124)) (.slice (some ⟨w1.heap.size,0,none⟩) 2 2) 2 (haP b o 0)∧GrownW w (w1.alloc (.cells (haP b o 0).toArray 124))from⟨litF w1 _ (by have:=G1.out.size;exact this) (haP b o 0) 2 rfl (by omega),hHeld⟩)
 simp only[haP,triV,List.cons_append,List.nil_append]at M0
 clear G1 hHeld
 generalize w1.alloc _=W1 at *
 generalize Value.slice (some ⟨w1.heap.size,0,none⟩) 2 2=v1 at *
 go_wp2_with fail
 go_loopw [3,14] (fun v i wr=>∃k:Nat,i=.int .i64 k∧k≤4∧Hid (OwnF w.heap.size wr v (2+k) (haP b o k)∧GrownW w wr)) (fun _ i _=>4-(intOf i).toNat)
 case atStart=>exact⟨0,rfl,Nat.zero_le _,M0.out⟩
 case round=>
  obtain⟨k,rfl,hk,hN⟩:=hrel
  clear M0
  by_cases hk4:k<4
  ·have i1:(k:Int)<4:=by omega
   go_upto_region 5 with fail
   go_wp2_with (refine wpList_appF rfl _ _ rfl w.heap.size _ (2+k) (haP b o k) rfl (hN.out.1.keep (grown_alloc _ _ none)) _ 1 1 (triV b (o+2+k) 4 9) rfl rfl (fun j u hu=>lit_cells wr _ j u hu) (triV_one _ _ _ _) (by omega) (by have:=hN.out.2.size;simp;omega) ?_)
   intro v2 w2 o2 g2
   have NN:=hide (show OwnF w.heap.size w2 v2 (2+(k+1)) (haP b o (k+1))∧GrownW w w2 from⟨o2,grown_own' (gw_alloc hN.out.2 _) g2 (fun c hc=>(hN.out.1.lt c hc).1)⟩)
   clear o2 g2 hN
   go_wp2_with fail
   go_roundw
   case rel=>exact⟨k+1,by go_num,by omega,NN.out⟩
   case measure=>simp[intOf];omega
  ·obtain rfl:k=4:=by omega
   rw[show((4:Nat):Int)=4 from rfl]
   go_upto_region 7 with fail
   refine wp_region_held_drew (S:=GrownW w) (by kernel_rfl) (gw_trans hN.out.2 (grown_drew (grown_refl _ none))) (fun hHeld=>?_)
   have OA:=hide (hN.out.1.keep (grown_drew (grown_refl wr none)))
   clear hN
   generalize wr.drew=wd at *
   refine wpAnyH_take (i:=0) (v:=?vhb0) rfl (by kernel_rfl) (by kernel_rfl) (by kernel_rfl) (fun _ _ _ h=>h) (Or.inl ⟨by rfl,?yhb0⟩) hHeld ?rhb0
   case yhb0=>(intro w' hSw;go_simp;(try with_reducible rfl))
   (try simp only[Act.put,sL])
   refine wpAnyH_take (i:=1) (v:=?vhb1) rfl (by kernel_rfl) (by kernel_rfl) (by kernel_rfl) (fun _ _ _ h=>h) (Or.inl ⟨by rfl,?yhb1⟩) hHeld ?rhb1
   case yhb1=>(intro w' hSw;go_simp;(try with_reducible rfl))
   (try simp only[Act.put,sL])
   refine wpAnyH_take (i:=2) (v:=?vhb2) rfl (by kernel_rfl) (by kernel_rfl) (by kernel_rfl) (fun _ _ _ h=>h) (Or.inl ⟨by rfl,?yhb2⟩) hHeld ?rhb2
   case yhb2=>(intro w' hSw;go_simp;(try with_reducible rfl))
   (try simp only[Act.put,sL])
   refine wpAnyH_take (i:=3) (v:=?vhb3) rfl (by kernel_rfl) (by kernel_rfl) (by kernel_rfl) (fun _ _ _ h=>h) (Or.inl ⟨by rfl,?yhb3⟩) hHeld ?rhb3
   case yhb3=>(intro w' hSw;go_simp;(try with_reducible rfl))
   (try simp only[Act.put,sL])
   refine wpAnyH_take (i:=5) (v:=?vhb5) rfl (by kernel_rfl) (by kernel_rfl) (by kernel_rfl) (fun _ _ _ h=>h) (Or.inl ⟨by rfl,?yhb5⟩) hHeld ?rhb5
   case yhb5=>(intro w' hSw;go_simp;(try with_reducible rfl))
   (try simp only[Act.put,sL])
   refine wpAnyH_take (i:=6) (v:=?vhb6) rfl (by kernel_rfl) (by kernel_rfl) (by kernel_rfl) (fun _ _ _ h=>h) (Or.inl ⟨by rfl,?yhb6⟩) hHeld ?rhb6
   case yhb6=>(intro w' hSw;go_simp;(try with_reducible rfl))
   (try simp only[Act.put,sL])
   refine wpAnyH_take (i:=7) (v:=?vhb7) rfl (by kernel_rfl) (by kernel_rfl) (by kernel_rfl) (fun _ _ _ h=>h) (Or.inl ⟨by rfl,?yhb7⟩) hHeld ?rhb7
   case yhb7=>(intro w' hSw;go_simp;(try with_reducible rfl))
   (try simp only[Act.put,sL])
   refine wpAnyH_ready (rs:=[4]) (by kernel_rfl) (by simp) (AllReadyH.cons rfl (fun K hK=>?_) AllReadyH.nil)
   (try simp only[Act.put,sL])
   go_simp
   refine(pkFull_any b (o+6) 4 (by omega) _).mono ?_
   rintro e w2 ⟨rfl,g2⟩
   have G2:=hide g2
   clear g2
   unfold triV
   go_wp2_with fail
   refine hK.out _ _ (gw_trans hHeld G2.out) (fun hHeld=>?_)
   clear hK
   (try simp only[Act.put,sL])
   replace OA:=hide (OA.out.keep G2.out)
   clear G2
   refine wpAnyH_ready (rs:=[8]) (by kernel_rfl) (by simp) (AllReadyH.cons rfl (fun K hK=>?_) AllReadyH.nil)
   (try simp only[Act.put,sL])
   go_simp
   refine(pkFull_any b (o+7) 5 (by omega) _).mono ?_
   rintro e w3 ⟨rfl,g3⟩
   have G3:=hide g3
   clear g3
   unfold triV
   go_wp2_with fail
   refine hK.out _ _ (gw_trans hHeld G3.out) (fun hHeld=>?_)
   clear hK
   (try simp only[Act.put,sL])
   replace OA:=hide (OA.out.keep G3.out)
   clear G3
   refine wpAnyH_ready (rs:=[9]) (by kernel_rfl) (by simp) (AllReadyH.cons rfl (fun K hK=>?_) AllReadyH.nil)
   (try simp only[Act.put,sL])
   go_simp
   go_wp2_with fail
   refine hK.out _ _ (gw_alloc hHeld _) (fun hHeld=>?_)
   clear hK
   (try simp only[Act.put,sL])
   replace OA:=hide (OA.out.keep (grown_alloc w3 (.cells #[.pointer (some ⟨b,o+6,none⟩),.int .i64 4,.int .i64 15,.pointer (some ⟨b,o+7,none⟩),.int .i64 5,.int .i64 31] 124) none))
   refine wpAnyH_ready (rs:=[10]) (by kernel_rfl) (by simp) (AllReadyH.cons rfl (fun K hK=>?_) AllReadyH.nil)
   (try simp only[Act.put,sL])
   refine step_appF rfl _ _ rfl w.heap.size _ (2+4) (haP b o 4) rfl OA.out _ 2 2 (triV b (o+6) 4 15++triV b (o+7) 5 31) rfl rfl (fun j u hu=>lit_cells w3 _ j u hu) (fun u hu=>by rcases List.mem_append.1 hu with hu|hu<;>exact triV_one _ _ _ _ u hu) (by omega) (by have:=hHeld.size;simpa using this) ?_
   intro v4 w4 o4 g4
   have O4:=hide o4
   clear o4
   refine hK.out _ _ (grown_own' hHeld g4 (fun c hc=>(OA.out.lt c hc).1)) (fun hHeld=>?_)
   clear hK
   (try simp only[Act.put,sL])
   clear g4 OA
   refine wpAnyH_take (i:=11) (v:=?vhb11) rfl (by kernel_rfl) (by kernel_rfl) (by kernel_rfl) (fun _ _ _ h=>h) (Or.inl ⟨by rfl,?yhb11⟩) hHeld ?rhb11
   case yhb11=>(intro w' hSw;go_simp;(try with_reducible rfl))
   (try simp only[Act.put,sL])
   refine wpAnyH_done (by kernel_rfl) ?_ _
   have FI:=hide (show OwnF w.heap.size w4 v4 8 (haF b o)∧w.grownBy w4 none from⟨O4.out,hHeld⟩)
   clear O4 hHeld
   go_wp2_with fail
   go_ret
   exact⟨_,rfl,FI.out.1,FI.out.2⟩
theorem haF_own {base:Nat}{w:World}{v:Value}{n:Nat}{A:List Value}(h:OwnF base w v n A)(hn:0<n):∃ad c,v=.slice (some ad) n c∧∀j u,A[j]?=some u→w.cell? (ad.add j)=some u:=by
 rcases id h.2 with⟨_,h0⟩|⟨g,cap,cur,hv,hb,hg,_⟩
 ·omega
 ·subst hv
  refine⟨⟨g,0,none⟩,cap,rfl,fun j u hu=>?_⟩
  have hj:j<n*3:=by
   by_cases hj:j<n*3
   ·exact hj
   ·rw[List.getElem?_eq_none (by rw[h.1];omega)]at hu;cases hu
  rw[Addr.add_mid,Nat.zero_add,World.ownsRow.cellAt h j hj]
  exact hu
set_option maxRecDepth 100000 in
theorem pkFields_any (b:Nat)(w:World)(hT:TabA w 3 widq 8) :
  Calls Tryz.prog 72 #[.pointer (some ⟨b,0,none⟩)] w fun e w'=>∃v,e=.returned v∧OwnF w.heap.size w' v 25 (flF b 25)∧w.grownBy w' none:=by
 have HT:=hide hT
 clear hT
 have M0:=hide (show OwnF w.heap.size (w.alloc (.cells (flF b 1).toArray 124)) (.slice (some ⟨w.heap.size,0,none⟩) 1 1) 1 (flF b 1)∧GrownW w (w.alloc (.cells (flF b 1).toArray 124))from⟨litF w _ (Nat.le_refl _) (flF b 1) 1 rfl (by omega),grown_alloc _ _ none⟩)
 rw[show(flF b 1).toArray=#[.pointer (some ⟨b,0,none⟩),.int .i64 2,.int .i64 2]from rfl]at M0
 go_enter Tryz.func72,Tryz.ntmps72
 go_wp2_with fail
 generalize w.alloc _=W1 at *
 generalize Value.slice (some ⟨w.heap.size,0,none⟩) 1 1=v1 at *
 go_loopw [3,11] (fun v i wr=>∃m:Nat,i=.int .i64 m∧m≤8∧Hid (OwnF w.heap.size wr v (m+1) (flF b (m+1))∧GrownW w wr)) (fun _ i _=>8-(intOf i).toNat)
 case atStart=>exact⟨0,rfl,Nat.zero_le _,M0.out⟩
 case round=>
  obtain⟨m,rfl,hm,hN⟩:=hrel
  clear M0
  by_cases hm8:m<8
  ·have i1:(m:Int)<8:=by omega
   have WM:=hide (widq_at m hm8)
   go_upto_region 5 with fail
   refine wp_region_held_drew (S:=GrownW w) (by kernel_rfl) (gw_trans hN.out.2 (grown_drew (grown_refl _ none))) (fun hHeld=>?_)
   have OA:=hide (hN.out.1.keep (grown_drew (grown_refl wr none)))
   clear hN
   generalize wr.drew=wd at *
   refine wpAnyH_take (i:=0) (v:=?vfa0) rfl (by kernel_rfl) (by kernel_rfl) (by kernel_rfl) (fun _ _ _ h=>h) (Or.inl ⟨by rfl,?yfa0⟩) hHeld ?rfa0
   case yfa0=>(intro w' hSw;go_simp;(try with_reducible rfl))
   (try simp only[Act.put,sL])
   refine wpAnyH_take (i:=1) (v:=?vfa1) rfl (by kernel_rfl) (by kernel_rfl) (by kernel_rfl) (fun _ _ _ h=>h) (Or.inl ⟨by rfl,?yfa1⟩) hHeld ?rfa1
   case yfa1=>(intro w' hSw;go_simp;(try with_reducible rfl))
   (try simp only[Act.put,sL])
   refine wpAnyH_take (i:=2) (v:=?vfa2) rfl (by kernel_rfl) (by kernel_rfl) (by kernel_rfl) (fun _ _ _ h=>h) (Or.inl ⟨by rfl,?yfa2⟩) hHeld ?rfa2
   case yfa2=>(intro w' hSw;go_simp;(try with_reducible rfl))
   (try simp only[Act.put,sL])
   refine wpAnyH_take (i:=3) (v:=?vfa3) rfl (by kernel_rfl) (by kernel_rfl) (by kernel_rfl) (fun _ _ _ h=>h) (Or.inl ⟨by rfl,?yfa3⟩) hHeld ?rfa3
   case yfa3=>(intro w' hSw;go_simp;(try with_reducible rfl))
   (try simp only[Act.put,sL])
   refine wpAnyH_take (i:=4) (v:=?vfa4) rfl (by kernel_rfl) (by kernel_rfl) (by kernel_rfl) (fun _ _ _ h=>h) (Or.inl ⟨by rfl,?yfa4⟩) hHeld ?rfa4
   case yfa4=>(intro w' hSw;go_simp;(try with_reducible rfl))
   (try simp only[Act.put,sL])
   refine wpAnyH_take (i:=5) (v:=?vfa5) rfl (by kernel_rfl) (by kernel_rfl) (by kernel_rfl) (fun _ _ _ h=>h) (Or.inl ⟨by rfl,?yfa5⟩) hHeld ?rfa5
   case yfa5=>(intro w' hSw;go_simp;(try with_reducible rfl))
   (try simp only[Act.put,sL])
   refine wpAnyH_take (i:=6) (v:=?vfa6) rfl (by kernel_rfl) (by kernel_rfl) (by kernel_rfl) (fun _ _ _ h=>h) (Or.inl ⟨by rfl,?yfa6⟩) hHeld ?rfa6
   case yfa6=>(intro w' hSw;go_simp;(try with_reducible rfl))
   (try simp only[Act.put,sL])
   refine wpAnyH_ready (rs:=[7]) (by kernel_rfl) (by simp) (AllReadyH.cons rfl (fun K hK=>?_) AllReadyH.nil)
   (try simp only[Act.put,sL])
   go_simp
   refine(pwidth_yes m hm8 _ (TabA_keep HT.out hHeld)).mono ?_
   rintro e w1 ⟨rfl,rfl⟩
   go_wp2_with fail
   refine hK.out _ _ hHeld (fun hHeld=>?_)
   clear hK
   (try simp only[Act.put,sL])
   refine wpAnyH_ready (rs:=[8]) (by kernel_rfl) (by simp) (AllReadyH.cons rfl (fun K hK=>?_) AllReadyH.nil)
   (try simp only[Act.put,sL])
   go_simp
   refine(pkFull_any b (1+m) (wdN (m+1)) (by have:=WM.out;omega) _).mono ?_
   rintro e w2 ⟨rfl,g2⟩
   have G2:=hide g2
   clear g2
   unfold triV
   go_wp2_with fail
   refine hK.out _ _ (gw_trans hHeld G2.out) (fun hHeld=>?_)
   clear hK
   (try simp only[Act.put,sL])
   replace OA:=hide (OA.out.keep G2.out)
   clear G2
   refine wpAnyH_ready (rs:=[9]) (by kernel_rfl) (by simp) (AllReadyH.cons rfl (fun K hK=>?_) AllReadyH.nil)
   (try simp only[Act.put,sL])
   go_simp
   go_wp2_with fail
   refine hK.out _ _ (gw_alloc hHeld _) (fun hHeld=>?_)
   clear hK
   (try simp only[Act.put,sL])
   replace OA:=hide (OA.out.keep (grown_alloc w2 (.cells #[.pointer (some ⟨b,1+m,none⟩),.int .i64 (wdN (m+1):Int),.int .i64 (2^wdN (m+1)-1)] 124) none))
   refine wpAnyH_ready (rs:=[10]) (by kernel_rfl) (by simp) (AllReadyH.cons rfl (fun K hK=>?_) AllReadyH.nil)
   (try simp only[Act.put,sL])
   refine step_appF rfl _ _ rfl w.heap.size _ (m+1) (flF b (m+1)) rfl OA.out _ 1 1 (triV b (1+m) (wdN (m+1):Int) (2^wdN (m+1)-1)) rfl rfl (fun j u hu=>lit_cells w2 _ j u hu) (triV_one _ _ _ _) (by omega) (by have:=hHeld.size;simpa using this) ?_
   intro v4 w4 o4 g4
   have O4:=hide o4
   clear o4
   refine hK.out _ _ (grown_own' hHeld g4 (fun c hc=>(OA.out.lt c hc).1)) (fun hHeld=>?_)
   clear hK
   (try simp only[Act.put,sL])
   clear g4 OA
   refine wpAnyH_take (i:=11) (v:=?vfa11) rfl (by kernel_rfl) (by kernel_rfl) (by kernel_rfl) (fun _ _ _ h=>h) (Or.inl ⟨by rfl,?yfa11⟩) hHeld ?rfa11
   case yfa11=>(intro w' hSw;go_simp;(try with_reducible rfl))
   (try simp only[Act.put,sL])
   refine wpAnyH_done (by kernel_rfl) ?_ _
   have NN:=hide (show OwnF w.heap.size w4 v4 (m+1+1) (flF b (m+1+1))∧GrownW w w4 from⟨by have q:=O4.out;rw[←WM.out.2.1,Nat.add_comm 1 m]at q;exact q,hHeld⟩)
   clear O4 hHeld WM
   go_wp2_with fail
   go_roundw
   case rel=>exact⟨m+1,by go_num,by omega,NN.out⟩
   case measure=>simp[intOf];omega
  ·obtain rfl:m=8:=by omega
   rw[show((8:Nat):Int)=8 from rfl]
   clear HT
   go_wp2_with fail
   go_loopw [3,26] (fun v i wr=>∃k:Nat,i=.int .i64 k∧k≤2∧Hid (OwnF w.heap.size wr v (9+8*k) (flF b (9+8*k))∧GrownW w wr)) (fun _ i _=>2-(intOf i).toNat)
   case atStart=>exact⟨0,rfl,Nat.zero_le _,hN.out⟩
   case round=>
    obtain⟨k,rfl,hk,hN2⟩:=hrel
    clear hN
    by_cases hk2:k<2
    ·have i2:(k:Int)<2:=by omega
     go_wp2_with fail
     refine(pkHalf_any b (9+k*8) wr).mono ?_
     rintro e w2 ⟨v2,rfl,o2,g2⟩
     rw[Nat.mul_comm k 8]at o2
     obtain⟨ad,cp,rfl,hcl⟩:=haF_own o2 (by omega)
     have NO:=hide (hN2.out.1.keep g2)
     have NG:=hide (gw_trans hN2.out.2 g2)
     have HC:=hide hcl
     clear o2 g2 hN2 hcl
     go_wp2_with (refine wpList_appF rfl _ _ rfl w.heap.size _ (9+8*k) (flF b (9+8*k)) rfl NO.out ad 8 cp (haF b (9+8*k)) rfl rfl HC.out (haF_one _ _) (by omega) NG.out.size ?_)
     intro v4 w4 o4 g4
     have NN:=hide (show OwnF w.heap.size w4 v4 (9+8*(k+1)) (flF b (9+8*(k+1)))∧GrownW w w4 from⟨by rw[show 9+8*(k+1)=9+8*k+8 by omega,flF_half b k hk2];exact o4,grown_own' NG.out g4 (fun c hc=>(NO.out.lt c hc).1)⟩)
     clear o4 g4 NO NG HC
     go_wp2_with fail
     go_roundw
     case rel=>exact⟨k+1,by go_num,by omega,NN.out⟩
     case measure=>simp[intOf];omega
    ·obtain rfl:k=2:=by omega
     rw[show((2:Nat):Int)=2 from rfl]
     go_wp2_with fail
     go_ret
     exact⟨_,rfl,hN2.out.1,hN2.out.2⟩
end Go.Proofs.YtdejpongekicdaaGreatDoor

/- PkpMath -/
namespace Go.Proofs.YtdejpongekicdaaGreatDoor
open Go.RowKit
set_option linter.unusedVariables false
set_option linter.unusedSimpArgs false
theorem and256 (x m h l:Nat)(hl:l<256)(hm:m=256*h+l):x &&& m=256*(x / 256 &&& h)+(x % 256 &&& l):=by
 have e1:(x &&& m) / 256=(x / 256 &&& h):=by
  have:=Nat.and_div_two_pow (a:=x) (b:=m) (n:=8)
  rw[show(2:Nat)^8=256 from rfl]at this
  rw[this,hm,show(256*h+l) / 256=h by omega]
 have e2:(x &&& m) % 256=(x % 256 &&& l):=by
  have:=Nat.and_mod_two_pow (a:=x) (b:=m) (n:=8)
  rw[show(2:Nat)^8=256 from rfl]at this
  rw[this,hm,show(256*h+l) % 256=l by omega]
 omega
def mkB (c:Nat):Nat→Nat
 | 0=>0
 | k+1=>256*mkB c k+c
def stA (k x:Nat):Nat:=(x / 2 &&& mkB 85 k)+(x &&& mkB 85 k)
def stB (k x:Nat):Nat:=(x / 4 &&& mkB 51 k)+(x &&& mkB 51 k)
def stC (k x:Nat):Nat:=x / 16+x &&& mkB 15 k
def a8 (l:Nat):Nat:=(l / 2 &&& 85)+(l &&& 85)
def b8 (l:Nat):Nat:=(l / 4 &&& 51)+(l &&& 51)
def c8 (l:Nat):Nat:=l / 16+l &&& 15
def pc8 (l:Nat):Nat:=l % 2+l / 2 % 2+l / 4 % 2+l / 8 % 2+l / 16 % 2+l / 32 % 2+l / 64 % 2+l / 128 % 2
theorem a8_bd (l:Nat)(h:l<256):a8 l<256:=by
 have:∀l:Fin 256,a8 l.val<256:=by decide +kernel
 exact this ⟨l,h⟩
theorem b8_bd (l:Nat)(h:l<256):b8 l<112∧b8 l % 16≤6:=by
 have:∀l:Fin 256,b8 l.val<112∧b8 l.val % 16≤6:=by decide +kernel
 exact this ⟨l,h⟩
theorem c8_of (l:Nat)(h:l<256):c8 (b8 (a8 l))=pc8 l∧pc8 l≤8:=by
 have:∀l:Fin 256,c8 (b8 (a8 l.val))=pc8 l.val∧pc8 l.val≤8:=by decide +kernel
 exact this ⟨l,h⟩
theorem and85 (l:Nat)(h:l<256):l &&& 85=l % 128 &&& 85:=by
 have:∀l:Fin 256,l.val &&& 85=l.val % 128 &&& 85:=by decide +kernel
 exact this ⟨l,h⟩
theorem and51 (l:Nat)(h:l<256):l &&& 51=l % 64 &&& 51:=by
 have:∀l:Fin 256,l.val &&& 51=l.val % 64 &&& 51:=by decide +kernel
 exact this ⟨l,h⟩
theorem and15 (l:Nat)(h:l<256):l &&& 15=l % 16:=by
 have:∀l:Fin 256,l.val &&& 15=l.val % 16:=by decide +kernel
 exact this ⟨l,h⟩
theorem stA_step (k x:Nat):stA (k+1) x=256*stA k (x / 256)+a8 (x % 256):=by
 unfold stA a8
 rw[and256 (x / 2) (mkB 85 (k+1)) (mkB 85 k) 85 (by decide) rfl,and256 x (mkB 85 (k+1)) (mkB 85 k) 85 (by decide) rfl]
 rw[show x / 2 / 256=x / 256 / 2 by omega,and85 (x / 2 % 256) (by omega),show x / 2 % 256 % 128=x % 256 / 2 by omega]
 omega
theorem stB_step (k x:Nat):stB (k+1) x=256*stB k (x / 256)+b8 (x % 256):=by
 unfold stB b8
 rw[and256 (x / 4) (mkB 51 (k+1)) (mkB 51 k) 51 (by decide) rfl,and256 x (mkB 51 (k+1)) (mkB 51 k) 51 (by decide) rfl]
 rw[show x / 4 / 256=x / 256 / 4 by omega,and51 (x / 4 % 256) (by omega),show x / 4 % 256 % 64=x % 256 / 4 by omega]
 omega
theorem stC_step (k h l:Nat)(hl:l<112)(h6:l % 16≤6)(hh:h % 16≤6):stC (k+1) (256*h+l)=256*stC k h+c8 l:=by
 unfold stC c8
 rw[and256 _ (mkB 15 (k+1)) (mkB 15 k) 15 (by decide) rfl]
 have e1:((256*h+l) / 16+(256*h+l)) / 256=h / 16+h:=by omega
 rw[e1,and15 _ (by omega),and15 (l / 16+l) (by omega)]
 have e2:((256*h+l) / 16+(256*h+l)) % 256 % 16=(l / 16+l) % 16:=by omega
 omega
def onF:Nat→Nat→Nat
 | 0,_=>0
 | k+1,x=>256*onF k (x / 256)+pc8 (x % 256)
theorem stB6 (k x:Nat):stB k x % 16≤6:=by
 cases k with
 | zero=>show((x / 4 &&& 0)+(x &&& 0)) % 16≤6;simp
 | succ k=>
  rw[stB_step]
  have:=b8_bd (x % 256) (by omega)
  omega
theorem onF_of:∀k x,stC k (stB k (stA k x))=onF k x
 | 0,x=>by show _ &&& 0=0;simp
 | k+1,x=>by
  have ha:=a8_bd (x % 256) (by omega)
  have hb:=b8_bd (a8 (x % 256)) ha
  have hc:=c8_of (x % 256) (by omega)
  rw[stA_step,stB_step]
  rw[show(256*stA k (x / 256)+a8 (x % 256)) / 256=stA k (x / 256) by omega,show(256*stA k (x / 256)+a8 (x % 256)) % 256=a8 (x % 256) by omega]
  rw[stC_step k _ _ hb.1 hb.2 (stB6 k _),onF_of k,hc.1]
  rfl
def onS:Nat→Nat→Nat
 | 0,_=>0
 | k+1,x=>onS k (x / 256)+pc8 (x % 256)
theorem on_sum (x:Nat):∃z u v,onF 8 x+onF 8 x / 256=z∧z+z / 65536=u∧u+u / 4294967296=v∧onF 8 x<2^62∧z<2^62∧u<2^62∧v<2^62∧v % 128=onS 8 x:=by
 have b0:=(c8_of (x % 256) (by omega)).2
 have b1:=(c8_of (x / 256 % 256) (by omega)).2
 have b2:=(c8_of (x / 256 / 256 % 256) (by omega)).2
 have b3:=(c8_of (x / 256 / 256 / 256 % 256) (by omega)).2
 have b4:=(c8_of (x / 256 / 256 / 256 / 256 % 256) (by omega)).2
 have b5:=(c8_of (x / 256 / 256 / 256 / 256 / 256 % 256) (by omega)).2
 have b6:=(c8_of (x / 256 / 256 / 256 / 256 / 256 / 256 % 256) (by omega)).2
 have b7:=(c8_of (x / 256 / 256 / 256 / 256 / 256 / 256 / 256 % 256) (by omega)).2
 simp only[onF,onS]
 generalize pc8 (x % 256)=c0 at *
 generalize pc8 (x / 256 % 256)=c1 at *
 generalize pc8 (x / 256 / 256 % 256)=c2 at *
 generalize pc8 (x / 256 / 256 / 256 % 256)=c3 at *
 generalize pc8 (x / 256 / 256 / 256 / 256 % 256)=c4 at *
 generalize pc8 (x / 256 / 256 / 256 / 256 / 256 % 256)=c5 at *
 generalize pc8 (x / 256 / 256 / 256 / 256 / 256 / 256 % 256)=c6 at *
 generalize pc8 (x / 256 / 256 / 256 / 256 / 256 / 256 / 256 % 256)=c7 at *
 refine⟨_,_,_,rfl,rfl,rfl,?_⟩
 rw[show(256*(256*(256*(256*(256*(256*(256*(256*0+c7)+c6)+c5)+c4)+c3)+c2)+c1)+c0) / 256=256*(256*(256*(256*(256*(256*c7+c6)+c5)+c4)+c3)+c2)+c1 by omega]
 rw[show(256*(256*(256*(256*(256*(256*(256*(256*0+c7)+c6)+c5)+c4)+c3)+c2)+c1)+c0+(256*(256*(256*(256*(256*(256*c7+c6)+c5)+c4)+c3)+c2)+c1)) / 65536=256*(256*(256*(256*(256*c7+(c6+c7))+(c5+c6))+(c4+c5))+(c3+c4))+(c2+c3) by omega]
 rw[show(256*(256*(256*(256*(256*(256*(256*(256*0+c7)+c6)+c5)+c4)+c3)+c2)+c1)+c0+(256*(256*(256*(256*(256*(256*c7+c6)+c5)+c4)+c3)+c2)+c1)+(256*(256*(256*(256*(256*c7+(c6+c7))+(c5+c6))+(c4+c5))+(c3+c4))+(c2+c3))) / 4294967296=256*(256*(256*c7+(c6+c7))+(c5+c6+c7))+(c4+c5+c6+c7) by omega]
 refine⟨by omega,by omega,by omega,by omega,?_⟩
 omega
theorem bitS8 (x:Nat):bitS (x:Int) 8=(pc8 (x % 256):Int):=by
 show 0+(x:Int) / 1 % 2+(x:Int) / 2 % 2+(x:Int) / 4 % 2+(x:Int) / 8 % 2+(x:Int) / 16 % 2+(x:Int) / 32 % 2+(x:Int) / 64 % 2+(x:Int) / 128 % 2=_
 unfold pc8
 omega
theorem bitS_low (x:Nat):∀n:Nat,bitS (x:Int) (n+8)=(pc8 (x % 256):Int)+bitS ((x / 256:Nat):Int) n
 | 0=>by rw[Nat.zero_add,bitS8];show _=_+(0:Int);omega
 | n+1=>by
  show bitS (x:Int) (n+8)+(x:Int) / 2^(n+8) % 2=_+(bitS ((x / 256:Nat):Int) n+((x / 256:Nat):Int) / 2^n % 2)
  rw[bitS_low x n,Nat.add_comm n 8,Int.pow_add,←Int.ediv_ediv_of_nonneg (by decide)]
  rw[show(x:Int) / 2^8=((x / 256:Nat):Int) by rw[show(2:Int)^8=256 by decide];omega]
  omega
theorem bitS_on (x:Nat):bitS (x:Int) 64=(onS 8 x:Int):=by
 rw[show 64=56+8 from rfl,bitS_low,show 56=48+8 from rfl,bitS_low,show 48=40+8 from rfl,bitS_low,show 40=32+8 from rfl,bitS_low,show 32=24+8 from rfl,bitS_low,show 24=16+8 from rfl,bitS_low,show 16=8+8 from rfl,bitS_low,bitS8]
 simp only[onS]
 omega
theorem bitS_63 (x:Int)(h0:0≤x)(h1:x<9223372036854775808):bitS x 64=bitS x 63:=by
 show bitS x 63+x / 2^63 % 2=bitS x 63
 rw[show(2:Int)^63=9223372036854775808 by decide]
 omega
def layB (n:Nat)(N:Int)(k:Nat):Int:=if 8*(k+1)≤n then N / 2^(n-8*(k+1)) % 256 else if 8*k≤n then N % 2^(n-8*k)*2^(8-(n-8*k))else 0
def Lay (n:Nat)(N:Int)(B:List Int):Prop:=B.length=15∧∀k,k<15→nth B k=layB n N k
theorem Lay_zero:Lay 0 0 (zeros 15):=⟨zeros_len 15,fun k hk=>by
 rw[zeros_nth]
 unfold layB
 rw[if_neg (by omega)]
 split
 ·simp
 ·rfl⟩
theorem hlf_pow (N c:Int)(c0:0≤c)(c1:c<2)(m:Nat):(2*N+c) / 2^(m+1)=N / 2^m:=by
 rw[Int.pow_succ,Int.mul_comm (2^m) 2,←Int.ediv_ediv_of_nonneg (by decide),show(2*N+c) / 2=N by omega]
theorem mod_pow (N c:Int)(c0:0≤c)(c1:c<2)(m:Nat):(2*N+c) % 2^(m+1)=2*(N % 2^m)+c:=by
 have hp:=p2_pos m
 have e:=Int.mul_ediv_add_emod N (2^m)
 have b0:=Int.emod_nonneg N (Int.ne_of_gt hp)
 have b1:=Int.emod_lt_of_pos N hp
 rw[Int.pow_succ]
 generalize (2:Int)^m=P at *
 generalize N % P=r at *
 generalize N / P=q at *
 rw[show 2*N+c=2*r+c+(P*2)*q by rw[←e,Int.mul_add,Int.mul_comm P 2,Int.mul_assoc];omega]
 rw[Int.add_mul_emod_self_left]
 exact Int.emod_eq_of_lt (by omega) (by omega)
theorem lay_or (n:Nat)(N:Int)(hn:n<120):∃y,layB n N (n / 8)=y*2^(8-n % 8)∧0≤y∧y<2^(n % 8):=by
 unfold layB
 rw[if_neg (by omega),if_pos (by omega),show n-8*(n / 8)=n % 8 by omega]
 exact⟨_,rfl,Int.emod_nonneg _ (Int.ne_of_gt (p2_pos _)),Int.emod_lt_of_pos _ (p2_pos _)⟩
theorem lay_step {n:Nat}{N:Int}{B:List Int}(h:Lay n N B)(hn:n<120)(c:Int)(c0:0≤c)(c1:c<2):Lay (n+1) (2*N+c) (B.set (n / 8) (nth B (n / 8)+c*2^(7-n % 8))):=by
 obtain⟨hl,hb⟩:=h
 refine⟨by rw[List.length_set,hl],fun k hk=>?_⟩
 rw[nth_set _ _ _ (by omega)]
 by_cases e:k=n / 8
 ·subst e
  rw[if_pos rfl,hb _ hk]
  unfold layB
  rw[if_neg (by omega),if_pos (by omega),show n-8*(n / 8)=n % 8 by omega]
  by_cases e7:n % 8=7
  ·rw[if_pos (by omega),e7,show n+1-8*(n / 8+1)=0 by omega]
   rw[show(2:Int)^0=1 from rfl,Int.ediv_one,show(256:Int)=2^(7+1)from rfl,mod_pow N c c0 c1]
   rw[show(2:Int)^(8-7)=2 from rfl]
   omega
  ·rw[if_neg (by omega),if_pos (by omega),show n+1-8*(n / 8)=n % 8+1 by omega,mod_pow N c c0 c1]
   rw[show 8-n % 8=(7-n % 8)+1 by omega,show 8-(n % 8+1)=7-n % 8 by omega,Int.pow_succ,Int.add_mul]
   rw[Int.mul_comm (2^(7-n % 8)) 2,←Int.mul_assoc,Int.mul_comm (N % 2^(n % 8)) 2]
 ·rw[if_neg e,hb _ hk]
  unfold layB
  by_cases e1:8*(k+1)≤n
  ·rw[if_pos e1,if_pos (by omega),show n+1-8*(k+1)=n-8*(k+1)+1 by omega,hlf_pow N c c0 c1]
  ·rw[if_neg e1,if_neg (by omega),if_neg (by omega)]
   by_cases e2:8*(k+1)≤n+1
   ·omega
   ·by_cases e3:8*k≤n+1
    ·rw[if_pos e3,show n+1-8*k=0 by omega,show(2:Int)^0=1 from rfl,Int.emod_one,Int.zero_mul]
    ·rw[if_neg e3]
def putN (N:Int)(w:Nat)(x:Int)(j:Nat):Int:=N*2^j+x / 2^(w-j)
theorem putN_zero (N:Int)(w:Nat)(x:Int)(h0:0≤x)(h1:x<2^w):putN N w x 0=N:=by
 unfold putN
 rw[show(2:Int)^0=1 from rfl,Nat.sub_zero,Int.ediv_eq_zero_of_lt h0 h1]
 omega
theorem putN_step (N:Int)(w:Nat)(x:Int)(j:Nat)(hj:j<w):putN N w x (j+1)=2*putN N w x j+x / 2^(w-1-j) % 2:=by
 unfold putN
 rw[Int.pow_succ,show w-j=(w-1-j)+1 by omega,show w-(j+1)=w-1-j by omega,Int.pow_succ,←Int.ediv_ediv_of_nonneg (Int.le_of_lt (p2_pos _)),Int.mul_add]
 rw[←Int.mul_assoc,Int.mul_comm (N*2^j) 2,←Int.mul_assoc]
 generalize x / 2^(w-1-j)=y
 omega
theorem putN_end (N:Int)(w:Nat)(x:Int):putN N w x w=N*2^w+x:=by
 unfold putN
 rw[Nat.sub_self,show(2:Int)^0=1 from rfl,Int.ediv_one]
def takN (X:Int)(n j:Nat):Int:=X / 2^(112-n-j) % 2^j
theorem takN_zero (X:Int)(n:Nat):takN X n 0=0:=by
 unfold takN
 rw[show(2:Int)^0=1 from rfl,Int.emod_one]
theorem takN_bd (X:Int)(n j:Nat):0≤takN X n j∧takN X n j<2^j:=⟨Int.emod_nonneg _ (Int.ne_of_gt (p2_pos _)),Int.emod_lt_of_pos _ (p2_pos _)⟩
theorem takN_step (X:Int)(n j:Nat)(h:n+j<112):takN X n (j+1)=2*takN X n j+X / 2^(111-(n+j)) % 2:=by
 unfold takN
 rw[show 112-n-(j+1)=111-(n+j) by omega,show 112-n-j=111-(n+j)+1 by omega,Int.pow_succ 2 (111-(n+j)),←Int.ediv_ediv_of_nonneg (Int.le_of_lt (p2_pos _))]
 generalize X / 2^(111-(n+j))=Y
 have:=mod_pow (Y / 2) (Y % 2) (by omega) (by omega) j
 rw[show 2*(Y / 2)+Y % 2=Y by omega]at this
 exact this
theorem bit_of (Z:Int)(r:Nat)(hr:r<8):Z % 256 / 2^r % 2=Z / 2^r % 2:=by
 match r,hr with
 | 0,_=>show Z % 256 / 1 % 2=Z / 1 % 2;omega
 | 1,_=>show Z % 256 / 2 % 2=Z / 2 % 2;omega
 | 2,_=>show Z % 256 / 4 % 2=Z / 4 % 2;omega
 | 3,_=>show Z % 256 / 8 % 2=Z / 8 % 2;omega
 | 4,_=>show Z % 256 / 16 % 2=Z / 16 % 2;omega
 | 5,_=>show Z % 256 / 32 % 2=Z / 32 % 2;omega
 | 6,_=>show Z % 256 / 64 % 2=Z / 64 % 2;omega
 | 7,_=>show Z % 256 / 128 % 2=Z / 128 % 2;omega
theorem byte_bit (X:Int)(n:Nat)(hn:n<112):X / 256^(13-n / 8) % 256 / 2^(7-n % 8) % 2=X / 2^(111-n) % 2:=by
 rw[bit_of _ _ (by omega),show(256:Int)=2^8 from rfl,←Int.pow_mul,Int.ediv_ediv_of_nonneg (Int.le_of_lt (p2_pos _)),←Int.pow_add,show 8*(13-n / 8)+(7-n % 8)=111-n by omega]
theorem layB_bd (n:Nat)(N:Int)(k:Nat):0≤layB n N k∧layB n N k<256:=by
 unfold layB
 split
 ·omega
 ·split
  ·next h1 h2=>
   have hp:=p2_pos (n-8*k)
   have b0:=Int.emod_nonneg N (Int.ne_of_gt hp)
   have b1:=Int.emod_lt_of_pos N hp
   have hq:=p2_pos (8-(n-8*k))
   have e:(2:Int)^(n-8*k)*2^(8-(n-8*k))=256:=by
    rw[←Int.pow_add,show n-8*k+(8-(n-8*k))=8 by omega];rfl
   refine⟨Int.mul_nonneg b0 (Int.le_of_lt hq),?_⟩
   rw[←e]
   exact Int.mul_lt_mul_of_pos_right b1 hq
  ·omega
theorem Lay.bd {n:Nat}{N:Int}{B:List Int}(h:Lay n N B)(k:Nat):0≤nth B k∧nth B k<256:=by
 by_cases hk:k<15
 ·rw[h.2 k hk];exact layB_bd n N k
 ·rw[getD_out _ k (by rw[h.1];omega)];omega
theorem orF:∀r:Fin 8,∀x:Fin 256,∀c:Fin 2,(x.val:Int) % 2^(8-r.val)=0→bits BinOp.or IntKind.u8 (x.val:Int) ((c.val:Int)*2^(7-r.val))=(x.val:Int)+(c.val:Int)*2^(7-r.val):=by decide +kernel
theorem lay_bits {n:Nat}{N:Int}{B:List Int}(h:Lay n N B)(hn:n<120)(c:Int)(c0:0≤c)(c1:c<2):bits BinOp.or IntKind.u8 (nth B (n / 8)) (c*2^(7-n % 8))=nth B (n / 8)+c*2^(7-n % 8):=by
 have hb:=h.bd (n / 8)
 have hy:nth B (n / 8) % 2^(8-n % 8)=0:=by
  rw[h.2 _ (by omega)]
  obtain⟨y,e,_,_⟩:=lay_or n N hn
  rw[e,Int.mul_emod_left]
 have:=orF ⟨n % 8,by omega⟩ ⟨(nth B (n / 8)).toNat,by omega⟩ ⟨c.toNat,by omega⟩
 simp only[Int.toNat_of_nonneg hb.1,Int.toNat_of_nonneg c0]at this
 exact this hy
theorem shlF:∀r:Fin 8,∀c:Fin 2,(c.val:Int)*2^r.val % 256=(c.val:Int)*2^r.val∧(c.val:Int)*2^r.val≤128:=by decide +kernel
theorem shl_bit (r:Nat)(hr:r<8)(c:Int)(c0:0≤c)(c1:c<2):c*2^r % 256=c*2^r∧0≤c*2^r∧c*2^r≤128:=by
 have:=shlF ⟨r,hr⟩ ⟨c.toNat,by omega⟩
 simp only[Int.toNat_of_nonneg c0]at this
 exact⟨this.1,Int.mul_nonneg c0 (Int.le_of_lt (p2_pos r)),this.2⟩
theorem and1I:∀q:Fin 256,bits BinOp.and IntKind.i64 (q.val:Int) 1=(q.val:Int) % 2:=by decide +kernel
theorem and1B:∀q:Fin 256,bits BinOp.and IntKind.u8 (q.val:Int) 1=(q.val:Int) % 2:=by decide +kernel
theorem and255F:∀h:Fin 16,∀q:Fin 256,bits BinOp.and IntKind.i64 (256*(h.val:Int)+(q.val:Int)) 255=(q.val:Int):=by decide +kernel
theorem or1F:∀x:Fin 64,∀c:Fin 2,bits BinOp.or IntKind.i64 (2*(x.val:Int)) (c.val:Int)=2*(x.val:Int)+(c.val:Int):=by decide +kernel
theorem and_i (x:Int)(h0:0≤x)(h1:x<256):bits BinOp.and IntKind.i64 x 1=x % 2:=by
 have:=and1I ⟨x.toNat,by omega⟩
 simpa only[Int.toNat_of_nonneg h0] using this
theorem and_b (x:Int)(h0:0≤x)(h1:x<256):bits BinOp.and IntKind.u8 x 1=x % 2:=by
 have:=and1B ⟨x.toNat,by omega⟩
 simpa only[Int.toNat_of_nonneg h0] using this
theorem and_255 (x:Int)(h0:0≤x)(h1:x<4096):bits BinOp.and IntKind.i64 x 255=x % 256:=by
 have:=and255F ⟨(x / 256).toNat,by omega⟩ ⟨(x % 256).toNat,by omega⟩
 simp only[Int.toNat_of_nonneg (show 0≤x / 256 by omega),Int.toNat_of_nonneg (show 0≤x % 256 by omega)]at this
 rw[show 256*(x / 256)+x % 256=x by omega]at this
 exact this
theorem or_i (x c:Int)(h0:0≤x)(h1:x<64)(c0:0≤c)(c1:c<2):bits BinOp.or IntKind.i64 (2*x) c=2*x+c:=by
 have:=or1F ⟨x.toNat,by omega⟩ ⟨c.toNat,by omega⟩
 simpa only[Int.toNat_of_nonneg h0,Int.toNat_of_nonneg c0] using this
theorem dvb_bd (x:Int)(h0:0≤x)(h1:x<256)(m:Nat):0≤x / 2^m∧x / 2^m<256:=by
 have hp:=p2_pos m
 refine⟨Int.ediv_nonneg h0 (Int.le_of_lt hp),?_⟩
 have:=Int.ediv_le_self (2^m) h0
 omega
theorem lay_lo {N:Int}{B:List Int}(h:Lay 112 N B)(k:Nat)(hk:k<14):nth B k=byN N k:=by
 rw[h.2 k (by omega)]
 unfold layB byN
 rw[if_pos (by omega),show(256:Int)=2^8 from rfl,←Int.pow_mul,show 112-8*(k+1)=8*(13-k) by omega]
theorem lay_sum {N:Int}{B:List Int}(h:Lay 112 N B):chN B 14=chN (pkL N) 14:=by
 unfold chN
 rw[sumB_congr B (pkL N) 14 (fun i hi=>by rw[lay_lo h i hi,pkL_nth _ _ hi])]
theorem lay_end {l:List Int}{B:List Int}(h:Lay 120 (numP l*2^8+chN (pkL (numP l)) 14) B):B=pkA l:=by
 have s0:0≤chN (pkL (numP l)) 14∧chN (pkL (numP l)) 14<256:=by unfold chN;omega
 have t1:=tab_ext (p:=nth (pkA l)) h.1 (fun k hk=>by
  rw[h.2 k hk]
  unfold layB
  rw[if_pos (by omega)]
  by_cases e:k=14
  ·subst e
   rw[show 120-8*(14+1)=0 from rfl,show(2:Int)^0=1 from rfl,Int.ediv_one,show(2:Int)^8=256 from rfl,pkA_hi]
   have e2:chN (pkA l) 14=chN (pkL (numP l)) 14:=by
    unfold chN
    rw[sumB_congr (pkA l) (pkL (numP l)) 14 (fun i hi=>by rw[pkA_lo l i hi,pkL_nth _ _ hi])]
   rw[e2]
   omega
  ·rw[pkA_lo l k (by omega),show 120-8*(k+1)=8+8*(13-k) by omega,Int.pow_add,←Int.ediv_ediv_of_nonneg (by decide),show(2:Int)^8=256 from rfl,show(numP l*256+chN (pkL (numP l)) 14) / 256=numP l by omega]
   unfold byN
   rw[show(256:Int)=2^8 from rfl,←Int.pow_mul])
 have t2:=tab_ext (p:=nth (pkA l)) (pkA_len l) (fun i _=>rfl)
 rw[t1,←t2]
theorem sW_next (i:Nat):sW (i+1)=sW i+wdN i:=rfl
theorem tak_field (X:Int)(i:Nat):takN X (sW i) (wdN i)=fI X i:=by
 unfold takN fI
 rw[sW_next,Nat.sub_sub]
theorem tak_par (X:Int):takN X 106 1=pB X:=by
 show X / 2^5 % 2^1=X / 32 % 2
 rw[show(2:Int)^5=32 from rfl,show(2:Int)^1=2 from rfl]
theorem tak_spare (X:Int):takN X 107 5=X % 32:=by
 show X / 2^0 % 2^5=X % 32
 rw[show(2:Int)^5=32 from rfl,show(2:Int)^0=1 from rfl,Int.ediv_one]
theorem bit_at (b:List Int)(hb:byB b)(n:Nat)(hn:n<112):nth b (n / 8) / 2^(7-n % 8) % 2=xB b 14 / 2^(111-n) % 2:=by
 rw[←byte_bit (xB b 14) n hn,←byN_xB b hb (n / 8) (by omega)]
 rfl
theorem pc_word (x:Int)(h0:0≤x)(h1:x<9223372036854775808):∃a b y z u v:Int,
  bits BinOp.and IntKind.u64 (x / 2) 6148914691236517205+bits BinOp.and IntKind.u64 x 6148914691236517205=a∧0≤a∧a<18446744073709551616∧
  bits BinOp.and IntKind.u64 (a / 4) 3689348814741910323+bits BinOp.and IntKind.u64 a 3689348814741910323=b∧0≤b∧b<18446744073709551616∧
  b / 16+b<18446744073709551616∧bits BinOp.and IntKind.u64 (b / 16+b) 1085102592571150095=y∧y+y / 256=z∧z+z / 65536=u∧u+u / 4294967296=v∧0≤y∧y<4611686018427387904∧0≤z∧z<4611686018427387904∧0≤u∧u<4611686018427387904∧0≤v∧v<4611686018427387904∧v % 128=bitS x 63:=by
 obtain⟨X,rfl⟩:=Int.eq_ofNat_of_zero_le h0
 have m0:mkB 85 8=6148914691236517205:=by decide
 have m1:mkB 51 8=3689348814741910323:=by decide
 have m2:mkB 15 8=1085102592571150095:=by decide
 have A1:(X / 2 &&& 6148914691236517205)≤6148914691236517205:=Nat.and_le_right
 have A2:(X &&& 6148914691236517205)≤6148914691236517205:=Nat.and_le_right
 have eA:stA 8 X=(X / 2 &&& 6148914691236517205)+(X &&& 6148914691236517205):=by unfold stA;rw[m0]
 have B1:(stA 8 X / 4 &&& 3689348814741910323)≤3689348814741910323:=Nat.and_le_right
 have B2:(stA 8 X &&& 3689348814741910323)≤3689348814741910323:=Nat.and_le_right
 have eB:stB 8 (stA 8 X)=(stA 8 X / 4 &&& 3689348814741910323)+(stA 8 X &&& 3689348814741910323):=by unfold stB;rw[m1]
 have eC:stC 8 (stB 8 (stA 8 X))=(stB 8 (stA 8 X) / 16+stB 8 (stA 8 X) &&& 1085102592571150095):=by unfold stC;rw[m2]
 obtain⟨z,u,v,e1,e2,e3,b0,b1,b2,b3,e4⟩:=on_sum X
 rw[←bitS_63 _ h0 h1,bitS_on,←e4]
 rw[←onF_of]at e1 b0
 refine⟨(stA 8 X:Int),(stB 8 (stA 8 X):Int),(stC 8 (stB 8 (stA 8 X)):Int),(z:Int),(u:Int),(v:Int),?_,by omega,by omega,?_,by omega,by omega,by omega,?_,by omega,by omega,by omega,by omega,by omega,by omega,by omega,by omega,by omega,by omega,by omega,by omega⟩
 ·have p:=u64_and_nat (X / 2) 6148914691236517205 (by omega) (by decide)
  have q:=u64_and_nat X 6148914691236517205 (by omega) (by decide)
  rw[eA]
  rw[show((X / 2:Nat):Int)=(X:Int) / 2 by omega]at p
  show bits BinOp.and IntKind.u64 ((X:Int) / 2) ((6148914691236517205:Nat):Int)+bits BinOp.and IntKind.u64 (X:Int) ((6148914691236517205:Nat):Int)=_
  rw[p,q]
  omega
 ·have p:=u64_and_nat (stA 8 X / 4) 3689348814741910323 (by omega) (by decide)
  have q:=u64_and_nat (stA 8 X) 3689348814741910323 (by omega) (by decide)
  rw[eB]
  rw[show((stA 8 X / 4:Nat):Int)=(stA 8 X:Int) / 4 by omega]at p
  show bits BinOp.and IntKind.u64 ((stA 8 X:Int) / 4) ((3689348814741910323:Nat):Int)+bits BinOp.and IntKind.u64 (stA 8 X:Int) ((3689348814741910323:Nat):Int)=_
  rw[p,q]
  omega
 ·have p:=u64_and_nat (stB 8 (stA 8 X) / 16+stB 8 (stA 8 X)) 1085102592571150095 (by omega) (by decide)
  rw[eC]
  rw[show((stB 8 (stA 8 X) / 16+stB 8 (stA 8 X):Nat):Int)=(stB 8 (stA 8 X):Int) / 16+(stB 8 (stA 8 X):Int) by omega]at p
  exact p
end Go.Proofs.YtdejpongekicdaaGreatDoor

/- PkpB -/
namespace Go.Proofs.YtdejpongekicdaaGreatDoor
open Go.RowKit
set_option linter.unusedVariables false
set_option linter.unusedSimpArgs false
set_option maxHeartbeats 1000000
structure Trp (f:Nat→Prop) (w w':World):Prop where
 os:w'.os=w.os
 tape:w'.tape=w.tape
 output:w'.output=w.output
 size:w.heap.size≤w'.heap.size
 block:∀k,k<w.heap.size→¬f k→w'.heap[k]?=w.heap[k]?
theorem Trp.refl (f:Nat→Prop)(w:World):Trp f w w:=⟨rfl,rfl,rfl,Nat.le_refl _,fun _ _ _=>rfl⟩
theorem Trp.of {w w':World}{r:Option Nat}{f:Nat→Prop}(h:w.grownBy w' r)(hf:∀k,r=some k→k<w.heap.size→f k):Trp f w w':=
 ⟨h.os,h.tape,h.output,h.size,fun k hk hn=>h.block k hk (fun e=>hn (hf k e.symm hk))⟩
theorem Trp.trans {a b c:World}{f:Nat→Prop}(h:Trp f a b)(k:Trp f b c):Trp f a c:=
 ⟨k.os.trans h.os,k.tape.trans h.tape,k.output.trans h.output,Nat.le_trans h.size k.size,fun i hi hn=>by
  rw[k.block i (Nat.lt_of_lt_of_le hi h.size) hn,h.block i hi hn]⟩
theorem Trp.none {w a b:World}{f:Nat→Prop}(h:w.grownBy a none)(k:Trp f a b)(hf:∀i,f i→w.heap.size≤i):w.grownBy b none:=
 ⟨k.os.trans h.os,k.tape.trans h.tape,k.output.trans h.output,Nat.le_trans h.size k.size,fun i hi _=>by
  rw[k.block i (Nat.lt_of_lt_of_le hi h.size) (fun e=>by have:=hf i e;omega),h.block i hi (by simp)]⟩
def BlB (w:World)(b:Nat)(rs:List Int):Prop:=w.heap[b]?=some (.cells (arrB rs) 5 (0,0))
theorem BlB.cell {w:World}{b:Nat}{rs:List Int}(h:BlB w b rs)(i:Nat)(hi:i<rs.length):w.cell? ⟨b,i,none⟩=some (.int .u8 (nth rs i)):=(cell_of_heap h i).trans (arrB_get rs i hi)
theorem BlB.free {w:World}{b:Nat}{rs:List Int}(h:BlB w b rs)(i:Nat):w.frozen? ⟨b,i,none⟩=false:=frozen_of_heap h i
theorem BlB.set {w:World}{b:Nat}{rs:List Int}(h:BlB w b rs)(k:Nat)(z:Int):BlB (w.setCell ⟨b,k,none⟩ (.int .u8 z)) b (rs.set k z):=by
 unfold BlB
 rw[heap_setCell h,arrB_set]
theorem BlB.keep {w w':World}{b:Nat}{rs:List Int}(h:BlB w b rs)(g:w.grownBy w' none):BlB w' b rs:=(g.block _ (lt_of_some h) (by simp)).trans h
theorem BlB.byts {w:World}{b:Nat}{rs:List Int}(h:BlB w b rs)(n:Nat)(hn:n≤rs.length)(c:Nat)(hc:n≤c):Byts w (.slice (some ⟨b,0,none⟩) n c) (rs.take n):=by
 have e:(rs.take n).length=n:=by simp;omega
 refine⟨some ⟨b,0,none⟩,c,by rw[e],by omega,fun _=>⟨_,rfl,fun i hi=>?_⟩⟩
 rw[e]at hi
 rw[Addr.add_mid,Nat.zero_add,h.cell i (by omega)]
 simp[nth,List.getD,List.getElem?_take,hi]
theorem pcell_some {w:World}{b o:Nat}{v:Value}(h:w.cell? ⟨b,o,none⟩=some v):b<w.heap.size:=by
 rcases Nat.lt_or_ge b w.heap.size with q|q
 ·exact q
 ·simp[World.cell?,Array.getElem?_eq_none q]at h
theorem pcell_but {w w':World}{b o:Nat}{r:Option Nat}{v:Value}(h:w.cell? ⟨b,o,none⟩=some v)(g:w.grownBy w' r)(hb:r≠some b):w'.cell? ⟨b,o,none⟩=some v:=by
 have hlt:=pcell_some h
 have e:=g.block b hlt (fun e=>hb e.symm)
 simp only[World.cell?]at h ⊢
 rw[e];exact h
structure PutS (cb ca bb n:Nat) (B:List Int) (w:World):Prop where
 var:w.cell? ⟨cb,0,none⟩=some (.slice (some ⟨bb,0,none⟩) 15 15)
 at':w.heap[ca]?=some (.cells #[.int .i64 (n:Int)] 3 (0,0))
 byt:BlB w bb B
 ne1:ca≠bb
 ne2:cb≠bb
 ne3:cb≠ca
theorem PutS.keep {cb ca bb n:Nat}{B:List Int}{w w':World}(h:PutS cb ca bb n B w)(g:w.grownBy w' none):PutS cb ca bb n B w':=
 ⟨grown_keep g h.var,(g.block _ (lt_of_some h.at') (by simp)).trans h.at',h.byt.keep g,h.ne1,h.ne2,h.ne3⟩
theorem PutS.set {cb ca bb n:Nat}{B:List Int}{w:World}(h:PutS cb ca bb n B w)(k:Nat)(z:Int):PutS cb ca bb n (B.set k z) (w.setCell ⟨bb,k,none⟩ (.int .u8 z)):=by
 have g:=grown_setCell w ⟨bb,k,none⟩ (.int .u8 z)
 exact⟨pcell_but h.var g (fun e=>h.ne2 (by cases e;rfl)),(g.block _ (lt_of_some h.at') (fun e=>h.ne1 (by cases e;rfl))).trans h.at',h.byt.set k z,h.ne1,h.ne2,h.ne3⟩
theorem PutS.next {cb ca bb n:Nat}{B:List Int}{w:World}(h:PutS cb ca bb n B w)(m:Nat):PutS cb ca bb m B (w.setCell ⟨ca,0,none⟩ (.int .i64 (m:Int))):=by
 have g:=grown_setCell w ⟨ca,0,none⟩ (.int .i64 (m:Int))
 exact⟨pcell_but h.var g (fun e=>h.ne3 (by cases e;rfl)),by rw[heap_setCell h.at'];rfl,(g.block _ (lt_of_some h.byt) (fun e=>h.ne1 (by cases e;rfl))).trans h.byt,h.ne1,h.ne2,h.ne3⟩
theorem PutS.cat {cb ca bb n:Nat}{B:List Int}{w:World}(h:PutS cb ca bb n B w):w.cell? ⟨ca,0,none⟩=some (.int .i64 (n:Int)):=by rw[cell_of_heap h.at'];rfl
theorem pkPlace_any (n:Nat)(hn:n<1000)(w:World) :
  Calls Tryz.prog 166 #[.int .i64 (n:Int)] w fun e w'=>e=.returned (.int .i64 ((7-n % 8:Nat):Int))∧w'=w:=by
 have h1:(n:Int).tmod 8=((n % 8:Nat):Int):=by rw[Int.tmod_eq_emod_of_nonneg (by omega)];omega
 have h2:(n:Int) % 8=((n % 8:Nat):Int):=by omega
 have h3:((7-n % 8:Nat):Int)=7-((n % 8:Nat):Int):=by omega
 have h4:n % 8<8:=by omega
 rw[h3]
 clear h3
 generalize n % 8=r at *
 go_enter Tryz.func166,Tryz.ntmps166
 go_wp2_with fail
 go_ret
 first|exact⟨rfl,rfl⟩|(constructor<;>first|rfl|(congr 2;omega)|simp_all)
set_option maxRecDepth 100000 in
theorem pkPut_any (cb ca bb n k:Nat)(N x:Int)(B:List Int)(w:World)(hk:k≤8)(hn:n+k≤120)(h0:0≤x)(h1:x<2^k)(hx:x<256)(hS:PutS cb ca bb n B w)(hL:Lay n N B) :
  Calls Tryz.prog 165 #[.int .i64 x,.int .i64 (k:Int),.pointer (some ⟨cb,0,none⟩),.pointer (some ⟨ca,0,none⟩)] w fun e w'=>e=.returned (.tuple #[])∧∃B',Lay (n+k) (N*2^k+x) B'∧PutS cb ca bb (n+k) B' w'∧Trp (fun i=>i=ca∨i=bb) w w':=by
 have M0:=hide (show Lay (n+0) (putN N k x 0) B∧PutS cb ca bb (n+0) B w∧Trp (fun i=>i=ca∨i=bb) w w from⟨by rw[putN_zero N k x h0 h1];exact hL,hS,Trp.refl _ _⟩)
 have H2:=hide h1
 clear hL hS h1
 go_enter Tryz.func165,Tryz.ntmps165
 go_wp2_with fail
 go_loopw [6] (fun i wr=>∃(j:Nat) (B:List Int),i=.int .i64 ((k:Int)-1-(j:Int))∧j≤k∧Hid (Lay (n+j) (putN N k x j) B∧PutS cb ca bb (n+j) B wr∧Trp (fun i=>i=ca∨i=bb) w wr)) (fun i _=>(intOf i+1).toNat)
 case atStart=>exact⟨0,B,by simp,Nat.zero_le _,M0.out⟩
 case round=>
  obtain⟨j,B,rfl,hj,hM⟩:=hrel
  clear M0
  by_cases hjk:j<k
  ·obtain⟨I,hI⟩:∃I:Nat,k-1-j=I:=⟨_,rfl⟩
   rw[show(k:Int)-1-(j:Int)=(I:Int) by omega]
   have hI8:(I:Int)<8:=by omega
   have HI:=hide hI
   have PL:=hide (pkPlace_any (n+j) (by omega))
   have NS:=hide (show Lay (n+(j+1)) (putN N k x (j+1)) (B.set ((n+j) / 8) (nth B ((n+j) / 8)+x / 2^I % 2*2^(7-(n+j) % 8)))from by
    have:=lay_step hM.out.1 (by omega) (x / 2^I % 2) (by omega) (by omega)
    rw[putN_step N k x j hjk,hI]
    exact this)
   have NB:=hM.out.1.bd ((n+j) / 8)
   have hz:=lay_bits hM.out.1 (by omega) (x / 2^I % 2) (by omega) (by omega)
   have hdq:=shl_bit (7-(n+j) % 8) (by omega) (x / 2^I % 2) (by omega) (by omega)
   have hxb:=dvb_bd x h0 hx I
   have hc:=and_i (x / 2^I) hxb.1 hxb.2
   have hcb:0≤x / 2^I % 2∧x / 2^I % 2<2:=by omega
   have hBl:=hM.out.1.1
   have cv:=hM.out.2.1.var
   have cat:=hM.out.2.1.cat
   have cy:=hM.out.2.1.byt.cell ((n+j) / 8) (by omega)
   have fy:=hM.out.2.1.byt.free ((n+j) / 8)
   have hq1:((n+j:Nat):Int).tdiv 8=(((n+j) / 8:Nat):Int):=by rw[Int.tdiv_eq_ediv_of_nonneg (by omega)];omega
   have hq2:((n+j:Nat):Int) / 8=(((n+j) / 8:Nat):Int):=by omega
   have hq15:(((n+j) / 8:Nat):Int)<15:=by omega
   have SS:=hide (fun(z:Int)=>hM.out.2.1.set ((n+j) / 8) z)
   have TT:=hide (fun(z:Int)=>Trp.trans hM.out.2.2 (Trp.of (grown_setCell wr ⟨bb,(n+j) / 8,none⟩ (.int .u8 z)) (fun k e _=>by cases e;exact .inr rfl)))
   have hnj:n+j≤120:=by omega
   rw[show n+(j+1)=n+j+1 by omega]at NS
   clear hM hBl H2
   generalize nth B ((n+j) / 8)=y at *
   generalize (n+j) / 8=q at *
   generalize hp:7-(n+j) % 8=p at *
   generalize hm:n+j=m at *
   have HM:=hide hm
   clear hm
   generalize x / 2^I % 2=c at *
   have hp7:p≤7:=by omega
   clear hp
   generalize hdd:c*2^p=d at *
   generalize hzz:y+d=z at *
   have WQ:=wrapI (q:Int) (by omega) (by omega)
   have hu:IntKind.u8.wrap c=c:=by rw[IntKind.wrap_u8];omega
   have hd:IntKind.u8.wrap d=d:=by rw[IntKind.wrap_u8];omega
   go_upto_region 3 with fail
   generalize hwy:wr=wy at *
   clear hwy
   refine wp_region_G 15 (fun w'=>w'=wy.drew) 16 (by rfl) #[false,false,false,false,false,false,false,false,false,false,false,false,false,false,false,false] (by rfl) (by kernel_rfl) (fun hcl=>?_)
   refine wpAnyG_take (i:=0) (v:=?vpu0) rfl (by kernel_rfl) hcl (fun _ _ _ h=>h) (Or.inl ⟨by rfl,?ypu0⟩) rfl (fun hcl=>?rpu0)
   case ypu0=>(intro w' hSw;subst hSw;go_simp;try with_reducible rfl)
   (try simp only[Act.put,sL])
   refine wpAnyG_take (i:=1) (v:=.int .i64 (m:Int)) rfl (by kernel_rfl) hcl (fun _ _ _ h=>h) (Or.inl ⟨by rfl,?ypu1⟩) rfl (fun hcl=>?rpu1)
   case ypu1=>(intro w' hSw;subst hSw;go_simp;try with_reducible rfl)
   (try simp only[Act.put,sL])
   refine wpAnyG_take (i:=2) (v:=.int .i64 (q:Int)) rfl (by kernel_rfl) hcl (fun _ _ _ h=>h) (Or.inl ⟨by rfl,?ypu2⟩) rfl (fun hcl=>?rpu2)
   case ypu2=>(intro w' hSw;subst hSw;go_simp;try simp only[hq1,hq2,WQ])
   (try simp only[Act.put,sL])
   refine wpAnyG_take (i:=3) (v:=?vpu3) rfl (by kernel_rfl) hcl (fun _ _ _ h=>h) (Or.inl ⟨by rfl,?ypu3⟩) rfl (fun hcl=>?rpu3)
   case ypu3=>(intro w' hSw;subst hSw;go_simp;try with_reducible rfl)
   (try simp only[Act.put,sL])
   refine wpAnyG_take (i:=4) (v:=.int .u8 y) rfl (by kernel_rfl) hcl (fun _ _ _ h=>h) (Or.inl ⟨by rfl,?ypu4⟩) rfl (fun hcl=>?rpu4)
   case ypu4=>(intro w' hSw;subst hSw;go_simp;try with_reducible rfl)
   (try simp only[Act.put,sL])
   refine wpAnyG_take (i:=5) (v:=?vpu5) rfl (by kernel_rfl) hcl (fun _ _ _ h=>h) (Or.inl ⟨by rfl,?ypu5⟩) rfl (fun hcl=>?rpu5)
   case ypu5=>(intro w' hSw;subst hSw;go_simp;try with_reducible rfl)
   (try simp only[Act.put,sL])
   refine wpAnyG_take (i:=6) (v:=?vpu6) rfl (by kernel_rfl) hcl (fun _ _ _ h=>h) (Or.inl ⟨by rfl,?ypu6⟩) rfl (fun hcl=>?rpu6)
   case ypu6=>(intro w' hSw;subst hSw;go_simp;try with_reducible rfl)
   (try simp only[Act.put,sL])
   refine wpAnyG_take (i:=7) (v:=.int .i64 (x / 2^I)) rfl (by kernel_rfl) hcl (fun _ _ _ h=>h) (Or.inl ⟨by rfl,?ypu7⟩) rfl (fun hcl=>?rpu7)
   case ypu7=>(intro w' hSw;subst hSw;go_simp;try with_reducible rfl)
   (try simp only[Act.put,sL])
   refine wpAnyG_take (i:=8) (v:=.int .i64 c) rfl (by kernel_rfl) hcl (fun _ _ _ h=>h) (Or.inl ⟨by rfl,?ypu8⟩) rfl (fun hcl=>?rpu8)
   case ypu8=>(intro w' hSw;subst hSw;go_simp;try simp only[hc])
   (try simp only[Act.put,sL])
   refine wpAnyG_take (i:=9) (v:=.int .u8 c) rfl (by kernel_rfl) hcl (fun _ _ _ h=>h) (Or.inl ⟨by rfl,?ypu9⟩) rfl (fun hcl=>?rpu9)
   case ypu9=>(intro w' hSw;subst hSw;go_simp;try simp only[hu])
   (try simp only[Act.put,sL])
   refine wpAnyG_take (i:=10) (v:=.int .i64 (m:Int)) rfl (by kernel_rfl) hcl (fun _ _ _ h=>h) (Or.inl ⟨by rfl,?ypu10⟩) rfl (fun hcl=>?rpu10)
   case ypu10=>(intro w' hSw;subst hSw;go_simp;try with_reducible rfl)
   (try simp only[Act.put,sL])
   refine wpAnyG_exec (i:=11) rfl (by kernel_rfl) hcl (fun K hK=>?_)
   (try simp only[Act.put,sL])
   go_simp
   refine(PL.out _).mono ?_
   rintro e w1 ⟨rfl,rfl⟩
   go_wp2_with fail
   refine hK.out _ _ (fun _=>rfl) (fun hcl=>?_)
   clear hK
   (try simp only[Act.put,sL])
   refine wpAnyG_take (i:=12) (v:=.int .u8 d) rfl (by kernel_rfl) hcl (fun _ _ _ h=>h) (Or.inl ⟨by rfl,?ypu12⟩) rfl (fun hcl=>?rpu12)
   case ypu12=>(intro w' hSw;subst hSw;go_simp;try simp only[hd])
   (try simp only[Act.put,sL])
   refine wpAnyG_take (i:=13) (v:=.int .u8 z) rfl (by kernel_rfl) hcl (fun _ _ _ h=>h) (Or.inl ⟨by rfl,?ypu13⟩) rfl (fun hcl=>?rpu13)
   case ypu13=>(intro w' hSw;subst hSw;go_simp;try simp only[hz])
   (try simp only[Act.put,sL])
   refine wpAnyG_take (i:=14) (v:=?vpu14) rfl (by kernel_rfl) hcl (fun _ _ _ h=>h) (Or.inl ⟨by rfl,?ypu14⟩) rfl (fun hcl=>?rpu14)
   case ypu14=>(intro w' hSw;subst hSw;go_simp;try with_reducible rfl)
   (try simp only[Act.put,sL])
   refine wpAnyG_exec (i:=15) rfl (by kernel_rfl) hcl (fun K hK=>?_)
   (try simp only[Act.put,sL])
   go_simp
   go_wp2_with fail
   refine hK.out _ _ (fun h=>by cases h) (fun hcl=>?_)
   clear hK
   (try simp only[Act.put,sL])
   refine wpAnyG_of_any _ _ _ _ (by rfl) ?_
   refine wpAny_done (by kernel_rfl) ?_ _
   have N1:=hide ((SS.out z).keep (gw_start _))
   have T1:=hide (Trp.trans (TT.out z) (Trp.of (gw_start _) (fun k e _=>by cases e)))
   generalize (wy.setCell ⟨bb,q,none⟩ (.int .u8 z)).drew=wz at *
   have cat2:=N1.out.cat
   have fat2:wz.frozen? ⟨ca,0,none⟩=false:=frozen_of_heap N1.out.at' 0
   have N2:=hide (show PutS cb ca bb (m+1) (B.set q z) (wz.setCell ⟨ca,0,none⟩ (.int .i64 ((m:Int)+1)))from N1.out.next (m+1))
   have T2:=hide (Trp.trans T1.out (Trp.of (grown_setCell wz ⟨ca,0,none⟩ (.int .i64 ((m:Int)+1))) (fun k e _=>by cases e;exact .inl rfl)))
   clear SS TT cv cat cy fy PL N1 T1
   go_wp2_with fail
   go_roundw
   case rel=>exact⟨j+1,B.set q z,by rw[show(k:Int)-1-((j+1:Nat):Int)=(I:Int)-1 by have:=HI.out;omega],by omega,by rw[show n+(j+1)=m+1 by have:=HM.out;omega];exact⟨NS.out,N2.out,T2.out⟩⟩
   case measure=>first|(simp[intOf];done)|(simp[intOf];omega)
  ·obtain rfl:j=k:=by omega
   rw[show(j:Int)-1-(j:Int)=-1 by omega]
   go_wp2_with fail
   go_end0
   exact⟨rfl,B,by have:=hM.out.1;rw[putN_end]at this;exact this,hM.out.2⟩
structure TakS (w0:World) (cb ca n:Nat) (v:Value) (w:World):Prop where
 var:w.cell? ⟨cb,0,none⟩=some v
 at':w.heap[ca]?=some (.cells #[.int .i64 (n:Int)] 3 (0,0))
 grw:w0.grownBy w none
 le:w0.heap.size≤ca
 ne:cb≠ca
theorem TakS.cat {w0:World}{cb ca n:Nat}{v:Value}{w:World}(h:TakS w0 cb ca n v w):w.cell? ⟨ca,0,none⟩=some (.int .i64 (n:Int)):=by rw[cell_of_heap h.at'];rfl
theorem TakS.keep {w0:World}{cb ca n:Nat}{v:Value}{w w':World}(h:TakS w0 cb ca n v w)(g:w.grownBy w' none):TakS w0 cb ca n v w':=
 ⟨grown_keep g h.var,(g.block _ (lt_of_some h.at') (by simp)).trans h.at',grown_none h.grw g,h.le,h.ne⟩
theorem TakS.next {w0:World}{cb ca n:Nat}{v:Value}{w:World}(h:TakS w0 cb ca n v w)(m:Nat):TakS w0 cb ca m v (w.setCell ⟨ca,0,none⟩ (.int .i64 (m:Int))):=by
 have g:=grown_setCell w ⟨ca,0,none⟩ (.int .i64 (m:Int))
 exact⟨pcell_but h.var g (fun e=>h.ne (by cases e;rfl)),by rw[heap_setCell h.at'];rfl,grown_own h.grw g h.le,h.le,h.ne⟩
set_option maxRecDepth 100000 in
theorem pkTake_any (w0:World)(cb ca n k:Nat)(ad:Addr)(cp:Nat)(b:List Int)(w:World)(hB:Byts w0 (.slice (some ad) 15 cp) b)(hby:byB b)(hk:k≤6)(hn:n+k≤112)(hS:TakS w0 cb ca n (.slice (some ad) 15 cp) w) :
  Calls Tryz.prog 171 #[.int .i64 (k:Int),.pointer (some ⟨cb,0,none⟩),.pointer (some ⟨ca,0,none⟩)] w fun e w'=>e=.returned (.int .i64 (takN (xB b 14) n k))∧TakS w0 cb ca (n+k) (.slice (some ad) 15 cp) w'∧Trp (fun i=>i=ca) w w':=by
 have M0:=hide (show TakS w0 cb ca (n+0) (.slice (some ad) 15 cp) w∧Trp (fun i=>i=ca) w w from⟨hS,Trp.refl _ _⟩)
 have HB:=hide hB
 have HY:=hide hby
 clear hB hby hS
 go_enter Tryz.func171,Tryz.ntmps171
 go_wp2_with fail
 go_loopw [5,7] (fun x i wr=>∃j:Nat,i=.int .i64 (j:Int)∧j≤k∧x=.int .i64 (takN (xB b 14) n j)∧Hid (TakS w0 cb ca (n+j) (.slice (some ad) 15 cp) wr∧Trp (fun i=>i=ca) w wr)) (fun _ i _=>k-(intOf i).toNat)
 case atStart=>exact⟨0,rfl,Nat.zero_le _,by rw[takN_zero],M0.out⟩
 case round=>
  obtain⟨j,rfl,hj,rfl,hM⟩:=hrel
  clear M0
  by_cases hjk:j<k
  ·have i1:(j:Int)<(k:Int):=by omega
   have PL:=hide (pkPlace_any (n+j) (by omega))
   have STP:=hide (show takN (xB b 14) n (j+1)=2*takN (xB b 14) n j+nth b ((n+j) / 8) / 2^(7-(n+j) % 8) % 2 by rw[takN_step _ n j (by omega),bit_at b HY.out (n+j) (by omega)])
   obtain⟨t0,t1⟩:=takN_bd (xB b 14) n j
   have t6:(2:Int)^j≤32:=by
    have:∀j:Fin 6,(2:Int)^j.val≤32:=by decide
    exact this ⟨j,by omega⟩
   obtain⟨y0,y1⟩:=HY.out ((n+j) / 8)
   obtain⟨e1,_,hcl⟩:=byts_some (Byts_keep HB.out hM.out.1.grw)
   have cy:=hcl ((n+j) / 8) (by omega)
   have hxb:=dvb_bd (nth b ((n+j) / 8)) y0 y1 (7-(n+j) % 8)
   have hc:=and_b (nth b ((n+j) / 8) / 2^(7-(n+j) % 8)) hxb.1 hxb.2
   have hcb:0≤nth b ((n+j) / 8) / 2^(7-(n+j) % 8) % 2∧nth b ((n+j) / 8) / 2^(7-(n+j) % 8) % 2<2:=by omega
   have hz:=or_i (takN (xB b 14) n j) (nth b ((n+j) / 8) / 2^(7-(n+j) % 8) % 2) t0 (by omega) hcb.1 hcb.2
   have cv:=hM.out.1.var
   have cat:=hM.out.1.cat
   have hq1:((n+j:Nat):Int).tdiv 8=(((n+j) / 8:Nat):Int):=by rw[Int.tdiv_eq_ediv_of_nonneg (by omega)];omega
   have hq2:((n+j:Nat):Int) / 8=(((n+j) / 8:Nat):Int):=by omega
   have hq15:(((n+j) / 8:Nat):Int)<15:=by omega
   have hnj:n+j≤112:=by omega
   have HMM:=hide hM.out
   clear hM hcl e1 HB HY
   generalize takN (xB b 14) n j=t at *
   generalize nth b ((n+j) / 8)=y at *
   generalize (n+j) / 8=q at *
   generalize hp:7-(n+j) % 8=p at *
   have hp7:p≤7:=by omega
   clear hp
   generalize hm:n+j=m at *
   have HM:=hide hm
   clear hm
   generalize hcc:y / 2^p % 2=c at *
   have WQ:=wrapI (q:Int) (by omega) (by omega)
   have HT2:=wrapI (2*t) (by omega) (by omega)
   have HT3:=wrapI (t*2) (by omega) (by omega)
   have hu:=wrapI c (by omega) (by omega)
   go_upto_region 4 with fail
   generalize hwy:wr=wy at *
   clear hwy
   refine wp_region_held_drew (S:=fun u=>u=wy.drew) (by kernel_rfl) rfl (fun hHeld=>?_)
   refine wpAnyH_take (i:=0) (v:=?vta0) rfl (by kernel_rfl) (by kernel_rfl) (by kernel_rfl) (fun _ _ _ h=>h) (Or.inl ⟨by rfl,?yta0⟩) hHeld ?rta0
   case yta0=>(intro w' hSw;go_simp;(try with_reducible rfl))
   (try simp only[Act.put,sL])
   refine wpAnyH_take (i:=1) (v:=.int .i64 (2*t)) rfl (by kernel_rfl) (by kernel_rfl) (by kernel_rfl) (fun _ _ _ h=>h) (Or.inl ⟨by rfl,?yta1⟩) hHeld ?rta1
   case yta1=>(intro w' hSw;subst hSw;go_simp;exact Int.mul_comm t 2)
   (try simp only[Act.put,sL])
   refine wpAnyH_take (i:=2) (v:=?vta2) rfl (by kernel_rfl) (by kernel_rfl) (by kernel_rfl) (fun _ _ _ h=>h) (Or.inl ⟨by rfl,?yta2⟩) hHeld ?rta2
   case yta2=>(intro w' hSw;subst hSw;go_simp;(try with_reducible rfl))
   (try simp only[Act.put,sL])
   refine wpAnyH_take (i:=3) (v:=.int .i64 (m:Int)) rfl (by kernel_rfl) (by kernel_rfl) (by kernel_rfl) (fun _ _ _ h=>h) (Or.inl ⟨by rfl,?yta3⟩) hHeld ?rta3
   case yta3=>(intro w' hSw;subst hSw;go_simp;(try with_reducible rfl))
   (try simp only[Act.put,sL])
   refine wpAnyH_take (i:=4) (v:=.int .i64 (q:Int)) rfl (by kernel_rfl) (by kernel_rfl) (by kernel_rfl) (fun _ _ _ h=>h) (Or.inl ⟨by rfl,?yta4⟩) hHeld ?rta4
   case yta4=>(intro w' hSw;subst hSw;go_simp;try simp only[hq1,hq2,WQ])
   (try simp only[Act.put,sL])
   refine wpAnyH_take (i:=5) (v:=?vta5) rfl (by kernel_rfl) (by kernel_rfl) (by kernel_rfl) (fun _ _ _ h=>h) (Or.inl ⟨by rfl,?yta5⟩) hHeld ?rta5
   case yta5=>(intro w' hSw;subst hSw;go_simp;(try with_reducible rfl))
   (try simp only[Act.put,sL])
   refine wpAnyH_take (i:=6) (v:=.int .u8 y) rfl (by kernel_rfl) (by kernel_rfl) (by kernel_rfl) (fun _ _ _ h=>h) (Or.inl ⟨by rfl,?yta6⟩) hHeld ?rta6
   case yta6=>(intro w' hSw;subst hSw;go_simp;(try with_reducible rfl))
   (try simp only[Act.put,sL])
   refine wpAnyH_take (i:=7) (v:=.int .i64 (m:Int)) rfl (by kernel_rfl) (by kernel_rfl) (by kernel_rfl) (fun _ _ _ h=>h) (Or.inl ⟨by rfl,?yta7⟩) hHeld ?rta7
   case yta7=>(intro w' hSw;subst hSw;go_simp;(try with_reducible rfl))
   (try simp only[Act.put,sL])
   refine wpAnyH_ready (rs:=[8]) (by kernel_rfl) (by simp) (AllReadyH.cons rfl (fun K hK=>?_) AllReadyH.nil)
   (try simp only[Act.put,sL])
   go_simp
   refine(PL.out _).mono ?_
   rintro e w1 ⟨rfl,rfl⟩
   go_wp2_with fail
   refine hK.out _ _ rfl (fun hHeld=>?_)
   clear hK
   (try simp only[Act.put,sL])
   refine wpAnyH_take (i:=9) (v:=.int .u8 (y / 2^p)) rfl (by kernel_rfl) (by kernel_rfl) (by kernel_rfl) (fun _ _ _ h=>h) (Or.inl ⟨by rfl,?yta9⟩) hHeld ?rta9
   case yta9=>(intro w' hSw;subst hSw;go_simp;(try with_reducible rfl))
   (try simp only[Act.put,sL])
   refine wpAnyH_take (i:=10) (v:=.int .u8 c) rfl (by kernel_rfl) (by kernel_rfl) (by kernel_rfl) (fun _ _ _ h=>h) (Or.inl ⟨by rfl,?yta10⟩) hHeld ?rta10
   case yta10=>(intro w' hSw;subst hSw;go_simp;try simp only[hc])
   (try simp only[Act.put,sL])
   refine wpAnyH_take (i:=11) (v:=.int .i64 c) rfl (by kernel_rfl) (by kernel_rfl) (by kernel_rfl) (fun _ _ _ h=>h) (Or.inl ⟨by rfl,?yta11⟩) hHeld ?rta11
   case yta11=>(intro w' hSw;subst hSw;go_simp;try simp only[hu])
   (try simp only[Act.put,sL])
   refine wpAnyH_take (i:=12) (v:=.int .i64 (2*t+c)) rfl (by kernel_rfl) (by kernel_rfl) (by kernel_rfl) (fun _ _ _ h=>h) (Or.inl ⟨by rfl,?yta12⟩) hHeld ?rta12
   case yta12=>(intro w' hSw;subst hSw;go_simp;try simp only[hz])
   (try simp only[Act.put,sL])
   refine wpAnyH_take (i:=13) (v:=?vta13) rfl (by kernel_rfl) (by kernel_rfl) (by kernel_rfl) (fun _ _ _ h=>h) (Or.inl ⟨by rfl,?yta13⟩) hHeld ?rta13
   case yta13=>(intro w' hSw;go_simp;(try with_reducible rfl))
   (try simp only[Act.put,sL])
   refine wpAnyH_done (by kernel_rfl) ?_ _
   have N1:=hide (HMM.out.1.keep (gw_start _))
   have T1:=hide (Trp.trans HMM.out.2 (Trp.of (gw_start _) (fun k e _=>by cases e)))
   clear HMM cv cat cy PL hHeld
   generalize wy.drew=wz at *
   have cat2:=N1.out.cat
   have fat2:wz.frozen? ⟨ca,0,none⟩=false:=frozen_of_heap N1.out.at' 0
   have N2:=hide (show TakS w0 cb ca (m+1) (.slice (some ad) 15 cp) (wz.setCell ⟨ca,0,none⟩ (.int .i64 ((m:Int)+1)))from N1.out.next (m+1))
   have T2:=hide (Trp.trans T1.out (Trp.of (grown_setCell wz ⟨ca,0,none⟩ (.int .i64 ((m:Int)+1))) (fun k e _=>by cases e;rfl)))
   clear N1 T1
   go_wp2_with fail
   go_roundw
   case rel=>exact⟨j+1,by go_num,by omega,by rw[STP.out],by rw[show n+(j+1)=m+1 by have:=HM.out;omega];exact⟨N2.out,T2.out⟩⟩
   case measure=>first|(simp[intOf];done)|(simp[intOf];omega)
  ·obtain rfl:j=k:=by omega
   go_wp2_with fail
   go_ret
   exact⟨rfl,hM.out.1,hM.out.2⟩
end Go.Proofs.YtdejpongekicdaaGreatDoor

/- PkpC -/
namespace Go.Proofs.YtdejpongekicdaaGreatDoor
open Go.RowKit
set_option linter.unusedVariables false
set_option linter.unusedSimpArgs false
set_option maxHeartbeats 1000000
set_option maxRecDepth 100000 in
theorem pkSum_any (ad:Addr)(cp:Nat)(b:List Int)(w:World)(hB:Byts w (.slice (some ad) 14 cp) b)(hby:byB b) :
  Calls Tryz.prog 74 #[.slice (some ad) 14 cp] w fun e w'=>e=.returned (.int .i64 (chN b 14))∧w'=w:=by
 obtain⟨e14,hc,hcl⟩:=byts_some hB
 have HC:=hide hcl
 have HY:=hide hby
 have HE:=hide e14
 clear hB hby hcl e14
 go_enter Tryz.func74,Tryz.ntmps74
 go_wp2_with fail
 go_loopw [3,8] (fun s i wr=>∃m:Nat,i=.int .i64 (m:Int)∧m≤14∧s=.int .i64 (90+sumB b m)∧wr=w) (fun _ i _=>14-(intOf i).toNat)
 case atStart=>exact⟨0,rfl,Nat.zero_le _,rfl,rfl⟩
 case round=>
  obtain⟨m,rfl,hm,rfl,rfl⟩:=hrel
  obtain⟨s0,s1⟩:=sumB_bd b HY.out m
  by_cases hm14:m<14
  ·have i1:(m:Int)<14:=by omega
   have cx:=HC.out m (by have:=HE.out;omega)
   obtain⟨y0,y1⟩:=HY.out m
   have NX:=hide (show sumB b (m+1)=sumB b m+nth b m from rfl)
   clear HC HY HE
   generalize sumB b m=S at *
   generalize nth b m=y at *
   have hu:=wrapI y (by omega) (by omega)
   go_wp2_with fail
   go_roundw
   case rel=>exact⟨m+1,by go_num,by omega,by rw[NX.out,Int.add_assoc],trivial⟩
   case measure=>first|(simp[intOf];done)|(simp[intOf];omega)
  ·obtain rfl:m=14:=by omega
   rw[show((14:Nat):Int)=14 from rfl]
   have ha:=and_255 (90+sumB b 14) (by omega) (by omega)
   have CE:=hide (show chN b 14=(90+sumB b 14) % 256 from rfl)
   clear HC HY HE
   go_wp2_with fail
   go_ret
   rw[CE.out]
   first|exact⟨rfl,rfl⟩|(rw[←ha];exact⟨rfl,rfl⟩)
theorem wrap_u64_in (n:Int)(h0:0≤n)(h1:n<18446744073709551616):IntKind.u64.wrap n=n:=by rw[IntKind.wrap_u64];omega
set_option maxRecDepth 100000 in
theorem pkOnes_any (x:Int)(h0:0≤x)(h1:x<9223372036854775808)(w:World) :
  Calls Tryz.prog 170 #[.int .u64 x] w fun e w'=>e=.returned (.int .i64 (bitS x 63))∧w'=w:=by
 obtain⟨a,b,y,z,u,v,e1,a0,a1,e2,b0,b1,b2,e3,e4,e5,e6,y0,y1,z0,z1,u0,u1,v0,v1,e7⟩:=pc_word x h0 h1
 rw[←e7]
 go_enter Tryz.func170,Tryz.ntmps170
 go_wp2_with fail
 go_ret
 rw[←i64_and127]
 exact⟨rfl,rfl⟩
def par3 (l:List Int):List Int:=[nth l 0,nth l 9,nth l 17]
def parS (l:List Int):Nat→Int
 | 0=>0
 | m+1=>parS l m+pS (nth (par3 l) m)
theorem parS_bd (l:List Int):∀m:Nat,0≤parS l m∧parS l m≤63*(m:Int)
 | 0=>⟨Int.le_refl _,Int.le_refl _⟩
 | m+1=>by
  have h1:=parS_bd l m
  have h2:=pS_bd (nth (par3 l) m)
  show 0≤parS l m+pS (nth (par3 l) m)∧parS l m+pS (nth (par3 l) m)≤63*((m+1:Nat):Int)
  omega
theorem parS3 (l:List Int):parS l 3 % 2=parL l:=by
 show(0+pS (nth l 0)+pS (nth l 9)+pS (nth l 17)) % 2=_
 unfold parL
 rw[Int.zero_add]
set_option maxRecDepth 100000 in
theorem pkParity_any (l:List Int)(hl:l.length=25)(h64:In64 l)(w:World):Calls Tryz.prog 73 #[.agg (arrI l)] w (AnsP w (.int .i64 (parL l))):=by
 have c0:=(Blk.new w 82 l).cell 0 (by omega)
 have c9:=(Blk.new w 82 l).cell 9 (by omega)
 have c17:=(Blk.new w 82 l).cell 17 (by omega)
 have G0:=hide (grown_alloc w (.cells (arrI l) 82) none)
 have PX:=hide (show ∀m,nth (par3 l) m≤9223372036854775807 from fun m=>by
  match m with
  | 0=>exact(h64 0).2
  | 1=>exact(h64 9).2
  | 2=>exact(h64 17).2
  | m+3=>show(0:Int)≤_;omega)
 have IX:=hide (fun(m:Nat) (hm:m<3) (u:World)=>index_arr (T:=190) (par3 l) Tryz.underlying190 m hm rfl u)
 have PE:=hide (parS3 l)
 have PB:=hide (parS_bd l)
 obtain⟨T,hT⟩:∃T:Ending→World→Prop,AnsP w (.int .i64 (parL l))=T:=⟨_,rfl⟩
 rw[hT]
 have HT:=hide hT
 clear hT hl h64
 rw[show arrI (par3 l)=#[.int .i64 (nth l 0),.int .i64 (nth l 9),.int .i64 (nth l 17)]from rfl]at IX
 go_enter Tryz.func73,Tryz.ntmps73
 go_upto_region 2 with fail
 generalize w.alloc (.cells (arrI l) 82)=W0 at *
 go_wp2_with fail
 generalize Value.agg #[.int .i64 (nth l 0),.int .i64 (nth l 9),.int .i64 (nth l 17)]=AV at *
 clear c0 c9 c17
 go_loopw [3,17] (fun s i wr=>∃m:Nat,i=.int .i64 (m:Int)∧m≤3∧s=.int .i64 (parS l m)∧wr=W0) (fun _ i _=>3-(intOf i).toNat)
 case atStart=>exact⟨0,rfl,Nat.zero_le _,rfl,rfl⟩
 case round=>
  obtain⟨m,rfl,hm,rfl,rfl⟩:=hrel
  obtain⟨s0,s1⟩:=PB.out m
  by_cases hm3:m<3
  ·have i1:(m:Int)<3:=by omega
   have ix:=IX.out m hm3
   have NX:=hide (show parS l (m+1)=parS l m+pS (nth (par3 l) m)from rfl)
   obtain⟨q0,q1⟩:=pS_bd (nth (par3 l) m)
   have hxm:=PX.out m
   by_cases hx:nth (par3 l) m<0
   ·have ON:=hide (pkOnes_any 0 (by omega) (by omega))
    rw[show bitS 0 63=pS (nth (par3 l) m) by unfold pS;rw[if_neg (by omega)];decide +kernel]at ON
    clear IX PX PB
    generalize pS (nth (par3 l) m)=q at *
    generalize parS l m=S at *
    generalize nth (par3 l) m=x at *
    go_wp2_with fail
    refine(ON.out _).mono ?_
    rintro e w1 ⟨rfl,rfl⟩
    clear ON
    go_wp2_with fail
    go_roundw
    case rel=>exact⟨m+1,by go_num,by omega,by rw[NX.out],trivial⟩
    case measure=>first|(simp[intOf];done)|(simp[intOf];omega)
   ·have ON:=hide (pkOnes_any (nth (par3 l) m) (by omega) (by omega))
    rw[show bitS (nth (par3 l) m) 63=pS (nth (par3 l) m) by
     unfold pS
     split
     ·rfl
     ·obtain e:nth (par3 l) m=0:=by omega
      rw[e];decide +kernel]at ON
    have hu:=wrap_u64_in (nth (par3 l) m) (by omega) (by omega)
    clear IX PX PB
    generalize pS (nth (par3 l) m)=q at *
    generalize parS l m=S at *
    generalize nth (par3 l) m=x at *
    go_wp2_with fail
    refine(ON.out _).mono ?_
    rintro e w1 ⟨rfl,rfl⟩
    clear ON
    go_wp2_with fail
    go_roundw
    case rel=>exact⟨m+1,by go_num,by omega,by rw[NX.out],trivial⟩
    case measure=>first|(simp[intOf];done)|(simp[intOf];omega)
  ·obtain rfl:m=3:=by omega
   rw[show((3:Nat):Int)=3 from rfl]
   have PM:=hide (show(parS l 3).tmod 2=parL l by rw[Int.tmod_eq_emod_of_nonneg s0];exact PE.out)
   have PN:=hide (show(parS l 3) % 2=parL l from PE.out)
   clear IX PX PB PE
   go_wp2_with fail
   rw[←HT.out]
   first|exact⟨rfl,G0.out⟩|exact⟨by(rw[PM.out];rfl),G0.out⟩|exact⟨by(rw[PN.out];rfl),G0.out⟩
theorem OwnF.trp {base:Nat}{w w':World}{v:Value}{n:Nat}{A:List Value}{f:Nat→Prop}(h:OwnF base w v n A)(t:Trp f w w')(hf:∀g,base≤g→¬f g):OwnF base w' v n A:=by
 refine⟨h.1,?_⟩
 rcases h.2 with h|⟨g,cap,cur,e,h1,h2,h3⟩
 ·exact .inl h
 ·exact .inr ⟨g,cap,cur,e,h1,(t.block g (lt_of_some h2) (hf g h1)).trans h2,h3⟩
theorem Blk.trp {w w':World}{b:Nat}{T:TypeId}{rs:List Int}{f:Nat→Prop}(h:Blk w b T rs)(t:Trp f w w')(hf:¬f b):Blk w' b T rs:=(t.block b h.lt hf).trans h
theorem trp_cell {w w':World}{f:Nat→Prop}(t:Trp f w w'){b o:Nat}{v:Value}(h:w.cell? ⟨b,o,none⟩=some v)(hf:¬f b):w'.cell? ⟨b,o,none⟩=some v:=by
 have e:=t.block b (pcell_some h) hf
 simp only[World.cell?]at h ⊢
 rw[e];exact h
theorem OwnF.form {base:Nat}{w:World}{v:Value}{n:Nat}{A:List Value}(h:OwnF base w v n A)(hn:0<n):∃g cap,v=.slice (some ⟨g,0,none⟩) n cap∧base≤g∧g<w.heap.size:=by
 rcases id h.2 with⟨_,h0⟩|⟨g,cap,cur,hv,hb,hg,_⟩
 ·omega
 ·exact⟨g,cap,hv,hb,lt_of_some hg⟩
theorem OwnF.fld {base:Nat}{w:World}{g cap b:Nat}(h:OwnF base w (.slice (some ⟨g,0,none⟩) 25 cap) 25 (flF b 25))(i:Nat)(hi:i<25) :
  w.cell? ⟨g,i*3,none⟩=some (.pointer (some ⟨b,i,none⟩))∧w.cell? ⟨g,i*3+1,none⟩=some (.int .i64 (wdN i:Int))∧w.cell? ⟨g,i*3+2,none⟩=some (.int .i64 (moN i)):=by
 have q0:=World.ownsRow.cellAt h (i*3+0) (by omega)
 have q1:=World.ownsRow.cellAt h (i*3+1) (by omega)
 have q2:=World.ownsRow.cellAt h (i*3+2) (by omega)
 rw[flF_get b 25 i _ hi (by omega)]at q0 q1 q2
 exact⟨q0,q1,q2⟩
set_option maxRecDepth 100000 in
theorem pkGood_any (l:List Int)(hl:l.length=25)(h64:In64 l)(w:World)(hT:TabA w 3 widq 8):Calls Tryz.prog 70 #[.agg (arrI l)] w (AnsP w (.bool (gudP l))):=by
 have HL:=hide hl
 have H64:=hide h64
 have P0:=hide (Blk.new w 82 l)
 have G0:=hide (grown_alloc w (.cells (arrI l) 82) none)
 have HT:=hide hT
 obtain⟨T,hTT⟩:∃T:Ending→World→Prop,AnsP w (.bool (gudP l))=T:=⟨_,rfl⟩
 rw[hTT]
 have HTT:=hide hTT
 clear hTT hl h64 hT
 go_enter Tryz.func70,Tryz.ntmps70
 go_upto_region 1 with fail
 generalize w.alloc (.cells (arrI l) 82)=W0 at *
 go_wp2_with fail
 refine(pkFields_any w.heap.size W0 (TabA_keep HT.out G0.out)).mono ?_
 rintro e W1 ⟨v,rfl,o1,g1⟩
 obtain⟨g,cap,rfl,_,_⟩:=o1.form (by omega)
 have M0:=hide (show Blk W1 w.heap.size 82 l∧OwnF W0.heap.size W1 (.slice (some ⟨g,0,none⟩) 25 cap) 25 (flF w.heap.size 25)∧w.grownBy W1 none from⟨P0.out.keep g1,o1,grown_none G0.out g1⟩)
 clear P0 G0 HT o1 g1
 go_wp2_with fail
 go_loopw [7] (fun i wr=>∃m:Nat,i=.int .i64 (m:Int)∧m≤25∧Hid (∀j,j<m→0≤nth l j∧nth l j≤moN j)∧Hid (W1.grownBy wr none)) (fun i _=>25-(intOf i).toNat)
 case atStart=>exact⟨0,rfl,Nat.zero_le _,fun j hj=>by omega,grown_refl _ _⟩
 case round=>
  obtain⟨m,rfl,hm,hA,hG⟩:=hrel
  by_cases hm25:m<25
  ·have i1:(m:Int)<25:=by omega
   obtain⟨c0,c1,c2⟩:=(M0.out.2.1.keep hG.out).fld m hm25
   have cx:=(M0.out.1.keep hG.out).cell m (by rw[HL.out];exact hm25)
   have gx:=H64.out m
   have F0:=hide (heap_new wr (.cells #[.pointer (some ⟨w.heap.size,m,none⟩),.int .i64 (wdN m:Int),.int .i64 (moN m)] 124))
   have GA:=hide (grown_alloc wr (.cells #[.pointer (some ⟨w.heap.size,m,none⟩),.int .i64 (wdN m:Int),.int .i64 (moN m)] 124) none)
   have cx2:=grown_keep GA.out cx
   have GR:=hide (grown_none hG.out GA.out)
   have hI:=hA.out
   have NO:=hide (gudP_no l m hm25)
   have YES:=hide (fun(h:0≤nth l m∧nth l m≤moN m)=>(show ∀j,j<m+1→0≤nth l j∧nth l j≤moN j from fun j hj=>by
    by_cases e:j=m
    ·subst e;exact h
    ·exact hA.out j (by omega)))
   go_upto_region 4 with fail
   generalize wr.alloc (.cells #[.pointer (some ⟨w.heap.size,m,none⟩),.int .i64 (wdN m:Int),.int .i64 (moN m)] 124)=W2 at *
   have f0:W2.cell? ⟨wr.heap.size,0,none⟩=some (.pointer (some ⟨w.heap.size,m,none⟩)):=cell_of_heap F0.out 0
   have f2:W2.cell? ⟨wr.heap.size,2,none⟩=some (.int .i64 (moN m)):=cell_of_heap F0.out 2
   have GD:=hide (grown_drew GR.out)
   have MG:=hide (grown_none M0.out.2.2 GD.out)
   clear c0 c1 c2 cx F0 GA GR hI hA hG
   generalize wr.heap.size=fb at *
   generalize nth l m=x at *
   generalize moN m=y at *
   refine wp_region_held_drew (S:=fun u=>u=W2.drew) (by kernel_rfl) rfl (fun hHeld=>?_)
   by_cases hx:x<0
   ·have hx1:decide (x<0)=true:=decide_eq_true hx
    have GN:=hide (NO.out (by omega))
    clear NO YES
    refine wpAnyH_take (i:=0) (v:=?vga0) rfl (by kernel_rfl) (by kernel_rfl) (by kernel_rfl) (fun _ _ _ h=>h) (Or.inl ⟨by rfl,?yga0⟩) hHeld ?rga0
    case yga0=>(intro w' hSw;subst hSw;go_simp;(try with_reducible rfl))
    (try simp only[Act.put,sL])
    refine wpAnyH_take (i:=1) (v:=.pointer (some ⟨w.heap.size,m,none⟩)) rfl (by kernel_rfl) (by kernel_rfl) (by kernel_rfl) (fun _ _ _ h=>h) (Or.inl ⟨by rfl,?yga1⟩) hHeld ?rga1
    case yga1=>(intro w' hSw;subst hSw;go_simp;(try with_reducible rfl))
    (try simp only[Act.put,sL])
    refine wpAnyH_take (i:=2) (v:=?vga2) rfl (by kernel_rfl) (by kernel_rfl) (by kernel_rfl) (fun _ _ _ h=>h) (Or.inl ⟨by rfl,?yga2⟩) hHeld ?rga2
    case yga2=>(intro w' hSw;subst hSw;go_simp;(try with_reducible rfl))
    (try simp only[Act.put,sL])
    refine wpAnyH_take (i:=3) (v:=.int .i64 x) rfl (by kernel_rfl) (by kernel_rfl) (by kernel_rfl) (fun _ _ _ h=>h) (Or.inl ⟨by rfl,?yga3⟩) hHeld ?rga3
    case yga3=>(intro w' hSw;subst hSw;go_simp;(try with_reducible rfl))
    (try simp only[Act.put,sL])
    refine wpAnyH_take (i:=4) (v:=.bool true) rfl (by kernel_rfl) (by kernel_rfl) (by kernel_rfl) (fun _ _ _ h=>h) (Or.inl ⟨by rfl,?yga4⟩) hHeld ?rga4
    case yga4=>(intro w' hSw;subst hSw;go_simp;(try simp only[hx1]))
    (try simp only[Act.put,sL])
    refine wpAnyH_take (i:=5) (v:=?vga5) rfl (by kernel_rfl) (by kernel_rfl) (by kernel_rfl) (fun _ _ _ h=>h) (Or.inl ⟨by rfl,?yga5⟩) hHeld ?rga5
    case yga5=>(intro w' hSw;subst hSw;go_simp;(try with_reducible rfl))
    (try simp only[Act.put,sL])
    refine wpAnyH_take (i:=6) (v:=undef) rfl (by kernel_rfl) (by kernel_rfl) (by kernel_rfl) (fun _ _ _ h=>h) (Or.inr ⟨by rfl,rfl⟩) hHeld ?_
    (try simp only[Act.put,sL])
    refine wpAnyH_take (i:=7) (v:=undef) rfl (by kernel_rfl) (by kernel_rfl) (by kernel_rfl) (fun _ _ _ h=>h) (Or.inr ⟨by rfl,rfl⟩) hHeld ?_
    (try simp only[Act.put,sL])
    refine wpAnyH_take (i:=8) (v:=undef) rfl (by kernel_rfl) (by kernel_rfl) (by kernel_rfl) (fun _ _ _ h=>h) (Or.inr ⟨by rfl,rfl⟩) hHeld ?_
    (try simp only[Act.put,sL])
    refine wpAnyH_take (i:=9) (v:=undef) rfl (by kernel_rfl) (by kernel_rfl) (by kernel_rfl) (fun _ _ _ h=>h) (Or.inr ⟨by rfl,rfl⟩) hHeld ?_
    (try simp only[Act.put,sL])
    refine wpAnyH_take (i:=10) (v:=undef) rfl (by kernel_rfl) (by kernel_rfl) (by kernel_rfl) (fun _ _ _ h=>h) (Or.inr ⟨by rfl,rfl⟩) hHeld ?_
    (try simp only[Act.put,sL])
    refine wpAnyH_take (i:=11) (v:=undef) rfl (by kernel_rfl) (by kernel_rfl) (by kernel_rfl) (fun _ _ _ h=>h) (Or.inr ⟨by rfl,rfl⟩) hHeld ?_
    (try simp only[Act.put,sL])
    refine wpAnyH_take (i:=12) (v:=undef) rfl (by kernel_rfl) (by kernel_rfl) (by kernel_rfl) (fun _ _ _ h=>h) (Or.inr ⟨by rfl,rfl⟩) hHeld ?_
    (try simp only[Act.put,sL])
    refine wpAnyH_take (i:=13) (v:=.bool true) rfl (by kernel_rfl) (by kernel_rfl) (by kernel_rfl) (fun _ _ _ h=>h) (Or.inl ⟨by rfl,?yga13⟩) hHeld ?rga13
    case yga13=>(intro w' hSw;subst hSw;go_simp;(try with_reducible rfl))
    (try simp only[Act.put,sL])
    refine wpAnyH_done (by kernel_rfl) ?_ _
    clear hHeld
    generalize W2.drew=W3 at *
    go_wp2_with fail
    rw[←HTT.out]
    exact⟨by first|(rw[GN.out];done)|(rw[GN.out];rfl),MG.out⟩
   ·have hx1:decide (x<0)=false:=decide_eq_false hx
    by_cases hy:y<x
    ·have hy1:decide (y<x)=true:=decide_eq_true hy
     have GN:=hide (NO.out (by omega))
     clear NO YES
     refine wpAnyH_take (i:=0) (v:=?vgb0) rfl (by kernel_rfl) (by kernel_rfl) (by kernel_rfl) (fun _ _ _ h=>h) (Or.inl ⟨by rfl,?ygb0⟩) hHeld ?rgb0
     case ygb0=>(intro w' hSw;subst hSw;go_simp;(try with_reducible rfl))
     (try simp only[Act.put,sL])
     refine wpAnyH_take (i:=1) (v:=.pointer (some ⟨w.heap.size,m,none⟩)) rfl (by kernel_rfl) (by kernel_rfl) (by kernel_rfl) (fun _ _ _ h=>h) (Or.inl ⟨by rfl,?ygb1⟩) hHeld ?rgb1
     case ygb1=>(intro w' hSw;subst hSw;go_simp;(try with_reducible rfl))
     (try simp only[Act.put,sL])
     refine wpAnyH_take (i:=2) (v:=?vgb2) rfl (by kernel_rfl) (by kernel_rfl) (by kernel_rfl) (fun _ _ _ h=>h) (Or.inl ⟨by rfl,?ygb2⟩) hHeld ?rgb2
     case ygb2=>(intro w' hSw;subst hSw;go_simp;(try with_reducible rfl))
     (try simp only[Act.put,sL])
     refine wpAnyH_take (i:=3) (v:=.int .i64 x) rfl (by kernel_rfl) (by kernel_rfl) (by kernel_rfl) (fun _ _ _ h=>h) (Or.inl ⟨by rfl,?ygb3⟩) hHeld ?rgb3
     case ygb3=>(intro w' hSw;subst hSw;go_simp;(try with_reducible rfl))
     (try simp only[Act.put,sL])
     refine wpAnyH_take (i:=4) (v:=.bool false) rfl (by kernel_rfl) (by kernel_rfl) (by kernel_rfl) (fun _ _ _ h=>h) (Or.inl ⟨by rfl,?ygb4⟩) hHeld ?rgb4
     case ygb4=>(intro w' hSw;subst hSw;go_simp;(try simp only[hx1]))
     (try simp only[Act.put,sL])
     refine wpAnyH_take (i:=5) (v:=?vgb5) rfl (by kernel_rfl) (by kernel_rfl) (by kernel_rfl) (fun _ _ _ h=>h) (Or.inl ⟨by rfl,?ygb5⟩) hHeld ?rgb5
     case ygb5=>(intro w' hSw;subst hSw;go_simp;(try with_reducible rfl))
     (try simp only[Act.put,sL])
     refine wpAnyH_take (i:=6) (v:=?vgb6) rfl (by kernel_rfl) (by kernel_rfl) (by kernel_rfl) (fun _ _ _ h=>h) (Or.inl ⟨by rfl,?ygb6⟩) hHeld ?rgb6
     case ygb6=>(intro w' hSw;subst hSw;go_simp;(try with_reducible rfl))
     (try simp only[Act.put,sL])
     refine wpAnyH_take (i:=7) (v:=.pointer (some ⟨w.heap.size,m,none⟩)) rfl (by kernel_rfl) (by kernel_rfl) (by kernel_rfl) (fun _ _ _ h=>h) (Or.inl ⟨by rfl,?ygb7⟩) hHeld ?rgb7
     case ygb7=>(intro w' hSw;subst hSw;go_simp;(try with_reducible rfl))
     (try simp only[Act.put,sL])
     refine wpAnyH_take (i:=8) (v:=?vgb8) rfl (by kernel_rfl) (by kernel_rfl) (by kernel_rfl) (fun _ _ _ h=>h) (Or.inl ⟨by rfl,?ygb8⟩) hHeld ?rgb8
     case ygb8=>(intro w' hSw;subst hSw;go_simp;(try with_reducible rfl))
     (try simp only[Act.put,sL])
     refine wpAnyH_take (i:=9) (v:=.int .i64 x) rfl (by kernel_rfl) (by kernel_rfl) (by kernel_rfl) (fun _ _ _ h=>h) (Or.inl ⟨by rfl,?ygb9⟩) hHeld ?rgb9
     case ygb9=>(intro w' hSw;subst hSw;go_simp;(try with_reducible rfl))
     (try simp only[Act.put,sL])
     refine wpAnyH_take (i:=10) (v:=?vgb10) rfl (by kernel_rfl) (by kernel_rfl) (by kernel_rfl) (fun _ _ _ h=>h) (Or.inl ⟨by rfl,?ygb10⟩) hHeld ?rgb10
     case ygb10=>(intro w' hSw;subst hSw;go_simp;(try with_reducible rfl))
     (try simp only[Act.put,sL])
     refine wpAnyH_take (i:=11) (v:=.int .i64 y) rfl (by kernel_rfl) (by kernel_rfl) (by kernel_rfl) (fun _ _ _ h=>h) (Or.inl ⟨by rfl,?ygb11⟩) hHeld ?rgb11
     case ygb11=>(intro w' hSw;subst hSw;go_simp;(try with_reducible rfl))
     (try simp only[Act.put,sL])
     refine wpAnyH_take (i:=12) (v:=.bool true) rfl (by kernel_rfl) (by kernel_rfl) (by kernel_rfl) (fun _ _ _ h=>h) (Or.inl ⟨by rfl,?ygb12⟩) hHeld ?rgb12
     case ygb12=>(intro w' hSw;subst hSw;go_simp;(try simp only[hy1]))
     (try simp only[Act.put,sL])
     refine wpAnyH_take (i:=13) (v:=.bool true) rfl (by kernel_rfl) (by kernel_rfl) (by kernel_rfl) (fun _ _ _ h=>h) (Or.inl ⟨by rfl,?ygb13⟩) hHeld ?rgb13
     case ygb13=>(intro w' hSw;subst hSw;go_simp;(try with_reducible rfl))
     (try simp only[Act.put,sL])
     refine wpAnyH_done (by kernel_rfl) ?_ _
     clear hHeld
     generalize W2.drew=W3 at *
     go_wp2_with fail
     rw[←HTT.out]
     exact⟨by first|(rw[GN.out];done)|(rw[GN.out];rfl),MG.out⟩
    ·have hy1:decide (y<x)=false:=decide_eq_false hy
     have GN:=hide (YES.out (by omega))
     clear NO YES
     refine wpAnyH_take (i:=0) (v:=?vgc0) rfl (by kernel_rfl) (by kernel_rfl) (by kernel_rfl) (fun _ _ _ h=>h) (Or.inl ⟨by rfl,?ygc0⟩) hHeld ?rgc0
     case ygc0=>(intro w' hSw;subst hSw;go_simp;(try with_reducible rfl))
     (try simp only[Act.put,sL])
     refine wpAnyH_take (i:=1) (v:=.pointer (some ⟨w.heap.size,m,none⟩)) rfl (by kernel_rfl) (by kernel_rfl) (by kernel_rfl) (fun _ _ _ h=>h) (Or.inl ⟨by rfl,?ygc1⟩) hHeld ?rgc1
     case ygc1=>(intro w' hSw;subst hSw;go_simp;(try with_reducible rfl))
     (try simp only[Act.put,sL])
     refine wpAnyH_take (i:=2) (v:=?vgc2) rfl (by kernel_rfl) (by kernel_rfl) (by kernel_rfl) (fun _ _ _ h=>h) (Or.inl ⟨by rfl,?ygc2⟩) hHeld ?rgc2
     case ygc2=>(intro w' hSw;subst hSw;go_simp;(try with_reducible rfl))
     (try simp only[Act.put,sL])
     refine wpAnyH_take (i:=3) (v:=.int .i64 x) rfl (by kernel_rfl) (by kernel_rfl) (by kernel_rfl) (fun _ _ _ h=>h) (Or.inl ⟨by rfl,?ygc3⟩) hHeld ?rgc3
     case ygc3=>(intro w' hSw;subst hSw;go_simp;(try with_reducible rfl))
     (try simp only[Act.put,sL])
     refine wpAnyH_take (i:=4) (v:=.bool false) rfl (by kernel_rfl) (by kernel_rfl) (by kernel_rfl) (fun _ _ _ h=>h) (Or.inl ⟨by rfl,?ygc4⟩) hHeld ?rgc4
     case ygc4=>(intro w' hSw;subst hSw;go_simp;(try simp only[hx1]))
     (try simp only[Act.put,sL])
     refine wpAnyH_take (i:=5) (v:=?vgc5) rfl (by kernel_rfl) (by kernel_rfl) (by kernel_rfl) (fun _ _ _ h=>h) (Or.inl ⟨by rfl,?ygc5⟩) hHeld ?rgc5
     case ygc5=>(intro w' hSw;subst hSw;go_simp;(try with_reducible rfl))
     (try simp only[Act.put,sL])
     refine wpAnyH_take (i:=6) (v:=?vgc6) rfl (by kernel_rfl) (by kernel_rfl) (by kernel_rfl) (fun _ _ _ h=>h) (Or.inl ⟨by rfl,?ygc6⟩) hHeld ?rgc6
     case ygc6=>(intro w' hSw;subst hSw;go_simp;(try with_reducible rfl))
     (try simp only[Act.put,sL])
     refine wpAnyH_take (i:=7) (v:=.pointer (some ⟨w.heap.size,m,none⟩)) rfl (by kernel_rfl) (by kernel_rfl) (by kernel_rfl) (fun _ _ _ h=>h) (Or.inl ⟨by rfl,?ygc7⟩) hHeld ?rgc7
     case ygc7=>(intro w' hSw;subst hSw;go_simp;(try with_reducible rfl))
     (try simp only[Act.put,sL])
     refine wpAnyH_take (i:=8) (v:=?vgc8) rfl (by kernel_rfl) (by kernel_rfl) (by kernel_rfl) (fun _ _ _ h=>h) (Or.inl ⟨by rfl,?ygc8⟩) hHeld ?rgc8
     case ygc8=>(intro w' hSw;subst hSw;go_simp;(try with_reducible rfl))
     (try simp only[Act.put,sL])
     refine wpAnyH_take (i:=9) (v:=.int .i64 x) rfl (by kernel_rfl) (by kernel_rfl) (by kernel_rfl) (fun _ _ _ h=>h) (Or.inl ⟨by rfl,?ygc9⟩) hHeld ?rgc9
     case ygc9=>(intro w' hSw;subst hSw;go_simp;(try with_reducible rfl))
     (try simp only[Act.put,sL])
     refine wpAnyH_take (i:=10) (v:=?vgc10) rfl (by kernel_rfl) (by kernel_rfl) (by kernel_rfl) (fun _ _ _ h=>h) (Or.inl ⟨by rfl,?ygc10⟩) hHeld ?rgc10
     case ygc10=>(intro w' hSw;subst hSw;go_simp;(try with_reducible rfl))
     (try simp only[Act.put,sL])
     refine wpAnyH_take (i:=11) (v:=.int .i64 y) rfl (by kernel_rfl) (by kernel_rfl) (by kernel_rfl) (fun _ _ _ h=>h) (Or.inl ⟨by rfl,?ygc11⟩) hHeld ?rgc11
     case ygc11=>(intro w' hSw;subst hSw;go_simp;(try with_reducible rfl))
     (try simp only[Act.put,sL])
     refine wpAnyH_take (i:=12) (v:=.bool false) rfl (by kernel_rfl) (by kernel_rfl) (by kernel_rfl) (fun _ _ _ h=>h) (Or.inl ⟨by rfl,?ygc12⟩) hHeld ?rgc12
     case ygc12=>(intro w' hSw;subst hSw;go_simp;(try simp only[hy1]))
     (try simp only[Act.put,sL])
     refine wpAnyH_take (i:=13) (v:=.bool false) rfl (by kernel_rfl) (by kernel_rfl) (by kernel_rfl) (fun _ _ _ h=>h) (Or.inl ⟨by rfl,?ygc13⟩) hHeld ?rgc13
     case ygc13=>(intro w' hSw;subst hSw;go_simp;(try with_reducible rfl))
     (try simp only[Act.put,sL])
     refine wpAnyH_done (by kernel_rfl) ?_ _
     clear hHeld
     generalize W2.drew=W3 at *
     go_wp2_with fail
     go_roundw
     case rel=>exact⟨m+1,by go_num,by omega,GN.out,GD.out⟩
     case measure=>first|(simp[intOf];done)|(simp[intOf];omega)
  ·obtain rfl:m=25:=by omega
   rw[show((25:Nat):Int)=25 from rfl]
   have GN:=hide ((gudP_iff l).2 hA.out)
   have MG:=hide (grown_none M0.out.2.2 hG.out)
   clear hA hG M0
   go_wp2_with fail
   rw[←HTT.out]
   exact⟨by first|(rw[GN.out];done)|(rw[GN.out];rfl),MG.out⟩
end Go.Proofs.YtdejpongekicdaaGreatDoor

/- PkpE -/
namespace Go.Proofs.YtdejpongekicdaaGreatDoor
open Go.RowKit
set_option linter.unusedVariables false
set_option linter.unusedSimpArgs false
set_option maxHeartbeats 2000000
theorem pByts_take {w:World}{a:Addr}{n c:Nat}{b:List Int}(h:Byts w (.slice (some a) n c) b)(k:Nat)(hk:k≤b.length):Byts w (.slice (some a) k c) (b.take k):=by
 obtain⟨h1,h2,h3⟩:=byts_some h
 have e:(b.take k).length=k:=by simp;omega
 refine⟨some a,c,by rw[e],by rw[e];omega,fun _=>⟨a,rfl,fun i hi=>?_⟩⟩
 rw[e]at hi
 rw[h3 i (by omega)]
 simp[nth,List.getD,List.getElem?_take,hi]
theorem pbyB_take {b:List Int}(h:byB b)(k:Nat):byB (b.take k):=fun i=>by
 by_cases hi:i<k
 ·have:=h i
  simpa [nth,List.getD,List.getElem?_take,hi] using this
 ·rw[getD_out _ i (by simp;omega)];omega
theorem pchN_take (b:List Int):chN (b.take 14) 14=chN b 14:=by
 unfold chN
 rw[sumB_congr (b.take 14) b 14 (fun i hi=>by simp[nth,List.getD,List.getElem?_take,hi])]
theorem pkTaker_any (ad:Addr)(n c:Nat)(w:World) :
  Calls Tryz.prog 77 #[.slice (some ad) n c] w fun e w'=>e=.returned (.func (.func 171) #[] #[.pointer (some ⟨w.heap.size,0,none⟩),.pointer (some ⟨w.heap.size+1,0,none⟩)])∧w'.cell? ⟨w.heap.size,0,none⟩=some (.slice (some ad) n c)∧w'.heap[w.heap.size+1]?=some (.cells #[.int .i64 0] 3 (0,0))∧w.grownBy w' none:=by
 have c0:=cell_of_heap (heap_new w (.cells #[.slice (some ad) n c] 32)) 0
 have GG:=hide (show w.grownBy ((w.alloc (.cells #[.slice (some ad) n c] 32)).alloc (.cells #[.int .i64 0] 3)) none from grown_none (grown_alloc _ _ none) (grown_alloc _ _ none))
 have c1:=grown_keep (grown_alloc (w.alloc (.cells #[.slice (some ad) n c] 32)) (.cells #[.int .i64 0] 3) none) c0
 have c2:=heap_new (w.alloc (.cells #[.slice (some ad) n c] 32)) (.cells #[.int .i64 0] 3)
 rw[show(w.alloc (.cells #[.slice (some ad) n c] 32)).heap.size=w.heap.size+1 by simp]at c2
 have C1:=hide c1
 have C2:=hide c2
 clear c0 c1 c2
 go_enter Tryz.func77,Tryz.ntmps77
 go_wp2_with fail
 go_ret
 exact⟨rfl,C1.out,C2.out,GG.out⟩
structure UnS (w:World) (bp cb ca base g cap n:Nat) (v:Value) (Z rs:List Int) (wr:World):Prop where
 rz:Blk wr w.heap.size 82 Z
 pk:Blk wr bp 82 rs
 fl:OwnF base wr (.slice (some ⟨g,0,none⟩) 25 cap) 25 (flF bp 25)
 tk:TakS w cb ca n v wr
 o1:w.heap.size<bp
 o2:bp<cb
 o3:cb<ca
 o4:ca<base
theorem UnS.keep {w:World}{bp cb ca base g cap n:Nat}{v:Value}{Z rs:List Int}{wr wr':World}(h:UnS w bp cb ca base g cap n v Z rs wr)(k:wr.grownBy wr' none):UnS w bp cb ca base g cap n v Z rs wr':=
 ⟨h.rz.keep k,h.pk.keep k,h.fl.keep k,h.tk.keep k,h.o1,h.o2,h.o3,h.o4⟩
theorem UnS.take {w:World}{bp cb ca base g cap n m:Nat}{v:Value}{Z rs:List Int}{wr wr':World}(h:UnS w bp cb ca base g cap n v Z rs wr)(t:Trp (fun i=>i=ca) wr wr')(p:TakS w cb ca m v wr'):UnS w bp cb ca base g cap m v Z rs wr':=by
 have q1:=h.o1
 have q2:=h.o2
 have q3:=h.o3
 have q4:=h.o4
 exact⟨h.rz.trp t (by omega),h.pk.trp t (by omega),h.fl.trp t (fun g hg=>by omega),p,q1,q2,q3,q4⟩
theorem UnS.set {w:World}{bp cb ca base g cap n:Nat}{v:Value}{Z rs:List Int}{wr:World}(h:UnS w bp cb ca base g cap n v Z rs wr)(k:Nat)(z:Int):UnS w bp cb ca base g cap n v Z (rs.set k z) (wr.setCell ⟨bp,k,none⟩ (.int .i64 z)):=by
 have q1:=h.o1
 have q2:=h.o2
 have q3:=h.o3
 have q4:=h.o4
 have gs:=grown_setCell wr ⟨bp,k,none⟩ (.int .i64 z)
 refine⟨h.rz.keepBut gs (by simp;omega),h.pk.set k z,h.fl.trp (Trp.of (f:=fun i=>i=bp) gs (fun k e _=>by cases e;rfl)) (fun g hg=>by omega),⟨pcell_but h.tk.var gs (fun e=>by simp at e;omega),(gs.block _ (lt_of_some h.tk.at') (fun e=>by simp at e;omega)).trans h.tk.at',grown_own h.tk.grw gs (by simp;omega),h.tk.le,h.tk.ne⟩,q1,q2,q3,q4⟩
def PrtN (X:Int)(m:Nat)(rs:List Int):Prop:=rs.length=25∧∀i,i<m→nth rs i=fI X i
theorem prtN_step {X:Int}{m:Nat}{rs:List Int}(h:PrtN X m rs)(hm:m<25):PrtN X (m+1) (rs.set m (fI X m)):=by
 refine⟨by rw[List.length_set];exact h.1,fun i hi=>?_⟩
 rw[nth_set _ _ _ (by rw[h.1];exact hm)]
 by_cases e:i=m
 ·rw[if_pos e,e]
 ·rw[if_neg e];exact h.2 i (by omega)
theorem prtN_all {X:Int}{rs:List Int}(h:PrtN X 25 rs):rs=unF X:=by
 have h1:=tab_ext (p:=fI X) h.1 (fun i hi=>h.2 i hi)
 have h2:=tab_ext (p:=fI X) (unF_len X) (fun i hi=>unF_nth X i hi)
 rw[h1,←h2]
theorem unF_64 (X:Int):In64 (unF X):=fun i=>by
 by_cases hi:i<25
 ·rw[unF_nth _ i hi];have:=fI_bd X i hi;omega
 ·rw[getD_out _ i (by rw[unF_len];omega)];omega
set_option maxRecDepth 100000 in
theorem pkUnpack_size (v:Value)(b:List Int)(w:World)(hv:Byts w v b)(hl:b.length≠15)(hl2:b.length≤1000000000000000000) :
  Calls Tryz.prog 39 #[v] w (UnP w b):=by
 obtain⟨ad,c,rfl,hc,_⟩:=hv
 have hz:=zero_arr zPkt
 have hne:((b.length:Int)==15)=false:=beq_eq_false_iff_ne.2 (by omega)
 have e1:=unE_size b hl
 have FB:=fresh_arr w 82 25 (zeros 25) (zeros_len 25)
 have B0:=hide FB.1
 have B1:=hide FB.2.1
 have G1:=hide FB.2.2
 have F:=hide (show ∀w',w.grownBy w' none→UnP w b (.returned (.tuple #[.agg (arrI (zeros 25)),.int .i64 1])) w' from fun w' g=>⟨by rw[e1,unpL_no b (by rw[e1];omega)],g⟩)
 have ZL:=hide (zeros_len 25)
 clear FB e1 hl
 generalize UnP w b=T at *
 generalize zeros 25=Z at *
 go_enter Tryz.func39,Tryz.ntmps39
 go_wp2_with (first|refine wpList_store_arr rfl 82 _ _ rfl _ Z Z rfl rfl B0.out rfl (by rw[ZL.out];exact size25) ?_)
 have hlv:=loadVar_arr B1.out _ Tryz.underlying82 rfl (by rw[ZL.out];exact size25)
 refine bodyPost_ret (v:=.tuple #[.agg (arrI Z),.int .i64 1]) ?_ rfl (F.out _ G1.out)
 simp[results,Tryz.results39,asAddr,Act.put,hlv]
set_option maxRecDepth 100000 in
theorem pkUnpack_sum (v:Value)(b:List Int)(w:World)(hv:Byts w v b)(hb:byB b)(hl:b.length=15)(hs:chN b 14≠nth b 14) :
  Calls Tryz.prog 39 #[v] w (UnP w b):=by
 obtain⟨ad,c,rfl,hc,hcell⟩:=hv
 obtain⟨a,rfl,hce⟩:=hcell (by omega)
 have hz:=zero_arr zPkt
 have BV:=hide (fun wr (g:w.grownBy wr none)=>(show Byts wr (.slice (some a) 14 c) (b.take 14)from pByts_take (n:=b.length) ⟨some a,c,rfl,hc,fun _=>⟨a,rfl,fun i hi=>grown_keep g (hce i hi)⟩⟩ 14 (by omega)))
 have CK:=hide (fun wr (g:w.grownBy wr none)=>pkSum_any a c (b.take 14) wr (BV.out wr g) (pbyB_take hb 14))
 rw[pchN_take]at CK
 have c14:=hce 14 (by omega)
 obtain⟨y1,y2⟩:=hb 14
 rw[hl]at hc ⊢
 have e1:=unE_sum b hl hs
 have FB:=fresh_arr w 82 25 (zeros 25) (zeros_len 25)
 have B0:=hide FB.1
 have F:=hide (show ∀w',w.grownBy w' none→UnP w b (.returned (.tuple #[.agg (arrI (zeros 25)),.int .i64 5])) w' from fun w' g=>⟨by rw[e1,unpL_no b (by rw[e1];omega)],g⟩)
 have ZL:=hide (zeros_len 25)
 have G0:=hide (grown_alloc w (.cells (arrI (zeros 25)) 82) none)
 have PB:=hide (fun w' (B:Blk w' w.heap.size 82 (zeros 25))=>put_arr (rs':=zeros 25) B rfl)
 have hxy:(nth b 14==chN b 14)=false:=beq_eq_false_iff_ne.2 (fun e=>hs e.symm)
 clear FB e1 hl hcell hce BV hb
 generalize UnP w b=T at *
 generalize zeros 25=Z at *
 generalize chN b 14=x at *
 generalize nth b 14=y at *
 have hu:=wrapI y (by omega) (by omega)
 go_enter Tryz.func39,Tryz.ntmps39
 go_upto_region 3 with fail
 generalize w.alloc (.cells (arrI Z) 82)=W0 at *
 refine wp_region_held_drew (S:=GrownW w) (by kernel_rfl) (gw_trans G0.out (grown_drew (grown_refl _ none))) (fun hHeld=>?_)
 refine wpAnyH_take (i:=0) (v:=?vus0) rfl (by kernel_rfl) (by kernel_rfl) (by kernel_rfl) (fun _ _ _ h=>h) (Or.inl ⟨by rfl,?yus0⟩) hHeld ?rus0
 case yus0=>(intro w' hSw;go_simp;(try with_reducible rfl))
 (try simp only[Act.put,sL])
 refine wpAnyH_take (i:=1) (v:=?vus1) rfl (by kernel_rfl) (by kernel_rfl) (by kernel_rfl) (fun _ _ _ h=>h) (Or.inl ⟨by rfl,?yus1⟩) hHeld ?rus1
 case yus1=>(intro w' hSw;go_simp;(try with_reducible rfl))
 (try simp only[Act.put,sL])
 refine wpAnyH_take (i:=2) (v:=.int .u8 y) rfl (by kernel_rfl) (by kernel_rfl) (by kernel_rfl) (fun _ _ _ h=>h) (Or.inl ⟨by rfl,?yus2⟩) hHeld ?rus2
 case yus2=>(intro w' hSw;have cc:w'.cell? { block:=a.block,off:=a.off+14 }=some (.int .u8 y):=grown_keep hSw c14;go_simp;(try with_reducible rfl))
 (try simp only[Act.put,sL])
 refine wpAnyH_take (i:=3) (v:=.int .i64 y) rfl (by kernel_rfl) (by kernel_rfl) (by kernel_rfl) (fun _ _ _ h=>h) (Or.inl ⟨by rfl,?yus3⟩) hHeld ?rus3
 case yus3=>(intro w' hSw;go_simp;(try simp only[hu]))
 (try simp only[Act.put,sL])
 refine wpAnyH_take (i:=4) (v:=?vus4) rfl (by kernel_rfl) (by kernel_rfl) (by kernel_rfl) (fun _ _ _ h=>h) (Or.inl ⟨by rfl,?yus4⟩) hHeld ?rus4
 case yus4=>(intro w' hSw;go_simp;(try with_reducible rfl))
 (try simp only[Act.put,sL])
 refine wpAnyH_take (i:=5) (v:=.slice (some a) 14 c) rfl (by kernel_rfl) (by kernel_rfl) (by kernel_rfl) (fun _ _ _ h=>h) (Or.inl ⟨by rfl,?yus5⟩) hHeld ?rus5
 case yus5=>(intro w' hSw;have h14:(14:Int)≤(c:Int):=(by omega);go_simp;(try(first|done|(rw[if_pos h14])|rfl)))
 (try simp only[Act.put,sL])
 refine wpAnyH_ready (rs:=[6]) (by kernel_rfl) (by simp) (AllReadyH.cons rfl (fun K hK=>?_) AllReadyH.nil)
 (try simp only[Act.put,sL])
 go_simp
 refine(CK.out _ (gw_trans G0.out (grown_drew (grown_refl _ none)))).mono ?_
 rintro e w1 ⟨rfl,rfl⟩
 go_wp2_with fail
 refine hK.out _ _ hHeld (fun hHeld=>?_)
 clear hK
 (try simp only[Act.put,sL])
 refine wpAnyH_take (i:=7) (v:=.bool true) rfl (by kernel_rfl) (by kernel_rfl) (by kernel_rfl) (fun _ _ _ h=>h) (Or.inl ⟨by rfl,?yus7⟩) hHeld ?rus7
 case yus7=>(intro w' hSw;go_simp;(first|done|rfl|exact beq_eq_false_iff_ne.1 hxy|exact beq_iff_eq.1 hxy))
 (try simp only[Act.put,sL])
 refine wpAnyH_done (by kernel_rfl) ?_ _
 have B1:=hide (B0.out.keep (grown_drew (grown_refl W0 none)))
 have G1:=hide (grown_none G0.out (grown_drew (grown_refl W0 none)))
 clear B0 G0 CK
 generalize W0.drew=W1 at *
 have PU:=PB.out W1 B1.out
 have PB1:=hide PU.1
 have PG:=hide (grown_own G1.out PU.2 (Nat.le_refl _))
 clear PU PB
 go_wp2_with (first|refine wpList_store_arr rfl 82 _ _ rfl _ Z Z rfl rfl B1.out rfl (by rw[ZL.out];exact size25) ?_)
 have hlv:=loadVar_arr PB1.out _ Tryz.underlying82 rfl (by rw[ZL.out];exact size25)
 refine bodyPost_ret (v:=.tuple #[.agg (arrI Z),.int .i64 5]) ?_ rfl (F.out _ PG.out)
 simp[results,Tryz.results39,asAddr,Act.put,hlv]
set_option maxRecDepth 100000 in
theorem pkUnpack_rest (v:Value)(b:List Int)(w:World)(hv:Byts w v b)(hb:byB b)(hl:b.length=15)(hs:chN b 14=nth b 14)(hT:TabA w 3 widq 8) :
  Calls Tryz.prog 39 #[v] w (UnP w b):=by
 have HV:=hide hv
 obtain⟨ad,c,rfl,hc,hcell⟩:=hv
 obtain⟨a,rfl,hce⟩:=hcell (by omega)
 rw[hl]at HV
 have HT:=hide hT
 have HBY:=hide hb
 have hz:=zero_arr zPkt
 have BV:=hide (fun wr (g:w.grownBy wr none)=>(show Byts wr (.slice (some a) 14 c) (b.take 14)from pByts_take (n:=b.length) ⟨some a,c,rfl,hc,fun _=>⟨a,rfl,fun i hi=>grown_keep g (hce i hi)⟩⟩ 14 (by omega)))
 have CK:=hide (fun wr (g:w.grownBy wr none)=>pkSum_any a c (b.take 14) wr (BV.out wr g) (pbyB_take hb 14))
 rw[pchN_take]at CK
 have c14:=hce 14 (by omega)
 obtain⟨y1,y2⟩:=hb 14
 have EF:=hide (unE_form b hl hs)
 have ER:=hide (unE_range b hl hs)
 have EP:=hide (unE_par b hl hs)
 have EK:=hide (unE_ok b hl hs)
 rw[hl]at hc ⊢
 have B0:=hide (Blk.new w 82 (zeros 25))
 have G0:=hide (grown_alloc w (.cells (arrI (zeros 25)) 82) none)
 have Z0:=hide (show(w.alloc (.cells (arrI (zeros 25)) 82)).heap.size=w.heap.size+1 by simp)
 have ZL:=hide (zeros_len 25)
 have HZ:=hide (show ∀k,unE b≠0→unE b=k→∀w',w.grownBy w' none→UnP w b (.returned (.tuple #[.agg (arrI (zeros 25)),.int .i64 k])) w' from fun k h0 e1 w' g=>⟨by rw[e1,unpL_no b h0],g⟩)
 have HF:=hide (show unE b=0→∀w',w.grownBy w' none→UnP w b (.returned (.tuple #[.agg (arrI (unF (xB b 14))),.int .i64 0])) w' from fun e1 w' g=>⟨by rw[e1,show unpL b=unF (xB b 14)from if_pos e1],g⟩)
 have hxy:(nth b 14==chN b 14)=true:=beq_iff_eq.2 hs.symm
 clear hl hcell hce BV hb hT hs
 generalize UnP w b=T at *
 generalize zeros 25=Z at *
 generalize chN b 14=x at *
 generalize nth b 14=y at *
 have hu:=wrapI y (by omega) (by omega)
 go_enter Tryz.func39,Tryz.ntmps39
 go_upto_region 3 with fail
 generalize w.alloc (.cells (arrI Z) 82)=W0 at *
 refine wp_region_held_drew (S:=GrownW w) (by kernel_rfl) (gw_trans G0.out (grown_drew (grown_refl _ none))) (fun hHeld=>?_)
 refine wpAnyH_take (i:=0) (v:=?vur0) rfl (by kernel_rfl) (by kernel_rfl) (by kernel_rfl) (fun _ _ _ h=>h) (Or.inl ⟨by rfl,?yur0⟩) hHeld ?rur0
 case yur0=>(intro w' hSw;go_simp;(try with_reducible rfl))
 (try simp only[Act.put,sL])
 refine wpAnyH_take (i:=1) (v:=?vur1) rfl (by kernel_rfl) (by kernel_rfl) (by kernel_rfl) (fun _ _ _ h=>h) (Or.inl ⟨by rfl,?yur1⟩) hHeld ?rur1
 case yur1=>(intro w' hSw;go_simp;(try with_reducible rfl))
 (try simp only[Act.put,sL])
 refine wpAnyH_take (i:=2) (v:=.int .u8 y) rfl (by kernel_rfl) (by kernel_rfl) (by kernel_rfl) (fun _ _ _ h=>h) (Or.inl ⟨by rfl,?yur2⟩) hHeld ?rur2
 case yur2=>(intro w' hSw;have cc:w'.cell? { block:=a.block,off:=a.off+14 }=some (.int .u8 y):=grown_keep hSw c14;go_simp;(try with_reducible rfl))
 (try simp only[Act.put,sL])
 refine wpAnyH_take (i:=3) (v:=.int .i64 y) rfl (by kernel_rfl) (by kernel_rfl) (by kernel_rfl) (fun _ _ _ h=>h) (Or.inl ⟨by rfl,?yur3⟩) hHeld ?rur3
 case yur3=>(intro w' hSw;go_simp;(try simp only[hu]))
 (try simp only[Act.put,sL])
 refine wpAnyH_take (i:=4) (v:=?vur4) rfl (by kernel_rfl) (by kernel_rfl) (by kernel_rfl) (fun _ _ _ h=>h) (Or.inl ⟨by rfl,?yur4⟩) hHeld ?rur4
 case yur4=>(intro w' hSw;go_simp;(try with_reducible rfl))
 (try simp only[Act.put,sL])
 refine wpAnyH_take (i:=5) (v:=.slice (some a) 14 c) rfl (by kernel_rfl) (by kernel_rfl) (by kernel_rfl) (fun _ _ _ h=>h) (Or.inl ⟨by rfl,?yur5⟩) hHeld ?rur5
 case yur5=>(intro w' hSw;have h14:(14:Int)≤(c:Int):=(by omega);go_simp;(try(first|done|(rw[if_pos h14])|rfl)))
 (try simp only[Act.put,sL])
 refine wpAnyH_ready (rs:=[6]) (by kernel_rfl) (by simp) (AllReadyH.cons rfl (fun K hK=>?_) AllReadyH.nil)
 (try simp only[Act.put,sL])
 go_simp
 refine(CK.out _ (gw_trans G0.out (grown_drew (grown_refl _ none)))).mono ?_
 rintro e w1 ⟨rfl,rfl⟩
 go_wp2_with fail
 refine hK.out _ _ hHeld (fun hHeld=>?_)
 clear hK
 (try simp only[Act.put,sL])
 refine wpAnyH_take (i:=7) (v:=.bool false) rfl (by kernel_rfl) (by kernel_rfl) (by kernel_rfl) (fun _ _ _ h=>h) (Or.inl ⟨by rfl,?yur7⟩) hHeld ?rur7
 case yur7=>(intro w' hSw;go_simp;(first|done|rfl|exact beq_eq_false_iff_ne.1 hxy|exact beq_iff_eq.1 hxy))
 (try simp only[Act.put,sL])
 refine wpAnyH_done (by kernel_rfl) ?_ _
 have B1:=hide (B0.out.keep (grown_drew (grown_refl W0 none)))
 have G1:=hide (grown_none G0.out (grown_drew (grown_refl W0 none)))
 have Z1:=hide (show W0.drew.heap.size=w.heap.size+1 from Z0.out)
 clear B0 G0 CK Z0 c14 hxy hHeld
 generalize W0.drew=W1 at *
 have P2:=hide (Blk.new W1 82 Z)
 have GA:=hide (grown_alloc W1 (.cells (arrI Z) 82) none)
 have Z2:=hide (show(W1.alloc (.cells (arrI Z) 82)).heap.size=W1.heap.size+1 by simp)
 go_upto_region 6 with fail
 generalize W1.alloc (.cells (arrI Z) 82)=W2 at *
 have B2:=hide (B1.out.keep GA.out)
 have G2:=hide (grown_none G1.out GA.out)
 clear B1 G1 GA
 go_wp2_with fail
 refine(pkTaker_any a 15 c W2).mono ?_
 rintro e W3 ⟨rfl,c1,c2,g3⟩
 have TK:=hide (show TakS w W2.heap.size (W2.heap.size+1) 0 (.slice (some a) 15 c) W3 from⟨c1,c2,grown_none G2.out g3,by have:=Z2.out;have:=Z1.out;omega,by omega⟩)
 have B3:=hide (B2.out.keep g3)
 have P3:=hide (P2.out.keep g3)
 have Z3:=hide (lt_of_some c2)
 clear c1 c2 g3 B2 P2 G2
 go_wp2_with fail
 refine(pkFields_any W1.heap.size W3 (TabA_keep HT.out TK.out.grw)).mono ?_
 rintro e W4 ⟨v,rfl,o4,g4⟩
 obtain⟨g,cap,rfl,_,_⟩:=o4.form (by omega)
 have M0:=hide (show UnS w W1.heap.size W2.heap.size (W2.heap.size+1) W3.heap.size g cap (sW 0) (.slice (some a) 15 c) Z Z W4 from⟨B3.out.keep g4,P3.out.keep g4,o4,TK.out.keep g4,by have:=Z1.out;omega,by have:=Z2.out;omega,by omega,Z3.out⟩)
 clear P3 B3 TK Z1 Z2 Z3 o4 g4
 generalize W3.heap.size=base at *
 generalize W2.heap.size=cb at *
 generalize W1.heap.size=bp at *
 go_wp2_with fail
 generalize hca:cb+1=ca at *
 clear hca
 go_loopw [26] (fun i wr=>∃(m:Nat) (rs:List Int),i=.int .i64 (m:Int)∧m≤25∧Hid (PrtN (xB b 14) m rs)∧Hid (UnS w bp cb ca base g cap (sW m) (.slice (some a) 15 c) Z rs wr)) (fun i _=>25-(intOf i).toNat)
 case atStart=>exact⟨0,Z,rfl,Nat.zero_le _,⟨ZL.out,fun i hi=>by omega⟩,M0.out⟩
 case round=>
  obtain⟨m,rs,rfl,hm,hP,hM⟩:=hrel
  clear M0
  by_cases hm25:m<25
  ·have i1:(m:Int)<25:=by omega
   obtain⟨c0,c1,c2⟩:=hM.out.fl.fld m hm25
   have F0:=hide (heap_new wr (.cells #[.pointer (some ⟨bp,m,none⟩),.int .i64 (wdN m:Int),.int .i64 (moN m)] 124))
   have GA:=hide (grown_alloc wr (.cells #[.pointer (some ⟨bp,m,none⟩),.int .i64 (wdN m:Int),.int .i64 (moN m)] 124) none)
   have FB:=hide (show ca<wr.heap.size∧bp<wr.heap.size∧bp<ca from⟨lt_of_some hM.out.tk.at',hM.out.pk.lt,Nat.lt_trans hM.out.o2 hM.out.o3⟩)
   have M1:=hide (hM.out.keep (grown_drew GA.out))
   have NP:=hide (prtN_step hP.out hm25)
   have RL:=hide hP.out.1
   have TC:=hide (fun u (h:UnS w bp cb ca base g cap (sW m) (.slice (some a) 15 c) Z rs u)=>pkTake_any w cb ca (sW m) (wdN m) a c b u HV.out HBY.out (by have:=wdN_le m hm25;omega) (by have:=sW_le (m+1) (by omega);rw[sW_next]at this;omega) h.tk)
   rw[tak_field]at TC
   clear hM hP
   go_upto_region 10 with fail
   generalize wr.alloc (.cells #[.pointer (some ⟨bp,m,none⟩),.int .i64 (wdN m:Int),.int .i64 (moN m)] 124)=W2' at *
   have f0:W2'.cell? ⟨wr.heap.size,0,none⟩=some (.pointer (some ⟨bp,m,none⟩)):=cell_of_heap F0.out 0
   have f1:W2'.cell? ⟨wr.heap.size,1,none⟩=some (.int .i64 (wdN m:Int)):=cell_of_heap F0.out 1
   clear c0 c1 c2 F0 GA
   generalize wr.heap.size=fb at *
   generalize fI (xB b 14) m=z at *
   refine wp_region_held_drew (S:=fun u=>u.cell? ⟨fb,0,none⟩=some (.pointer (some ⟨bp,m,none⟩))∧u.cell? ⟨fb,1,none⟩=some (.int .i64 (wdN m:Int))) (by kernel_rfl) ⟨f0,f1⟩ (fun hHeld=>?_)
   clear f0 f1
   generalize W2'.drew=W3' at *
   refine wpAnyH_take (i:=0) (v:=?vut0) rfl (by kernel_rfl) (by kernel_rfl) (by kernel_rfl) (fun _ _ _ h=>h) (Or.inl ⟨by rfl,?yut0⟩) hHeld ?rut0
   case yut0=>(intro w' hSw;go_simp;(try with_reducible rfl))
   (try simp only[Act.put,sL])
   refine wpAnyH_take (i:=1) (v:=.pointer (some ⟨bp,m,none⟩)) rfl (by kernel_rfl) (by kernel_rfl) (by kernel_rfl) (fun _ _ _ h=>h) (Or.inl ⟨by rfl,?yut1⟩) hHeld ?rut1
   case yut1=>(intro w' hSw;obtain⟨q0,q1⟩:=hSw;go_simp;(try with_reducible rfl))
   (try simp only[Act.put,sL])
   refine wpAnyH_take (i:=2) (v:=?vut2) rfl (by kernel_rfl) (by kernel_rfl) (by kernel_rfl) (fun _ _ _ h=>h) (Or.inl ⟨by rfl,?yut2⟩) hHeld ?rut2
   case yut2=>(intro w' hSw;go_simp;(try with_reducible rfl))
   (try simp only[Act.put,sL])
   refine wpAnyH_take (i:=3) (v:=?vut3) rfl (by kernel_rfl) (by kernel_rfl) (by kernel_rfl) (fun _ _ _ h=>h) (Or.inl ⟨by rfl,?yut3⟩) hHeld ?rut3
   case yut3=>(intro w' hSw;go_simp;(try with_reducible rfl))
   (try simp only[Act.put,sL])
   refine wpAnyH_take (i:=4) (v:=.int .i64 (wdN m:Int)) rfl (by kernel_rfl) (by kernel_rfl) (by kernel_rfl) (fun _ _ _ h=>h) (Or.inl ⟨by rfl,?yut4⟩) hHeld ?rut4
   case yut4=>(intro w' hSw;obtain⟨q0,q1⟩:=hSw;go_simp;(try with_reducible rfl))
   (try simp only[Act.put,sL])
   refine wpAnyH_ready (rs:=[5]) (by kernel_rfl) (by simp) (AllReadyH.cons rfl (fun K hK=>?_) AllReadyH.nil)
   (try simp only[Act.put,sL])
   go_simp
   refine(TC.out W3' M1.out).mono ?_
   rintro e W6 ⟨rfl,p',t'⟩
   have M2:=hide (show UnS w bp cb ca base g cap (sW (m+1)) (.slice (some a) 15 c) Z rs W6 from M1.out.take t' p')
   clear M1 p'
   go_wp2_with fail
   refine hK.out _ _ ⟨trp_cell t' hHeld.1 (by have:=FB.out;omega),trp_cell t' hHeld.2 (by have:=FB.out;omega)⟩ (fun hHeld=>?_)
   clear hK
   (try simp only[Act.put,sL])
   clear t'
   refine wpAnyH_take (i:=6) (v:=?vut6) rfl (by kernel_rfl) (by kernel_rfl) (by kernel_rfl) (fun _ _ _ h=>h) (Or.inl ⟨by rfl,?yut6⟩) hHeld ?rut6
   case yut6=>(intro w' hSw;go_simp;(try with_reducible rfl))
   (try simp only[Act.put,sL])
   refine wpAnyH_ready (rs:=[7]) (by kernel_rfl) (by simp) (AllReadyH.cons rfl (fun K hK=>?_) AllReadyH.nil)
   (try simp only[Act.put,sL])
   have cp:=M2.out.pk.cell m (by rw[RL.out];exact hm25)
   have fp:=M2.out.pk.free m
   have M3:=hide (M2.out.set m z)
   have GS:=hide (grown_setCell W6 ⟨bp,m,none⟩ (.int .i64 z))
   go_simp
   go_wp2_with fail
   refine hK.out _ _ ⟨pcell_but hHeld.1 GS.out (fun e=>by have:=FB.out;simp at e;omega),pcell_but hHeld.2 GS.out (fun e=>by have:=FB.out;simp at e;omega)⟩ (fun hHeld=>?_)
   clear hK
   (try simp only[Act.put,sL])
   clear GS cp fp
   refine wpAnyH_done (by kernel_rfl) ?_ _
   clear M2 TC hHeld FB RL
   go_wp2_with fail
   go_roundw
   case rel=>exact⟨m+1,rs.set m z,by go_num,by omega,NP.out,M3.out⟩
   case measure=>first|(simp[intOf];done)|(simp[intOf];omega)
  ·obtain rfl:m=25:=by omega
   rw[show((25:Nat):Int)=25 from rfl]
   rw[sW25]at hM
   have ers:=prtN_all hP.out
   subst ers
   clear hP
   have U64:=hide (unF_64 (xB b 14))
   have UL:=hide (unF_len (xB b 14))
   generalize hX:xB b 14=X at *
   have HX:=hide hX
   clear hX
   go_wp2_with fail
   refine(pkTake_any w cb ca 106 1 a c b wr HV.out HBY.out (by omega) (by omega) hM.out.tk).mono ?_
   rintro e W6 ⟨rfl,p6,t6⟩
   rw[HX.out,tak_par]
   have M1:=hide (hM.out.take t6 p6)
   clear hM p6 t6
   go_wp2_with fail
   refine(pkTake_any w cb ca 107 5 a c b W6 HV.out HBY.out (by omega) (by omega) M1.out.tk).mono ?_
   rintro e W7 ⟨rfl,p7,t7⟩
   rw[HX.out,tak_spare]
   have M2:=hide (M1.out.take t7 p7)
   clear M1 p7 t7 HV HBY
   by_cases h32:X % 32=0
   ·have GG:=hide (fun wr (g:w.grownBy wr none)=>pkGood_any (unF X) UL.out U64.out wr (TabA_keep HT.out g))
    have PP:=hide (fun wr=>pkParity_any (unF X) UL.out U64.out wr)
    have hq0:(X % 32==0)=true:=beq_iff_eq.2 h32
    rcases hgd:gudP (unF X)with _|_
    ·rw[hgd]at GG
     have e1:=ER.out h32 hgd
     have F:=hide (HZ.out 2 (by rw[e1];omega) e1)
     clear e1 EF ER EP EK HZ HF PP
     generalize X % 32=X5 at *
     generalize pB X=p2 at *
     go_wp2_with (first|refine wpList_load_arr rfl 82 _ rfl _ rfl _ M2.out.pk _ Tryz.underlying82 rfl (by rw[UL.out];exact size25) ?_)
     refine(GG.out _ M2.out.tk.grw).mono ?_
     rintro e w9 ⟨rfl,g9⟩
     have M3:=hide (M2.out.keep g9)
     clear M2 g9 GG
     have PU:=put_arr (rs':=Z) M3.out.rz rfl
     have B6:=hide M3.out.rz
     have PK6:=hide M3.out.pk
     have PB1:=hide PU.1
     have PG:=hide (grown_own M3.out.tk.grw PU.2 (Nat.le_refl _))
     clear PU M3
     go_wp2_with (first|refine wpList_load_arr rfl 82 _ rfl _ rfl _ PK6.out _ Tryz.underlying82 rfl (by rw[UL.out];exact size25) ?_|refine wpList_store_arr rfl 82 _ _ rfl _ Z Z rfl rfl B6.out rfl (by rw[ZL.out];exact size25) ?_)
     have hlv:=loadVar_arr PB1.out _ Tryz.underlying82 rfl (by rw[ZL.out];exact size25)
     refine bodyPost_ret (v:=.tuple #[.agg (arrI Z),.int .i64 2]) ?_ rfl (F.out _ PG.out)
     simp[results,Tryz.results39,asAddr,Act.put,hlv]
    ·rw[hgd]at GG
     by_cases hpp:parL (unF X)=pB X
     ·have hq:(pB X==parL (unF X))=true:=beq_iff_eq.2 hpp.symm
      have e1:=EK.out h32 hgd hpp
      have F:=hide (HF.out e1)
      clear e1 EF ER EP EK HZ HF
      generalize X % 32=X5 at *
      generalize pB X=p2 at *
      generalize unF X=rs at *
      go_wp2_with (first|refine wpList_load_arr rfl 82 _ rfl _ rfl _ M2.out.pk _ Tryz.underlying82 rfl (by rw[UL.out];exact size25) ?_)
      refine(GG.out _ M2.out.tk.grw).mono ?_
      rintro e w9 ⟨rfl,g9⟩
      replace M2:=hide (M2.out.keep g9)
      clear g9 GG
      go_wp2_with (first|refine wpList_load_arr rfl 82 _ rfl _ rfl _ M2.out.pk _ Tryz.underlying82 rfl (by rw[UL.out];exact size25) ?_)
      refine(PP.out _).mono ?_
      rintro e w10 ⟨rfl,g10⟩
      have M3:=hide (M2.out.keep g10)
      clear M2 g10 PP
      generalize parL rs=p1 at *
      have PU:=put_arr (rs':=rs) M3.out.rz (by rw[UL.out,ZL.out])
      have B6:=hide M3.out.rz
      have PK6:=hide M3.out.pk
      have PB1:=hide PU.1
      have PG:=hide (grown_own M3.out.tk.grw PU.2 (Nat.le_refl _))
      clear PU M3
      go_wp2_with (first|refine wpList_load_arr rfl 82 _ rfl _ rfl _ PK6.out _ Tryz.underlying82 rfl (by rw[UL.out];exact size25) ?_|refine wpList_store_arr rfl 82 _ _ rfl _ Z rs rfl rfl B6.out (by rw[UL.out,ZL.out]) (by rw[ZL.out];exact size25) ?_)
      have hlv:=loadVar_arr PB1.out _ Tryz.underlying82 rfl (by rw[UL.out];exact size25)
      refine bodyPost_ret (v:=.tuple #[.agg (arrI rs),.int .i64 0]) ?_ rfl (F.out _ PG.out)
      simp[results,Tryz.results39,asAddr,Act.put,hlv]
     ·have hq:(pB X==parL (unF X))=false:=beq_eq_false_iff_ne.2 (fun e=>hpp e.symm)
      have e1:=EP.out h32 hgd hpp
      have F:=hide (HZ.out 3 (by rw[e1];omega) e1)
      clear e1 EF ER EP EK HZ HF
      generalize X % 32=X5 at *
      generalize pB X=p2 at *
      generalize unF X=rs at *
      go_wp2_with (first|refine wpList_load_arr rfl 82 _ rfl _ rfl _ M2.out.pk _ Tryz.underlying82 rfl (by rw[UL.out];exact size25) ?_)
      refine(GG.out _ M2.out.tk.grw).mono ?_
      rintro e w9 ⟨rfl,g9⟩
      replace M2:=hide (M2.out.keep g9)
      clear g9 GG
      go_wp2_with (first|refine wpList_load_arr rfl 82 _ rfl _ rfl _ M2.out.pk _ Tryz.underlying82 rfl (by rw[UL.out];exact size25) ?_)
      refine(PP.out _).mono ?_
      rintro e w10 ⟨rfl,g10⟩
      have M3:=hide (M2.out.keep g10)
      clear M2 g10 PP
      generalize parL rs=p1 at *
      have PU:=put_arr (rs':=Z) M3.out.rz rfl
      have B6:=hide M3.out.rz
      have PK6:=hide M3.out.pk
      have PB1:=hide PU.1
      have PG:=hide (grown_own M3.out.tk.grw PU.2 (Nat.le_refl _))
      clear PU M3
      go_wp2_with (first|refine wpList_load_arr rfl 82 _ rfl _ rfl _ PK6.out _ Tryz.underlying82 rfl (by rw[UL.out];exact size25) ?_|refine wpList_store_arr rfl 82 _ _ rfl _ Z Z rfl rfl B6.out rfl (by rw[ZL.out];exact size25) ?_)
      have hlv:=loadVar_arr PB1.out _ Tryz.underlying82 rfl (by rw[ZL.out];exact size25)
      refine bodyPost_ret (v:=.tuple #[.agg (arrI Z),.int .i64 3]) ?_ rfl (F.out _ PG.out)
      simp[results,Tryz.results39,asAddr,Act.put,hlv]
   ·have hq0:(X % 32==0)=false:=beq_eq_false_iff_ne.2 h32
    have e1:=EF.out h32
    have F:=hide (HZ.out 3 (by rw[e1];omega) e1)
    clear e1 EF ER EP EK HZ HF
    generalize X % 32=X5 at *
    generalize pB X=p2 at *
    have PU:=put_arr (rs':=Z) M2.out.rz rfl
    have B6:=hide M2.out.rz
    have PK6:=hide M2.out.pk
    have PB1:=hide PU.1
    have PG:=hide (grown_own M2.out.tk.grw PU.2 (Nat.le_refl _))
    clear PU M2
    go_wp2_with (first|refine wpList_load_arr rfl 82 _ rfl _ rfl _ PK6.out _ Tryz.underlying82 rfl (by rw[UL.out];exact size25) ?_|refine wpList_store_arr rfl 82 _ _ rfl _ Z Z rfl rfl B6.out rfl (by rw[ZL.out];exact size25) ?_)
    have hlv:=loadVar_arr PB1.out _ Tryz.underlying82 rfl (by rw[ZL.out];exact size25)
    refine bodyPost_ret (v:=.tuple #[.agg (arrI Z),.int .i64 3]) ?_ rfl (F.out _ PG.out)
    simp[results,Tryz.results39,asAddr,Act.put,hlv]
theorem pkUnpack_any (v:Value)(b:List Int)(w:World)(hv:Byts w v b)(hb:byB b)(hl2:b.length≤1000000000000000000)(hT:TabA w 3 widq 8):Calls Tryz.prog 39 #[v] w (UnP w b):=by
 by_cases hl:b.length=15
 ·by_cases hs:chN b 14=nth b 14
  ·exact pkUnpack_rest v b w hv hb hl hs hT
  ·exact pkUnpack_sum v b w hv hb hl hs
 ·exact pkUnpack_size v b w hv hl hl2
end Go.Proofs.YtdejpongekicdaaGreatDoor

/- LpcE -/
namespace Go.Proofs.YtdejpongekicdaaGreatDoor
open Go.RowKit
set_option linter.unusedVariables false
set_option linter.unusedSimpArgs false
set_option maxHeartbeats 1000000
def LevA (w:World)(K:List Int)(e:Int)(g:Bool)(en:Ending)(w':World):Prop:=en=.returned (.tuple #[.agg (arrI K),.int .i64 e,.bool g])∧w.grownBy w' none
def MemLev (w wr:World)(R ks A:List Int):Prop:=
 Blk wr w.heap.size 95 R∧Blk wr (w.heap.size+1) 50 (zeros 8)∧Blk wr (w.heap.size+1+1) 50 ks∧Blk wr (w.heap.size+1+1+1) 95 A∧w.grownBy wr none
theorem memL_keep {w wr wr':World}{R ks A:List Int}(h:MemLev w wr R ks A)(g:wr.grownBy wr' none):MemLev w wr' R ks A:=
 ⟨h.1.keep g,h.2.1.keep g,h.2.2.1.keep g,h.2.2.2.1.keep g,grown_none h.2.2.2.2 g⟩
theorem memL_put {w wr:World}{R ks A:List Int}(h:MemLev w wr R ks A)(A':List Int)(hl:A'.length=A.length):MemLev w (putArr wr (w.heap.size+1+1+1) A') R ks A':=by
 have PU:=put_arr (rs':=A') h.2.2.2.1 hl
 exact⟨h.1.keepBut PU.2 (by omega),h.2.1.keepBut PU.2 (by omega),h.2.2.1.keepBut PU.2 (by omega),PU.1,grown_own h.2.2.2.2 PU.2 (by omega)⟩
theorem memL_set {w wr:World}{R ks A:List Int}(h:MemLev w wr R ks A)(i:Nat)(z:Int):MemLev w (wr.setCell ⟨w.heap.size+1+1,i,none⟩ (.int .i64 z)) R (ks.set i z) A:=by
 have g:=grown_setCell wr ⟨w.heap.size+1+1,i,none⟩ (.int .i64 z)
 exact⟨h.1.keepBut g (by simp;omega),h.2.1.keepBut g (by simp),h.2.2.1.set i z,h.2.2.2.1.keepBut g (by simp),grown_own h.2.2.2.2 g (by simp;omega)⟩
theorem tdiv_bdL (S e:Int)(he:0<e)(h1:-144115188075855872≤S)(h2:S≤144115188075855872):-144115188075855872≤S.tdiv e∧S.tdiv e≤144115188075855872:=by
 have key:∀X:Int,0≤X→X≤144115188075855872→0≤X.tdiv e∧X.tdiv e≤144115188075855872:=fun X h0 h3=>by
  rw[Int.tdiv_eq_ediv_of_nonneg h0]
  have a:=Int.ediv_nonneg h0 (Int.le_of_lt he)
  have b:=Int.ediv_le_self e h0
  omega
 rcases Int.le_total 0 S with h|h
 ·have:=key S h h2;omega
 ·have e1:S.tdiv e=-((-S).tdiv e):=by rw[Int.neg_tdiv];omega
  have:=key (-S) (by omega) (by omega)
  omega
theorem lev_zero_k (r:Nat→Int):tab 8 (lev r 0).k=zeros 8:=(zeros_tab 8).symm
set_option maxRecDepth 100000 in
theorem levinson_no (R:List Int)(hR:R.length=9)(ho:okL R=false)(w:World):Calls Tryz.prog 62 #[.agg (arrI R)] w (LevA w (zeros 8) 0 false):=by
 have L0:=hide (laid3 w 95 50 50 R (zeros 8) (zeros 8))
 have IB:=hide (Ints_blk L0.out.1 9 (by omega))
 rw[hR,z8']at IB
 rw[z8']at L0
 have A:=hide (allWithin_any (.slice (some ⟨w.heap.size,0,none⟩) 9 9) R (-2147483647) 2147483647 _ IB.out (by omega))
 rw[inB_rng]at A
 have c0:=L0.out.1.cell 0 (by omega)
 have HO:=hide (show rngB R=false∨(rngB R=true∧nth R 0≤0)from by
  unfold okL at ho
  rcases hb:rngB R with _|_
  ·exact .inl rfl
  ·right;rw[hb]at ho;simp at ho;exact⟨rfl,ho⟩)
 have BK:=hide L0.out.2.2.1
 have BB:=hide L0.out.2.1
 have GM:=hide L0.out.2.2.2
 clear ho IB L0
 generalize nth R 0=r0 at *
 rcases HO.out with h|⟨h,h0⟩
 all_goals
  rw[h]at A
  clear h HO
  go_enter Tryz.func62,Tryz.ntmps62
  go_wp2_with fail
  refine A.out.mono ?_
  rintro e w1 ⟨rfl,rfl⟩
  clear A
  go_wp2_with (first|refine wpList_load_arr rfl 50 _ rfl _ rfl _ BK.out _ Tryz.underlying50 rfl (by rw[zeros_len];exact size8') ?_|refine wpList_store_arr rfl 50 _ _ rfl _ (zeros 8) (zeros 8) rfl rfl BB.out rfl (by rw[zeros_len];exact size8') ?_)
  have PU:=put_arr (rs':=zeros 8) BB.out rfl
  have hlv:=loadVar_arr PU.1 _ Tryz.underlying50 rfl (by rw[zeros_len];exact size8')
  have GF:=hide (grown_own GM.out PU.2 (by omega))
  refine bodyPost_ret (v:=.tuple #[.agg (arrI (zeros 8)),.int .i64 0,.bool false]) ?_ rfl ⟨rfl,GF.out⟩
  simp[results,Tryz.results62,asAddr,Act.put,hlv]
set_option maxRecDepth 100000 in
theorem levinson_yes (R:List Int)(hR:R.length=9)(ho:okL R=true)(w:World):Calls Tryz.prog 62 #[.agg (arrI R)] w (LevA w (levK R) (levE R) (levG R)):=by
 have L0:=hide (laid3 w 95 50 50 R (zeros 8) (zeros 8))
 have IB:=hide (Ints_blk L0.out.1 9 (by omega))
 rw[hR,z8']at IB
 rw[z8']at L0
 have A:=hide (allWithin_any (.slice (some ⟨w.heap.size,0,none⟩) 9 9) R (-2147483647) 2147483647 _ IB.out (by omega))
 have c0:=L0.out.1.cell 0 (by omega)
 have ho':=ho
 unfold okL at ho'
 simp only[Bool.and_eq_true,decide_eq_true_eq]at ho'
 obtain⟨hB,h0⟩:=ho'
 rw[inB_rng,hB]at A
 have HB:=hide (RB_of hB)
 obtain⟨b1,b2⟩:=HB.out 0
 have EK:=hide (show levK R=tab 8 (lev (nth R) 8).k by simp[levK,ho])
 have EE:=hide (show levE R=(lev (nth R) 8).e by simp[levE,ho])
 have EG:=hide (show levG R=(lev (nth R) 8).go by simp[levG,ho])
 have IS:=hide (inv_start (nth R) h0)
 clear IB ho hB
 have h0':¬nth R 0≤0:=by omega
 have G0:=hide L0.out.2.2.2
 have BK:=hide L0.out.2.2.1
 have BB:=hide L0.out.2.1
 have BR:=hide L0.out.1
 have E0:=hide (show(lev (nth R) 0).e=nth R 0 from rfl)
 clear L0
 generalize hr0:nth R 0=r0 at *
 have HR0:=hide hr0
 clear hr0
 go_enter Tryz.func62,Tryz.ntmps62
 go_wp2_with fail
 refine A.out.mono ?_
 rintro e w1 ⟨rfl,rfl⟩
 clear A
 go_upto_region 4 with fail
 have hsz:(((w.alloc (.cells (arrI R) 95)).alloc (.cells (arrI (zeros 8)) 50)).alloc (.cells (arrI (zeros 8)) 50)).heap.size=w.heap.size+1+1+1:=by simp
 rw[z8']at hsz
 generalize ((w.alloc (.cells (arrI R) 95)).alloc _).alloc _=W0 at *
 obtain⟨L,hL⟩:∃L,L=one9:=⟨_,rfl⟩
 have hl:L.length=9:=by subst hL;rfl
 have OA:=hide (show arrI L=_ by subst hL;exact one9_arr)
 have HL:=hide hL
 clear hL
 have FA:=hide (fresh_arr W0.drew 95 9 L hl)
 have gd:W0.grownBy W0.drew none:=grown_drew (grown_refl _ none)
 have MS:=hide (show MemLev w (putArr (W0.drew.alloc (.cells (arrI (zeros 9)) 95)) W0.drew.heap.size L) R (zeros 8) L from by
  have f:=grown_none gd FA.out.2.2
  refine⟨BR.out.keep f,BB.out.keep f,BK.out.keep f,?_,grown_none G0.out f⟩
  have:=FA.out.2.1
  rw[show W0.drew.heap.size=w.heap.size+1+1+1 from hsz]at this ⊢
  exact this)
 have GP:=hide (show GrownW W0 (putArr (W0.drew.alloc (.cells (arrI (zeros 9)) 95)) W0.drew.heap.size L)from grown_none gd FA.out.2.2)
 have BN:=hide FA.out.1
 rw[show W0.drew.heap.size=w.heap.size+1+1+1 from hsz]at MS GP BN
 rw[show W0.drew.alloc (.cells (arrI (zeros 9)) 95)=(W0.alloc (.cells (arrI (zeros 9)) 95)).drew from rfl]at MS GP BN
 clear FA gd BK BB BR G0
 rw[z9']at MS GP BN
 refine wp_region_held_drew (S:=GrownW W0) (by kernel_rfl) (gw_start _) (fun hHeld=>?_)
 refine wpAnyH_take (i:=0) (v:=?v0) rfl (by kernel_rfl) (by kernel_rfl) (by kernel_rfl) (fun _ _ _ h=>h) (Or.inl ⟨by rfl,?y0⟩) hHeld ?r0
 case y0=>(intro w' hSw;(try dsimp only at hSw);go_simp;(try with_reducible rfl))
 (try simp only[Act.put,sL])
 refine wpAnyH_take (i:=1) (v:=?v1) rfl (by kernel_rfl) (by kernel_rfl) (by kernel_rfl) (fun _ _ _ h=>h) (Or.inl ⟨by rfl,?y1⟩) hHeld ?r1
 case y1=>(intro w' hSw;(try dsimp only at hSw);go_simp;(try with_reducible rfl))
 (try simp only[Act.put,sL])
 refine wpAnyH_take (i:=2) (v:=?v2) rfl (by kernel_rfl) (by kernel_rfl) (by kernel_rfl) (fun _ _ _ h=>h) (Or.inl ⟨by rfl,?y2⟩) hHeld ?r2
 case y2=>(intro w' hSw;have q0:=grown_keep hSw c0;go_simp;(try with_reducible rfl))
 (try simp only[Act.put,sL])
 refine wpAnyH_ready (rs:=[3]) (by kernel_rfl) (by simp) (AllReadyH.cons rfl (fun K hK=>?_) AllReadyH.nil)
 (try simp only[Act.put,sL])
 go_simp
 go_wp2_with fail
 refine hK.out _ _ (gw_alloc hHeld _) (fun hHeld=>?_)
 clear hK
 (try simp only[Act.put,sL])
 refine wpAnyH_ready (rs:=[4]) (by kernel_rfl) (by simp) (AllReadyH.cons rfl (fun K hK=>?_) AllReadyH.nil)
 (try simp only[Act.put,sL])
 refine step_store_arr rfl 95 _ _ rfl (w.heap.size+1+1+1) (zeros 9) L rfl (by rw[OA.out];rfl) BN.out (by rw[hl,zeros_len]) (by rw[zeros_len];exact size9') ?_
 refine hK.out _ _ GP.out (fun hHeld=>?_)
 clear hK
 generalize putArr _ (w.heap.size+1+1+1) L=W1 at *
 (try simp only[Act.put,sL])
 refine wpAnyH_take (i:=5) (v:=?v5) rfl (by kernel_rfl) (by kernel_rfl) (by kernel_rfl) (fun _ _ _ h=>h) (Or.inl ⟨by rfl,?y5⟩) hHeld ?r5
 case y5=>(intro w' hSw;(try dsimp only at hSw);go_simp;(try with_reducible rfl))
 (try simp only[Act.put,sL])
 refine wpAnyH_done (by kernel_rfl) ?_ _
 go_wp2_with fail
 clear GP BN OA
 rw[HL.out,one9_tab]at MS
 have M0:=hide (show MemLev w W1 R (tab 8 (lev (nth R) 0).k) (tab 9 (lev (nth R) 0).p)from by rw[lev_zero_k];exact MS.out)
 clear MS HL hl hHeld c0 hsz
 go_loopw [7,8] (fun e i wr=>∃m:Nat,e=.int .i64 (lev (nth R) m).e∧i=.int .i64 ((m:Int)+1)∧m≤8∧Hid ((lev (nth R) m).go=true)∧Hid (InvL (nth R) m (lev (nth R) m))∧Hid (MemLev w wr R (tab 8 (lev (nth R) m).k) (tab 9 (lev (nth R) m).p))) (fun _ i _=>9-(intOf i).toNat)
 case atStart=>exact⟨0,by rw[E0.out],rfl,Nat.zero_le _,rfl,IS.out,M0.out⟩
 case round=>
  obtain⟨m,rfl,rfl,hm,hgo,hI,hM⟩:=hrel
  clear M0 IS E0
  by_cases hm8:m<8
  ·have hst:=fun hq=>lev_stop hgo.out hq hm8
   have HST:=hide hst
   have HSP:=hide (fun q1 q2=>inv_step hI.out hgo.out q1 q2)
   obtain⟨e0,e1⟩:=And.intro hI.out.e0 hI.out.e1
   rw[HR0.out]at e1
   have WP:=hide (tab_wi (hI.out.pb' (by omega)) (by decide) 9)
   have MI:=hide (missed_any (tab 9 (lev (nth R) m).p) R (tab_len _ _) hR (m+1) (by omega) (by omega) WP.out HB.out)
   have EM:=hide (show mis (nth (tab 9 (lev (nth R) m).p)) (nth R) (m+1) (m+1)=mis (lev (nth R) m).p (nth R) (m+1) (m+1)from mis_tab _ _ _ (by omega))
   rw[EM.out]at MI
   have MB:=mis_bd (hI.out.pb' (by omega)) HB.out (m+1) (m+1)
   have EQ:=hide (show levQ (nth R) m (lev (nth R) m)=(-(mis (lev (nth R) m).p (nth R) (m+1) (m+1))*32768).tdiv (lev (nth R) m).e from rfl)
   have GR:=hide (fun q q1 q2=>grown_any (tab 9 (lev (nth R) m).p) (tab_len _ _) (m+1) (by omega) q q1 q2 WP.out)
   have hlA:=tab_len 9 (lev (nth R) m).p
   have hlK:=tab_len 8 (lev (nth R) m).k
   have BR:=hide hM.out.1
   have BA:=hide hM.out.2.2.2.1
   rw[show((m+1:Nat):Int)=(m:Int)+1 from rfl]at MI
   clear EM hst hI hgo WP HB
   have ST:=hide (fun q=>tab_set 8 (lev (nth R) m).k m q hm8)
   have TG:=hide (fun q=>tab_gr (lev (nth R) m).p (m+1) (by omega) q)
   generalize mis (lev (nth R) m).p (nth R) (m+1) (m+1)=s at *
   generalize levQ (nth R) m (lev (nth R) m)=q at *
   generalize (lev (nth R) m).e=e at *
   generalize (lev (nth R) m).p=p at *
   generalize (lev (nth R) m).k=kf at *
   have s1:-4398046511104≤s:=by omega
   have s2:s≤4398046511104:=by omega
   clear MB
   obtain⟨d1,d2⟩:=tdiv_bdL (-s*32768) e e0 (by omega) (by omega)
   have ne:e≠0:=by omega
   go_wp2_with (first|refine wpList_load_arr rfl 95 _ rfl _ rfl _ BA.out _ Tryz.underlying95 rfl (by rw[hlA];exact size9') ?_|refine wpList_load_arr rfl 95 _ rfl _ rfl _ BR.out _ Tryz.underlying95 rfl (by rw[hR];exact size9') ?_)
   refine(MI.out _).mono ?_
   rintro en w1 ⟨rfl,g1⟩
   have M1:=hide (memL_keep hM.out g1)
   clear hM g1 BR BA MI
   go_wp2_with fail
   rw[←EQ.out]
   rw[←EQ.out]at d1 d2
   refine(within_any q (-31999) 31999 _).mono ?_
   rintro en w2 ⟨rfl,rfl⟩
   rcases hb:(decide (-31999≤q)&&decide (q≤31999))with _|_
   ·have H8:=hide (HST.out (fun h=>by
     have:(decide (-31999≤q)&&decide (q≤31999))=true:=by simp;omega
     rw[hb]at this;cases this))
    have BK:=hide M1.out.2.2.1
    have BB:=hide M1.out.2.1
    have GM:=hide M1.out.2.2.2.2
    clear HST HSP GR TG ST hb EQ M1
    have ER:=hide (show LevA w (levK R) (levE R) (levG R)=LevA w (tab 8 kf) e false from by rw[EK.out,EE.out,EG.out,H8.out])
    clear EK EE EG H8
    generalize tab 8 kf=ks at *
    go_wp2_with (first|refine wpList_load_arr rfl 50 _ rfl _ rfl _ BK.out _ Tryz.underlying50 rfl (by rw[hlK];exact size8') ?_|refine wpList_store_arr rfl 50 _ _ rfl _ (zeros 8) ks rfl rfl BB.out (by rw[hlK,zeros_len]) (by rw[zeros_len];exact size8') ?_)
    have PU:=put_arr (rs':=ks) BB.out (by rw[hlK,zeros_len])
    have hlv:=loadVar_arr PU.1 _ Tryz.underlying50 rfl (by rw[hlK];exact size8')
    have GF:=hide (grown_own GM.out PU.2 (by omega))
    refine bodyPost_ret (v:=.tuple #[.agg (arrI ks),.int .i64 e,.bool false]) ?_ rfl ?_
    ·simp[results,Tryz.results62,asAddr,Act.put,hlv]
    ·rw[ER.out];exact⟨rfl,GF.out⟩
   ·have hq:-31999≤q∧q≤31999:=by simpa using hb
    obtain⟨q1,q2⟩:=hq
    have en:=eN_bd e q e0 (by omega) (by omega)
    have HN:=hide (show eN e q=e-(e*q / 32768)*q / 32768 from rfl)
    unfold eN at en
    obtain⟨f1,f2,⟨f3,f4⟩,f5,f6⟩:=en
    have SP:=hide (HSP.out (by omega) (by omega))
    have GQ:=hide (GR.out q (by omega) (by omega))
    rw[TG.out q]at GQ
    rw[show((m+1:Nat):Int)=(m:Int)+1 from rfl]at GQ
    have hlA':=tab_len 9 (gr p (m+1) q)
    have cd:=M1.out.2.2.1.cell m (by omega)
    have fd:=M1.out.2.2.1.free m
    have M2:=hide (memL_set M1.out m q)
    have BA:=hide M2.out.2.2.2.1
    clear HST HSP GR TG hb EQ M1 EK EE EG
    have f7:¬e-(e*q / 32768)*q / 32768≤0:=by omega
    have m0:(0:Int)≤m:=by omega
    have m8:(m:Int)<8:=by omega
    generalize nth (tab 8 kf) m=y' at *
    generalize hA':tab 9 (gr p (m+1) q)=A' at *
    have HA':=hide hA'
    clear hA'
    generalize tab 9 p=A at *
    go_wp2_with (first|refine wpList_load_arr rfl 95 _ rfl _ rfl _ BA.out _ Tryz.underlying95 rfl (by rw[hlA];exact size9') ?_)
    refine(GQ.out _).mono ?_
    rintro en w3 ⟨rfl,g3⟩
    have M3:=hide (memL_keep M2.out g3)
    have B3:=hide M3.out.2.2.2.1
    clear M2 g3 BA GQ cd fd
    go_wp2_with (first|refine wpList_store_arr rfl 95 _ _ rfl _ A A' rfl rfl B3.out (by rw[hlA,hlA']) (by rw[hlA];exact size9') ?_)
    have M4:=hide (memL_put M3.out A' (by rw[hlA,hlA']))
    clear M3 B3
    go_roundw
    case rel=>
     refine⟨m+1,?_,by go_num,by omega,?_,SP.out.2,?_⟩
     ·rw[SP.out.1];exact congrArg (Value.int .i64) HN.out.symm
     ·rw[SP.out.1];exact rfl
     ·rw[SP.out.1,HA'.out,←ST.out q];exact M4.out
    case measure=>simp[intOf];omega
  ·obtain rfl:m=8:=by omega
   have hlK:=tab_len 8 (lev (nth R) 8).k
   have ER:=hide (show LevA w (levK R) (levE R) (levG R)=LevA w (tab 8 (lev (nth R) 8).k) (lev (nth R) 8).e true from by rw[EK.out,EE.out,EG.out,hgo.out])
   have BK:=hide hM.out.2.2.1
   have BB:=hide hM.out.2.1
   have GM:=hide hM.out.2.2.2.2
   clear EK EE EG hM hI hgo HB
   generalize tab 8 (lev (nth R) 8).k=ks at *
   generalize (lev (nth R) 8).e=e at *
   go_wp2_with (first|refine wpList_load_arr rfl 50 _ rfl _ rfl _ BK.out _ Tryz.underlying50 rfl (by rw[hlK];exact size8') ?_|refine wpList_store_arr rfl 50 _ _ rfl _ (zeros 8) ks rfl rfl BB.out (by rw[hlK,zeros_len]) (by rw[zeros_len];exact size8') ?_)
   have PU:=put_arr (rs':=ks) BB.out (by rw[hlK,zeros_len])
   have hlv:=loadVar_arr PU.1 _ Tryz.underlying50 rfl (by rw[hlK];exact size8')
   have GF:=hide (grown_own GM.out PU.2 (by omega))
   refine bodyPost_ret (v:=.tuple #[.agg (arrI ks),.int .i64 e,.bool true]) ?_ rfl ?_
   ·simp[results,Tryz.results62,asAddr,Act.put,hlv]
   ·rw[ER.out];exact⟨rfl,GF.out⟩
theorem levinson_any (R:List Int)(hR:R.length=9)(w:World):Calls Tryz.prog 62 #[.agg (arrI R)] w (LevA w (levK R) (levE R) (levG R)):=by
 rcases ho:okL R with _|_
 ·rw[show levK R=zeros 8 by simp[levK,ho],show levE R=0 by simp[levE,ho],show levG R=false by simp[levG,ho]]
  exact levinson_no R hR ho w
 ·exact levinson_yes R hR ho w
end Go.Proofs.YtdejpongekicdaaGreatDoor

/- Better -/
namespace Go.Proofs.YtdejpongekicdaaGreatDoor
open Go.RowKit
set_option maxHeartbeats 1000000
def mulRen:Go.Shelf.Ren:=⟨fun _=>269,fun n=>if n=46 then 141 else 192,fun n=>n⟩
theorem mulLays:Go.Proofs.Lays.n264 Tryz.prog mulRen where
 mixed:=by kernel_rfl
 f264:=by kernel_rfl
 t46:=by kernel_rfl
 a46:=fun _=>by kernel_rfl
 z46:=fun _=>by kernel_rfl
 v46:=fun _=>by kernel_rfl
 t53:=by kernel_rfl
 a53:=fun _=>by kernel_rfl
 z53:=fun _=>by kernel_rfl
 v53:=fun _=>by kernel_rfl
theorem mul64_nat (x y:Nat)(hx:x<18446744073709551616)(hy:y<18446744073709551616)(w:World) :
  Calls Tryz.prog 269 #[.int .u64 x,.int .u64 y] w fun e w'=>e=.returned (.tuple #[.int .u64 ((x*y / 18446744073709551616:Nat):Int),.int .u64 ((x*y % 18446744073709551616:Nat):Int)])∧w'=w:=
 Any.bits_Mul64 mulLays x y hx hy w
theorem mul64_any (x y:Int)(hx0:0≤x)(hy0:0≤y)(hx:x<18446744073709551616)(hy:y<18446744073709551616)(w:World) :
  Calls Tryz.prog 269 #[.int .u64 x,.int .u64 y] w fun e w'=>∃h l:Int,0≤h∧h<18446744073709551616∧0≤l∧l<18446744073709551616∧Hid (h*18446744073709551616+l=x*y)∧e=.returned (.tuple #[.int .u64 h,.int .u64 l])∧w'=w:=by
 obtain⟨x,rfl⟩:=Int.eq_ofNat_of_zero_le hx0
 obtain⟨y,rfl⟩:=Int.eq_ofNat_of_zero_le hy0
 refine(mul64_nat x y (by omega) (by omega) w).mono fun e w' h=>?_
 have hm:x*y≤18446744073709551615*18446744073709551615:=Nat.mul_le_mul (by omega) (by omega)
 have hc:(x:Int)*y=((x*y:Nat):Int):=by simp
 refine⟨_,_,?_,?_,?_,?_,?_,h.1,h.2⟩
 all_goals(try unfold Hid)
 all_goals(try rw[hc])
 all_goals(generalize x*y=z at *)
 all_goals omega
theorem add64_0 (x y:Int)(hx:0≤x)(hy:0≤y)(w:World):(callFunc 270 #[.int .u64 x,.int .u64 y,.int .u64 0]).run Tryz.prog w =
  .ok (.value (.tuple #[.int .u64 ((x+y) % 18446744073709551616),.int .u64 ((x+y) / 18446744073709551616)])) w:=by
 rw[run_callFunc_extern Tryz.func270 (by kernel_rfl) (by kernel_rfl) (by kernel_rfl) (e:=add64Entry) (by kernel_rfl),run_add64 x y 0 hx hy (by omega) (by omega)]
 simp only[Result.andThen,Int.add_zero]
theorem square_math (u v h l c la f m cy mm:Int)(hu:0≤u)(hu':u<9223372036854775808)(hv:0≤v)(hv':v<9223372036854775808)
  (e1:h*18446744073709551616+l=u*u) (e2:c*18446744073709551616+la=l*v) (e3:f*18446744073709551616+m=h*v)
  (l0:0≤l) (l1:l<18446744073709551616) (hf:0≤f) (hm:0≤m) (hm':m<18446744073709551616) (hc:0≤c) (hc':c<18446744073709551616)
  (e4:cy=(m+c) / 18446744073709551616) (e5:mm=(m+c) % 18446744073709551616) :
  (f+cy)*340282366920938463463374607431768211456+mm*18446744073709551616+la=u*u*v∧0≤f+cy∧f+cy<18446744073709551616∧0≤mm∧mm<18446744073709551616:=by
 have hv2:u*u*v=(h*v)*18446744073709551616+l*v:=by
  rw[←e1,Int.add_mul,Int.mul_right_comm]
 have hb:h≤4611686018427387903:=by
  have:u*u≤9223372036854775807*9223372036854775807:=Int.mul_le_mul (by omega) (by omega) hu (by omega)
  omega
 have hf2:f<18446744073709551616-1:=by
  have:h*v≤4611686018427387903*9223372036854775807:=Int.mul_le_mul hb (by omega) hv (by omega)
  omega
 generalize u*u*v=R at *
 generalize h*v=S at *
 generalize l*v=T at *
 subst e4 e5
 refine⟨by omega,by omega,by omega,by omega,by omega⟩
theorem square_any (x y:Int)(hx:x≤9223372036854775807)(hy:0≤y)(hy':y≤9223372036854775807)(w:World) :
  Calls Tryz.prog 266 #[.int .i64 x,.int .i64 y] w fun e w'=>∃p0 p1 p2:Int,∃(o:Array Value) (t:TypeId),(0≤p0∧p0<18446744073709551616∧0≤p1∧p1<18446744073709551616∧0≤p2∧p2<18446744073709551616)∧
   p0*340282366920938463463374607431768211456+p1*18446744073709551616+p2=pos0 x*pos0 x*y∧
   e=.returned (.agg #[.int .u64 p0,.int .u64 p1,.int .u64 p2])∧w'=w.alloc (.cells o t):=by
 by_cases hn:x<0
 ·have hp:pos0 x=0:=by unfold pos0;rw[if_pos hn]
  rw[hp];clear hp
  go_enter Tryz.func266,Tryz.ntmps266
  go_wp2_with fail
  refine(mul64_any _ _ (by omega) (by omega) (by omega) (by omega) _).mono ?_
  rintro e w1 ⟨h,l,h0,h1,l0,l1,E1,rfl,rfl⟩
  go_wp2_with fail
  refine(mul64_any _ _ (by omega) (by omega) (by omega) (by omega) _).mono ?_
  rintro e w2 ⟨c,la,c0,c1,la0,la1,E2,rfl,rfl⟩
  go_wp2_with fail
  refine(mul64_any _ _ (by omega) (by omega) (by omega) (by omega) _).mono ?_
  rintro e w3 ⟨f,m,f0,f1,m0,m1,E3,rfl,rfl⟩
  obtain⟨q1,q2,q3,q4,q5⟩:=square_math 0 y h l c la f m _ _ (by omega) (by omega) hy (by omega) E1.out E2.out E3.out l0 l1 f0 m0 m1 c0 c1 rfl rfl
  have Q1:Hid _:=q1
  clear q1
  go_wp2_with (simp only[add64_0 m c m0 c0])
  refine bodyPost_ret (v:=.agg #[.int .u64 (f+(m+c) / 18446744073709551616),.int .u64 ((m+c) % 18446744073709551616),.int .u64 la]) (by simp[results,Tryz.results266,go_sem]) rfl ?_
  exact⟨_,_,_,_,_,⟨q2,q3,q4,q5,la0,la1⟩,Q1.out,rfl,rfl⟩
 ·have hp:pos0 x=x:=by unfold pos0;rw[if_neg hn]
  rw[hp];clear hp
  go_enter Tryz.func266,Tryz.ntmps266
  go_wp2_with fail
  refine(mul64_any _ _ (by omega) (by omega) (by omega) (by omega) _).mono ?_
  rintro e w1 ⟨h,l,h0,h1,l0,l1,E1,rfl,rfl⟩
  go_wp2_with fail
  refine(mul64_any _ _ (by omega) (by omega) (by omega) (by omega) _).mono ?_
  rintro e w2 ⟨c,la,c0,c1,la0,la1,E2,rfl,rfl⟩
  go_wp2_with fail
  refine(mul64_any _ _ (by omega) (by omega) (by omega) (by omega) _).mono ?_
  rintro e w3 ⟨f,m,f0,f1,m0,m1,E3,rfl,rfl⟩
  obtain⟨q1,q2,q3,q4,q5⟩:=square_math x y h l c la f m _ _ (by omega) (by omega) hy (by omega) E1.out E2.out E3.out l0 l1 f0 m0 m1 c0 c1 rfl rfl
  have Q1:Hid _:=q1
  clear q1
  go_wp2_with (simp only[add64_0 m c m0 c0])
  refine bodyPost_ret (v:=.agg #[.int .u64 (f+(m+c) / 18446744073709551616),.int .u64 ((m+c) % 18446744073709551616),.int .u64 la]) (by simp[results,Tryz.results266,go_sem]) rfl ?_
  exact⟨_,_,_,_,_,⟨q2,q3,q4,q5,la0,la1⟩,Q1.out,rfl,rfl⟩
end Go.Proofs.YtdejpongekicdaaGreatDoor

/- BetterB -/
namespace Go.Proofs.YtdejpongekicdaaGreatDoor
open Go.RowKit
set_option maxHeartbeats 1000000
def num3 (a b c:Int):Int:=a*340282366920938463463374607431768211456+b*18446744073709551616+c
theorem above_math (p0 p1 p2 q0 q1 q2:Int)(a1:0≤p1)(a2:p1<18446744073709551616)(a3:0≤p2)(a4:p2<18446744073709551616)(b1:0≤q1)(b2:q1<18446744073709551616)(b3:0≤q2)(b4:q2<18446744073709551616) :
  (p0≠q0→decide (q0<p0)=decide (num3 q0 q1 q2<num3 p0 p1 p2))∧(p0=q0→p1≠q1→decide (q1<p1)=decide (num3 q0 q1 q2<num3 p0 p1 p2))∧
  (p0=q0→p1=q1→decide (q2<p2)=decide (num3 q0 q1 q2<num3 p0 p1 p2)):=by
 unfold num3
 refine⟨fun h=>?_,fun h h'=>?_,fun h h'=>?_⟩<;>(rw[decide_eq_decide];omega)
end Go.Proofs.YtdejpongekicdaaGreatDoor

/- BtrG -/
namespace Go.Proofs.YtdejpongekicdaaGreatDoor
open Go.RowKit
set_option maxHeartbeats 1000000
theorem gb_drew {W w:World}(h:W.grownBy w none):W.grownBy w.drew none:=grown_drew h
theorem gb_alloc {W w:World}{o:Obj}(h:W.grownBy w none):W.grownBy (w.alloc o) none:=grown_none h (grown_alloc _ _ none)
theorem aboveG_any (p0 p1 p2 q0 q1 q2:Int)(a1:0≤p1)(a2:p1<18446744073709551616)(a3:0≤p2)(a4:p2<18446744073709551616)(b1:0≤q1)(b2:q1<18446744073709551616)(b3:0≤q2)(b4:q2<18446744073709551616)(w:World) :
  Calls Tryz.prog 265 #[.agg #[.int .u64 p0,.int .u64 p1,.int .u64 p2],.agg #[.int .u64 q0,.int .u64 q1,.int .u64 q2]] w fun e w'=>e=.returned (.bool (decide (num3 q0 q1 q2<num3 p0 p1 p2)))∧w.grownBy w' none:=by
 obtain⟨f1,f2,f3⟩:=above_math p0 p1 p2 q0 q1 q2 a1 a2 a3 a4 b1 b2 b3 b4
 have F1:Hid (p0≠q0→decide (q0<p0)=decide (num3 q0 q1 q2<num3 p0 p1 p2)):=f1
 have F2:Hid (p0=q0→p1≠q1→decide (q1<p1)=decide (num3 q0 q1 q2<num3 p0 p1 p2)):=f2
 have F3:Hid (p0=q0→p1=q1→decide (q2<p2)=decide (num3 q0 q1 q2<num3 p0 p1 p2)):=f3
 clear f1 f2 f3
 generalize decide (num3 q0 q1 q2<num3 p0 p1 p2)=R at *
 have i0:∀w,(Instr.index 260 (.agg #[.int .u64 p0,.int .u64 p1,.int .u64 p2]) (.int .i64 0)).run Tryz.prog w=.ok (.int .u64 p0) w:=fun _=>by kernel_rfl
 have i1:∀w,(Instr.index 260 (.agg #[.int .u64 p0,.int .u64 p1,.int .u64 p2]) (.int .i64 1)).run Tryz.prog w=.ok (.int .u64 p1) w:=fun _=>by kernel_rfl
 have i2:∀w,(Instr.index 260 (.agg #[.int .u64 p0,.int .u64 p1,.int .u64 p2]) (.int .i64 2)).run Tryz.prog w=.ok (.int .u64 p2) w:=fun _=>by kernel_rfl
 go_enter Tryz.func265,Tryz.ntmps265
 go_wp2_with fail
 go_loop [8] (fun i=>(i=.int .i64 0)∨(i=.int .i64 1∧Hid (p0=q0))∨(i=.int .i64 2∧Hid (p0=q0)∧Hid (p1=q1))∨(i=.int .i64 3∧Hid (p0=q0)∧Hid (p1=q1)∧Hid (p2=q2))) (fun i=>3-(intOf i).toNat)
 case atStart=>exact Or.inl rfl
 case round=>
  rcases hrel with rfl|⟨rfl,H0⟩|⟨rfl,H0,H1⟩|⟨rfl,H0,H1,H2⟩
  ·by_cases h:p0=q0
   ·have hb:(p0 != q0)=false:=by simp[h]
    have H:Hid (p0=q0):=h
    clear h F1 F2 F3
    go_wp2_with fail
    go_round
    case rel=>exact Or.inr (Or.inl ⟨rfl,H⟩)
    case measure=>simp[intOf]
   ·have hb:(p0 != q0)=true:=by simp[h]
    have hr:Hid (decide (q0<p0)=R):=F1.out h
    clear h F1 F2 F3
    go_wp2_with fail
    go_ret
    exact⟨congrArg (fun b=>Ending.returned (.bool b)) hr.out,by repeat(first|exact grown_refl _ _|apply gb_drew|apply gb_alloc)⟩
  ·by_cases h:p1=q1
   ·have hb:(p1 != q1)=false:=by simp[h]
    have H:Hid (p1=q1):=h
    clear h F1 F2 F3
    go_wp2_with fail
    go_round
    case rel=>exact Or.inr (Or.inr (Or.inl ⟨rfl,H0,H⟩))
    case measure=>simp[intOf]
   ·have hb:(p1 != q1)=true:=by simp[h]
    have hr:Hid (decide (q1<p1)=R):=F2.out H0.out h
    clear h F1 F2 F3
    go_wp2_with fail
    go_ret
    exact⟨congrArg (fun b=>Ending.returned (.bool b)) hr.out,by repeat(first|exact grown_refl _ _|apply gb_drew|apply gb_alloc)⟩
  ·by_cases h:p2=q2
   ·have hb:(p2 != q2)=false:=by simp[h]
    have H:Hid (p2=q2):=h
    clear h F1 F2 F3
    go_wp2_with fail
    go_round
    case rel=>exact Or.inr (Or.inr (Or.inr ⟨rfl,H0,H1,H⟩))
    case measure=>simp[intOf]
   ·have hb:(p2 != q2)=true:=by simp[h]
    have hr:Hid (decide (q2<p2)=R):=F3.out H0.out H1.out
    clear h F1 F2 F3
    go_wp2_with fail
    go_ret
    exact⟨congrArg (fun b=>Ending.returned (.bool b)) hr.out,by repeat(first|exact grown_refl _ _|apply gb_drew|apply gb_alloc)⟩
  ·have hr:R=false:=by
    have:=F3.out H0.out H1.out
    rw[H2.out]at this
    simpa using this.symm
   have HR:Hid (R=false):=hr
   clear hr F1 F2 F3
   go_wp2_with fail
   go_ret
   exact⟨by rw[HR.out];rfl,by repeat(first|exact grown_refl _ _|apply gb_drew|apply gb_alloc)⟩
theorem betterG_any (c e d f:Int)(c1:c≤9223372036854775807)(e1:e≤9223372036854775807)(d1:d≤9223372036854775807)(f1:f≤9223372036854775807)(w:World) :
  Calls Tryz.prog 253 #[.int .i64 c,.int .i64 e,.int .i64 d,.int .i64 f] w fun r w'=>r=.returned (.bool (btr c e d f))∧w.grownBy w' none:=by
 by_cases he:e≤0
 ·have hb:btr c e d f=false:=by unfold btr;rw[if_pos he]
  rw[hb];clear hb
  go_enter Tryz.func253,Tryz.ntmps253
  go_wp2_with fail
  go_ret
  exact⟨rfl,grown_refl _ _⟩
 ·by_cases hf:f≤0
  ·have hb:btr c e d f=true:=by unfold btr;rw[if_neg he,if_pos hf]
   rw[hb];clear hb
   go_enter Tryz.func253,Tryz.ntmps253
   go_wp2_with fail
   go_ret
   exact⟨rfl,grown_refl _ _⟩
  ·have hb:btr c e d f=decide (pos0 d*pos0 d*e<pos0 c*pos0 c*f):=by unfold btr;rw[if_neg he,if_neg hf]
   rw[hb];clear hb
   go_enter Tryz.func253,Tryz.ntmps253
   go_wp2_with fail
   refine(square_any c f c1 (by omega) f1 _).mono ?_
   rintro r w1 ⟨p0,p1,p2,o1,t1,⟨x1,x2,x3,x4,x5,x6⟩,E1,rfl,rfl⟩
   have G1:Hid _:=E1
   clear E1
   go_wp2_with fail
   refine(square_any d e d1 (by omega) e1 _).mono ?_
   rintro r w2 ⟨q0,q1,q2,o2,t2,⟨y1,y2,y3,y4,y5,y6⟩,E2,rfl,rfl⟩
   have G2:Hid _:=E2
   clear E2
   go_wp2_with fail
   refine(aboveG_any p0 p1 p2 q0 q1 q2 x3 x4 x5 x6 y3 y4 y5 y6 _).mono ?_
   rintro r w3 ⟨rfl,G⟩
   go_wp2_with fail
   go_ret
   refine⟨congrArg (fun b=>Ending.returned (.bool b)) ?_,grown_none (gb_alloc (gb_alloc (grown_refl _ _))) G⟩
   rw[←G1.out,←G2.out]
   rfl
end Go.Proofs.YtdejpongekicdaaGreatDoor

/- PitB -/
namespace Go.Proofs.YtdejpongekicdaaGreatDoor
open Go.RowKit
set_option linter.unusedVariables false
set_option linter.unusedSimpArgs false
set_option maxHeartbeats 1000000
def Vects (w:World)(n:Nat)(caps:Array Value)(ok:Nat→Bool)(V:Nat→List Int)(N:Nat):Prop:=
 ∀(k:Nat) (wr:World),20≤k→k≤79→w.grownBy wr none→
  Calls Tryz.prog n (#[.int .i64 (k:Int)]++caps) wr fun e w'=>∃v',e=.returned (.tuple #[v',.int .i64 (if ok k=true then 0 else 1)])∧wr.grownBy w' none∧(ok k=true→Ints w' v' (V k)∧(V k).length=N∧rightB (V k)=true)
def allOk (ok:Nat→Bool):Bool:=(List.range 60).all fun j=>ok (20+j)
theorem allOk_no (ok:Nat→Bool)(m:Nat)(hm:m<60)(hb:ok (20+m)=false):allOk ok=false:=by
 unfold allOk
 rw[List.all_eq_false]
 exact⟨m,List.mem_range.2 hm,by rw[hb];simp⟩
theorem allOk_yes (ok:Nat→Bool)(hg:∀j,j<60→ok (20+j)=true):allOk ok=true:=by
 unfold allOk
 rw[List.all_eq_true]
 exact fun j hj=>hg j (List.mem_range.1 hj)
def matchV (a b c d:Int):Value:=.tuple #[.agg (arrI [a,b,c]),.int .i64 d]
def bestT (ok:Nat→Bool)(C E:Nat→Int):Value:=
 if allOk ok=true then matchV ((pkN C E 60).1:Int) (pkN C E 60).2.1 (pkN C E 60).2.2 0 else matchV 0 0 0 1
def BstM (w wr:World)(p:Nat×Int×Int):Prop:=Blk wr w.heap.size 225 [0,0,0]∧Blk wr (w.heap.size+1) 225 [(p.1:Int),p.2.1,p.2.2]∧w.grownBy wr none
theorem BstM.keep {w wr wr':World}{p:Nat×Int×Int}(x:BstM w wr p)(g:wr.grownBy wr' none):BstM w wr' p:=⟨x.1.keep g,x.2.1.keep g,grown_none x.2.2 g⟩
theorem sizeM:(Tryz.prog.info? 225).map (·.size)=some 3:=by kernel_rfl
theorem set3 {w:World}{b:Nat}{T:TypeId}{x y z:Int}(h:Blk w b T [x,y,z])(x' y' z':Int) :
  Blk (((w.setCell ⟨b,0,none⟩ (.int .i64 x')).setCell ⟨b,1,none⟩ (.int .i64 y')).setCell ⟨b,2,none⟩ (.int .i64 z')) b T [x',y',z']∧w.grownBy (((w.setCell ⟨b,0,none⟩ (.int .i64 x')).setCell ⟨b,1,none⟩ (.int .i64 y')).setCell ⟨b,2,none⟩ (.int .i64 z')) (some b):=
 ⟨((h.set 0 x').set 1 y').set 2 z',grown_trans (grown_trans (grown_setCell w ⟨b,0,none⟩ _) (grown_setCell _ ⟨b,1,none⟩ _) (some b) (fun i e hi=>e) (fun i e hi=>e)) (grown_setCell _ ⟨b,2,none⟩ _) (some b) (fun i e hi=>e) (fun i e hi=>e)⟩
set_option maxRecDepth 100000 in
theorem pitBest_any (t:List Int)(N:Nat)(hN:t.length=N)(hN2:N≤100)(rt:rightB t=true)(n:Nat)(caps:Array Value)(ok:Nat→Bool)(V:Nat→List Int)(C E:Nat→Int)
  (hC:∀k,ok k=true→C k=dotS t (V k) N) (hE:∀k,ok k=true→E k=dotS (V k) (V k) N) (bC:∀k,C k≤107374182400) (bE:∀k,E k≤107374182400)
  (vt:Value) (w:World) (hen:∀args u,(callFunc n args).run Tryz.prog u=.ok (.enter n args) u) (HV:Vects w n caps ok V N) (ht:Ints w vt t) :
  Calls Tryz.prog 219 #[vt,.func (.func n) #[] caps] w fun e w'=>e=.returned (bestT ok C E)∧w.grownBy w' none:=by
 generalize hRV:bestT ok C E=RV
 have HRV:=hide hRV
 clear hRV
 have M0:=hide (show BstM w ((w.alloc (.cells (arrI [0,0,0]) 225)).alloc (.cells (arrI [20,0,0]) 225)) (20,0,0)from laid2 w 225 225 [0,0,0] [20,0,0])
 have HT:=hide ht
 have HVV:=hide HV
 have BD:=hide (pkN_bd C E 107374182400 (by omega) bC bE)
 have HC:=hide hC
 have HE:=hide hE
 have RT:=hide rt
 have TN:=hide hN
 have N2:=hide hN2
 clear hC hE bC bE ht HV rt hN hN2
 rw[show arrI [0,0,0]=#[.int .i64 0,.int .i64 0,.int .i64 0]from rfl,show arrI [20,0,0]=#[.int .i64 20,.int .i64 0,.int .i64 0]from rfl]at M0
 go_enter Tryz.func219,Tryz.ntmps219
 go_wp2_with fail
 generalize (w.alloc (.cells #[.int .i64 0,.int .i64 0,.int .i64 0] 225)).alloc _=W0 at *
 go_loopw [7] (fun i wr=>∃k m:Nat,i=.int .i64 k∧Hid (k=20+m)∧20≤k∧k≤80∧Hid (∀j,j<m→ok (20+j)=true)∧Hid (BstM w wr (pkN C E m))) (fun i _=>80-(intOf i).toNat)
 case atStart=>exact⟨20,0,rfl,rfl,by omega,by omega,fun j hj=>by omega,M0.out⟩
 case round=>
  obtain⟨k,m,rfl,hkm,hk1,hk2,hGd,hM⟩:=hrel
  clear M0
  by_cases hk:k<80
  ·have hm60:m<60:=by have:=hkm.out;omega
   have V1:=hide (HVV.out k wr hk1 (by omega) hM.out.2.2)
   have i1:(k:Int)≤79:=by omega
   obtain⟨q1,q2,q3,q4⟩:=BD.out m
   have BAD:=hide (fun(hb:ok k=false)=>allOk_no ok m hm60 (by rw[←hkm.out];exact hb))
   have GOOD:=hide (fun(hb:ok k=true)=>(show ∀j,j<m+1→ok (20+j)=true from fun j hj=>by
    by_cases hj':j=m
    ·subst hj';rw[←hkm.out];exact hb
    ·exact hGd.out j (by omega)))
   have NY:=hide (fun h1=>pkN_yes C E m h1)
   have NN:=hide (fun h1=>pkN_no C E m h1)
   rw[←hkm.out]at NY NN
   have EC:=hide (HC.out k)
   have EE:=hide (HE.out k)
   clear hGd BD HVV HC HE
   rcases hok:ok k with _|_
   ·rw[hok]at V1
    have AG:=hide (BAD.out hok)
    clear BAD GOOD NY NN EC EE hok HT
    go_wp2_with fail
    refine V1.out.mono ?_
    rintro e w2 ⟨v2,rfl,g2,_⟩
    rw[if_neg (by simp)]
    have M2:=hide (hM.out.keep g2)
    clear g2 hM V1 hen
    have x0:=M2.out.1.cell 0 (by simp)
    have x1:=M2.out.1.cell 1 (by simp)
    have x2:=M2.out.1.cell 2 (by simp)
    rw[show nth [(0:Int),0,0] 0=0 from rfl]at x0
    rw[show nth [(0:Int),0,0] 1=0 from rfl]at x1
    rw[show nth [(0:Int),0,0] 2=0 from rfl]at x2
    have y0:=M2.out.1.free 0
    have y1:=M2.out.1.free 1
    have y2:=M2.out.1.free 2
    have S3:=hide (set3 M2.out.1 0 0 0)
    have GM:=hide M2.out.2.2
    clear M2
    go_wp2_with fail
    (try simp only[Exit.inBlock,Exit.then])
    have hlv:=loadVar_arr S3.out.1 _ Tryz.underlying225 rfl sizeM
    refine bodyPost_ret (v:=matchV 0 0 0 1) ?_ rfl ?_
    ·simp[results,Tryz.results219,asAddr,Act.put,hlv,matchV]
    ·exact⟨by rw[←HRV.out];unfold bestT;rw[AG.out];rfl,grown_own GM.out S3.out.2 (Nat.le_refl _)⟩
   ·rw[hok]at V1
    have GD:=hide (GOOD.out hok)
    have EC':=hide (EC.out hok)
    have EE':=hide (EE.out hok)
    clear BAD GOOD EC EE hok
    generalize C k=c at *
    generalize E k=ee at *
    go_wp2_with fail
    refine V1.out.mono ?_
    rintro e w2 ⟨v2,rfl,g2,hv⟩
    rw[if_pos trivial]
    obtain⟨iv,lv,rv⟩:=hv trivial
    have M2:=hide (hM.out.keep g2)
    have D1:=hide (pitProduct_any vt v2 t (V k) w2 (Ints_keep HT.out M2.out.2.2) iv (by rw[lv,TN.out];exact Nat.le_refl _) (by rw[TN.out];exact N2.out) RT.out rv)
    have D2:=hide (pitProduct_any v2 v2 (V k) (V k) w2 iv iv (Nat.le_refl _) (by rw[lv];exact N2.out) rv rv)
    rw[TN.out,←EC'.out]at D1
    rw[lv,←EE'.out]at D2
    have cB:c≤107374182400:=by rw[EC'.out];have:=dotS_bd t (V k) RT.out rv N;have:=N2.out;omega
    have cA:-107374182400≤c:=by rw[EC'.out];have:=dotS_bd t (V k) RT.out rv N;have:=N2.out;omega
    have eB:ee≤107374182400:=by rw[EE'.out];have:=dotS_bd (V k) (V k) rv rv N;have:=N2.out;omega
    have eA:0≤ee:=by rw[EE'.out];exact dotS_self (V k) N
    clear g2 hM V1 hen iv lv rv EC' EE' hv HT
    go_wp2_with fail
    refine D1.out.mono ?_
    rintro e w3 ⟨rfl,rfl⟩
    clear D1
    go_wp2_with fail
    refine D2.out.mono ?_
    rintro e w4 ⟨rfl,rfl⟩
    clear D2
    generalize pkN C E m=p3 at *
    obtain⟨bl,bc,be⟩:=p3
    dsimp only at q1 q2 q3 q4 NY NN
    have c1:=M2.out.2.1.cell 1 (by simp)
    have c2:=M2.out.2.1.cell 2 (by simp)
    rw[show nth [((bl,bc,be):Nat×Int×Int).1,bc,be] 1=bc from rfl]at c1
    rw[show nth [((bl,bc,be):Nat×Int×Int).1,bc,be] 2=be from rfl]at c2
    have BET:=hide (betterG_any c ee bc be (by omega) (by omega) (by omega) (by omega) w4)
    by_cases hC:0<c
    ·rcases hb:btr c ee bc be with _|_
     ·rw[hb]at BET
      have EN:=hide (NN.out (fun hx=>by rw[hb]at hx;cases hx.2))
      clear NN NY hb
      go_wp2_with fail
      refine BET.out.mono ?_
      rintro e w7 ⟨rfl,g7⟩
      have M7:=hide (M2.out.keep g7)
      clear g7 M2 BET c1 c2
      go_wp2_with fail
      go_roundw
      case rel=>exact⟨k+1,m+1,by go_num,by have:=hkm.out;show k+1=20+(m+1);omega,by omega,by omega,GD.out,by rw[EN.out];exact M7.out⟩
      case measure=>simp[intOf];omega
     ·rw[hb]at BET
      have EN:=hide (NY.out ⟨hC,hb⟩)
      clear NN NY hb
      go_wp2_with fail
      refine BET.out.mono ?_
      rintro e w7 ⟨rfl,g7⟩
      have M7:=hide (M2.out.keep g7)
      clear g7 M2 BET c1 c2
      have x0:=M7.out.2.1.cell 0 (by simp)
      have x1:=M7.out.2.1.cell 1 (by simp)
      have x2:=M7.out.2.1.cell 2 (by simp)
      rw[show nth [(((bl,bc,be):Nat×Int×Int).1:Int),bc,be] 0=(bl:Int)from rfl]at x0
      rw[show nth [(((bl,bc,be):Nat×Int×Int).1:Int),bc,be] 1=bc from rfl]at x1
      rw[show nth [(((bl,bc,be):Nat×Int×Int).1:Int),bc,be] 2=be from rfl]at x2
      have y0:=M7.out.2.1.free 0
      have y1:=M7.out.2.1.free 1
      have y2:=M7.out.2.1.free 2
      have S3:=set3 M7.out.2.1 (k:Int) c ee
      have M8:=hide (show BstM w _ (k,c,ee)from⟨M7.out.1.keepBut S3.2 (by omega),S3.1,grown_own M7.out.2.2 S3.2 (by omega)⟩)
      clear S3 M7
      go_wp2_with fail
      go_roundw
      case rel=>exact⟨k+1,m+1,by go_num,by have:=hkm.out;show k+1=20+(m+1);omega,by omega,by omega,GD.out,by rw[EN.out];exact M8.out⟩
      case measure=>simp[intOf];omega
    ·have EN:=hide (NN.out (fun hx=>absurd hx.1 hC))
     clear NN NY BET
     have hC':c≤0:=by omega
     go_wp2_with fail
     go_roundw
     case rel=>exact⟨k+1,m+1,by go_num,by have:=hkm.out;show k+1=20+(m+1);omega,by omega,by omega,GD.out,by rw[EN.out];exact M2.out⟩
     case measure=>simp[intOf];omega
  ·obtain rfl:k=80:=by omega
   obtain rfl:m=60:=by have:=hkm.out;omega
   have AG:=hide (allOk_yes ok hGd.out)
   have ER:=hide (show bestT ok C E=matchV ((pkN C E 60).1:Int) (pkN C E 60).2.1 (pkN C E 60).2.2 0 by unfold bestT;rw[AG.out];rfl)
   clear hGd HVV BD hen HT HC HE AG
   generalize pkN C E 60=p3 at *
   obtain⟨bl,bc,be⟩:=p3
   have c0:=hM.out.2.1.cell 0 (by simp)
   have c1:=hM.out.2.1.cell 1 (by simp)
   have c2:=hM.out.2.1.cell 2 (by simp)
   rw[show nth [(((bl,bc,be):Nat×Int×Int).1:Int),bc,be] 0=(bl:Int)from rfl]at c0
   rw[show nth [(((bl,bc,be):Nat×Int×Int).1:Int),bc,be] 1=bc from rfl]at c1
   rw[show nth [(((bl,bc,be):Nat×Int×Int).1:Int),bc,be] 2=be from rfl]at c2
   have x0:=hM.out.1.cell 0 (by simp)
   have x1:=hM.out.1.cell 1 (by simp)
   have x2:=hM.out.1.cell 2 (by simp)
   rw[show nth [(0:Int),0,0] 0=0 from rfl]at x0
   rw[show nth [(0:Int),0,0] 1=0 from rfl]at x1
   rw[show nth [(0:Int),0,0] 2=0 from rfl]at x2
   have y0:=hM.out.1.free 0
   have y1:=hM.out.1.free 1
   have y2:=hM.out.1.free 2
   have S3:=hide (set3 hM.out.1 (bl:Int) bc be)
   have GM:=hide hM.out.2.2
   clear hM
   rw[show((80:Nat):Int)=80 from rfl]
   go_wp2_with fail
   (try simp only[Exit.inBlock,Exit.then])
   have hlv:=loadVar_arr S3.out.1 _ Tryz.underlying225 rfl sizeM
   refine bodyPost_ret (v:=matchV (bl:Int) bc be 0) ?_ rfl ?_
   ·simp[results,Tryz.results219,asAddr,Act.put,hlv,matchV]
   ·exact⟨by rw[←HRV.out,ER.out],grown_own GM.out S3.out.2 (Nat.le_refl _)⟩
end Go.Proofs.YtdejpongekicdaaGreatDoor

/- PitC -/
namespace Go.Proofs.YtdejpongekicdaaGreatDoor
open Go.RowKit
set_option linter.unusedVariables false
set_option linter.unusedSimpArgs false
set_option maxHeartbeats 1000000
theorem own_empty (u:World)(base:Nat)(hb:base≤u.heap.size):Own base (u.alloc (.cells #[] 3)) (.slice (some ⟨u.heap.size,0,none⟩) 0 0) []:=
 ⟨rfl,.inr ⟨u.heap.size,0,#[],rfl,hb,heap_new u _,Nat.le_refl _,by unfold maxLen;omega,rfl,rfl⟩⟩
theorem pitClone_any (a:Addr)(c:Nat)(l:List Int)(w:World)(h:Ints w (.slice (some a) l.length c) l)(hl:l.length≤1000) :
  Calls Tryz.prog 220 #[.slice (some a) l.length c] w fun e w'=>∃v',e=.returned v'∧Ints w' v' l∧w.grownBy w' none:=by
 have HI:=hide h
 have hq:∀u,Sem.run Tryz.prog (binOp BinOp.eql 26 (.slice (some a) l.length c) (.slice none 0 0)) u=.ok (.bool false) u:=fun _=>by kernel_rfl
 clear h
 go_enter Tryz.func220,Tryz.ntmps220
 go_wp2_with (at_builtin;refine wpList_append_both (by rfl) _ _ rfl w.heap.size (.slice (some ⟨w.heap.size,0,none⟩) 0 0) (.slice (some a) l.length c) [] l rfl rfl (own_empty w _ (Nat.le_refl _)) (Ints_keep HI.out (grown_alloc _ _ none)) (.inr ⟨_,_,rfl⟩) (by simp;omega) (by simp) ?_)
 intro v2 w2 h2 g2
 have I2:=hide (show Ints w2 v2 l from h2.ints)
 have G2:=hide (grown_own' (grown_alloc w (.cells #[] 3) none) g2 (fun b hb=>by simp[Value.ownBlock]at hb;omega))
 clear h2 g2 HI hq
 go_wp2_with fail
 go_ret
 exact⟨_,rfl,I2.out,G2.out⟩
end Go.Proofs.YtdejpongekicdaaGreatDoor
