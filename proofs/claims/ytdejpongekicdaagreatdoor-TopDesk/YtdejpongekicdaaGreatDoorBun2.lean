/- Texts put together: QuantB, RefQuant, RefOne, LQuantR, QuantC, QuaMath, OpnMath, MemEq, EncEq, BigD, Order, BigE, BigF, BigG, BigH, BigS, BigT, Clip, LshN, BigV, BigY, PkW, PktE, AppL, LpcA, SynA, SynB, SynC, Syn, BaseB, KeepL, OrderF, MemS, CodW, LpcB, LpcC, LpcD, PitA, PitG, PartL, GaiF, PulA. -/
import Derived.Test.YtdejpongekicdaaGreatDoorBun1
import Derived.Deep.RegionHeld3
import Derived.Laws.StructEq
import Derived.OrdersHeld
import Derived.StillTail
import Derived.RegionTactic
import Derived.Deep.RegionHeld
import Derived.Laws.AppendOwnNone
import Derived.Laws.BytesArg
import Derived.Laws.CopyOwn
import Derived.BigQuiet
import Derived.Deep.QuietTactic
import Derived.WalkKit
import Derived.WalkSpells
import Derived.WalkLawsBesides
import Derived.Deep.Cut
/- QuantB -/
namespace Go.Proofs.YtdejpongekicdaaGreatDoor
open Go.RowKit
set_option linter.unusedVariables false
set_option maxHeartbeats 1000000
theorem two_pow (b:Nat):(2:Int)^(2*b)=(many b:Int)*(many b:Int):=by
 unfold many
 rw[Nat.two_mul,Int.pow_add]
 simp
theorem level_up (i:Nat)(h:i<8)(n:Int)(h1:(many (wid i):Int)≤2*n)(h2:n<many (wid i))(w:World)(hW:Wide w) :
  Calls Tryz.prog 213 #[.int .i64 i,.int .i64 n] w fun e w'=>e=.returned (.int .i64 (upL (many (wid i)) n))∧w'=w:=by
 have C:=hide (count_any i h w hW)
 have hc:=hW i h
 have hb:=hide (upL_bd (wid i) n (okW i) h1 h2)
 obtain⟨q,hq⟩:=many_even (wid i) (okW i)
 obtain⟨m1,m2⟩:=many_bd (wid i) (okW i)
 have hs:=sq_bdQ (many (wid i)) (2*((many (wid i):Int)-n)-1) (by omega) (by omega) (by omega) (by omega)
 have hU:=hide (show upL (many (wid i)) n=31000-31000*(2*((many (wid i):Int)-n)-1)*(2*((many (wid i):Int)-n)-1) / (many (wid i)*many (wid i))from rfl)
 have hp:=two_pow (wid i)
 have hb':wid i≤6:=by rcases okW i with e|e|e|e<;>omega
 clear hW
 generalize upL (many (wid i)) n=U at *
 generalize hM:many (wid i)=M at *
 generalize hB:wid i=b at *
 clear hM hq
 have hlt:¬n<(M:Int) / 2:=by omega
 obtain⟨s1,s2,s3,s4,s5,s6⟩:=hs
 go_enter Tryz.func213,Tryz.ntmps213
 go_wp2_with fail
 refine C.out.mono ?_
 rintro e w1 ⟨rfl,rfl⟩
 clear C
 go_wp2_with fail
 go_ret
 exact⟨by rw[hU.out];rfl,rfl⟩
theorem level_any (i:Nat)(h:i<8)(n:Int)(h1:0≤n)(h2:n<many (wid i))(w:World)(hW:Wide w) :
  Calls Tryz.prog 213 #[.int .i64 i,.int .i64 n] w fun e w'=>e=.returned (.int .i64 (lvl (wid i) n))∧w'=w:=by
 by_cases hn:2*n<many (wid i)
 ·rw[lvl_low _ _ hn]
  obtain⟨q,hq⟩:=many_even (wid i) (okW i)
  obtain⟨m1,m2⟩:=many_bd (wid i) (okW i)
  have C:=hide (count_any i h w hW)
  have L:=hide (level_up i h ((many (wid i):Int)-1-n) (by omega) (by omega) w hW)
  obtain⟨u1,u2⟩:=upL_bd (wid i) ((many (wid i):Int)-1-n) (okW i) (by omega) (by omega)
  clear hW
  have hlt:n<(many (wid i):Int) / 2:=by omega
  clear hq
  generalize upL (many (wid i)) ((many (wid i):Int)-1-n)=U at *
  generalize many (wid i)=M at *
  go_enter Tryz.func213,Tryz.ntmps213
  go_wp2_with fail
  refine C.out.mono ?_
  rintro e w1 ⟨rfl,rfl⟩
  clear C
  go_wp2_with fail
  refine L.out.mono ?_
  rintro e w1 ⟨rfl,rfl⟩
  clear L
  go_wp2_with fail
  go_ret
  exact⟨rfl,rfl⟩
 ·rw[lvl_high _ _ hn]
  exact level_up i h n (by omega) h2 w hW
theorem Level_kind (i n:Int)(h:i<0∨7<i)(w:World) :
  Calls Tryz.prog 146 #[.int .i64 i,.int .i64 n] w fun e w'=>e=.returned (.tuple #[.int .i64 0,.int .i64 4])∧w'=w:=by
 go_enter Tryz.func146,Tryz.ntmps146
 go_wp2_with fail
 refine(known_no i h _).mono ?_
 rintro e w1 ⟨rfl,rfl⟩
 go_wp2_with fail
 go_ret2
 exact⟨rfl,rfl⟩
theorem Level_range (i:Nat)(h:i<8)(n:Int)(hn:n<0∨(many (wid i):Int)-1<n)(w:World)(hW:Wide w) :
  Calls Tryz.prog 146 #[.int .i64 i,.int .i64 n] w fun e w'=>e=.returned (.tuple #[.int .i64 0,.int .i64 2])∧w'=w:=by
 have C:=hide (count_any i h w hW)
 obtain⟨m1,m2⟩:=many_bd (wid i) (okW i)
 clear hW
 generalize many (wid i)=M at *
 go_enter Tryz.func146,Tryz.ntmps146
 go_wp2_with fail
 refine(known_yes i h _).mono ?_
 rintro e w1 ⟨rfl,rfl⟩
 go_wp2_with fail
 refine C.out.mono ?_
 rintro e w1 ⟨rfl,rfl⟩
 clear C
 go_wp2_with fail
 refine(qin_no _ _ _ hn _).mono ?_
 rintro e w1 ⟨rfl,rfl⟩
 go_wp2_with fail
 go_ret2
 exact⟨rfl,rfl⟩
theorem Level_yes (i:Nat)(h:i<8)(n:Int)(h1:0≤n)(h2:n<many (wid i))(w:World)(hW:Wide w) :
  Calls Tryz.prog 146 #[.int .i64 i,.int .i64 n] w fun e w'=>e=.returned (.tuple #[.int .i64 (lvl (wid i) n),.int .i64 0])∧w'=w:=by
 have C:=hide (count_any i h w hW)
 have L:=hide (level_any i h n h1 h2 w hW)
 obtain⟨m1,m2⟩:=many_bd (wid i) (okW i)
 clear hW
 generalize lvl (wid i) n=U at *
 generalize many (wid i)=M at *
 go_enter Tryz.func146,Tryz.ntmps146
 go_wp2_with fail
 refine(known_yes i h _).mono ?_
 rintro e w1 ⟨rfl,rfl⟩
 go_wp2_with fail
 refine C.out.mono ?_
 rintro e w1 ⟨rfl,rfl⟩
 clear C
 go_wp2_with fail
 refine(qin_yes _ _ _ h1 (by omega) _).mono ?_
 rintro e w1 ⟨rfl,rfl⟩
 go_wp2_with fail
 refine L.out.mono ?_
 rintro e w1 ⟨rfl,rfl⟩
 go_wp2_with fail
 go_ret2
 exact⟨rfl,rfl⟩
theorem One_kind (i k:Int)(h:i<0∨7<i)(w:World) :
  Calls Tryz.prog 145 #[.int .i64 i,.int .i64 k] w fun e w'=>e=.returned (.tuple #[.int .i64 0,.int .i64 4])∧w'=w:=by
 go_enter Tryz.func145,Tryz.ntmps145
 go_wp2_with fail
 refine(known_no i h _).mono ?_
 rintro e w1 ⟨rfl,rfl⟩
 go_wp2_with fail
 go_ret2
 exact⟨rfl,rfl⟩
theorem One_range (i:Nat)(h:i<8)(k:Int)(hk:k < -32768∨32768<k)(w:World) :
  Calls Tryz.prog 145 #[.int .i64 i,.int .i64 k] w fun e w'=>e=.returned (.tuple #[.int .i64 0,.int .i64 2])∧w'=w:=by
 go_enter Tryz.func145,Tryz.ntmps145
 go_wp2_with fail
 refine(known_yes i h _).mono ?_
 rintro e w1 ⟨rfl,rfl⟩
 go_wp2_with fail
 refine(qin_no _ _ _ hk _).mono ?_
 rintro e w1 ⟨rfl,rfl⟩
 go_wp2_with fail
 go_ret2
 exact⟨rfl,rfl⟩
theorem One_yes (i:Nat)(h:i<8)(k:Int)(h1:-32768≤k)(h2:k≤32768)(w:World)(hW:Wide w) :
  Calls Tryz.prog 145 #[.int .i64 i,.int .i64 k] w fun e w'=>e=.returned (.tuple #[.int .i64 (one (wid i) k:Int),.int .i64 0])∧w'=w:=by
 have C:=hide (count_any i h w hW)
 obtain⟨m1,m2⟩:=many_bd (wid i) (okW i)
 have LV:=hide (fun(n:Nat) (hn:n<many (wid i))=>level_any i h n (by omega) (by omega) w hW)
 have BD:=hide (fun(n:Nat) (hn:n<many (wid i))=>lvl_bd (wid i) n (okW i) (by omega) (by omega))
 have hone:=hide (show one (wid i) k=best (wid i) k (many (wid i))from rfl)
 clear hW
 generalize one (wid i) k=R at *
 generalize wid i=b at *
 generalize many b=M at *
 go_enter Tryz.func145,Tryz.ntmps145
 go_wp2_with fail
 refine(known_yes i h _).mono ?_
 rintro e w1 ⟨rfl,rfl⟩
 go_wp2_with fail
 refine(qin_yes _ _ _ h1 h2 _).mono ?_
 rintro e w1 ⟨rfl,rfl⟩
 go_wp2_with fail
 refine C.out.mono ?_
 rintro e w1 ⟨rfl,rfl⟩
 clear C
 go_wp2_with fail
 go_loop [6,16] (fun x j=>∃n:Nat,j=.int .i64 n∧x=.int .i64 (best b k n:Int)∧n≤M) (fun _ j=>M-(intOf j).toNat)
 case atStart=>exact⟨0,rfl,rfl,by omega⟩
 case round=>
  obtain⟨n,rfl,rfl,hn⟩:=hrel
  by_cases hn':n=M
  ·subst hn'
   rw[←hone.out]
   clear hone
   go_wp2_with fail
   go_ret2
   exact⟨rfl,rfl⟩
  ·have hbl:=best_in b k n M hn (by omega)
   have L1:=hide (LV.out n (by omega))
   have L2:=hide (LV.out (best b k n) hbl)
   obtain⟨a1,a2⟩:=BD.out n (by omega)
   obtain⟨c1,c2⟩:=BD.out (best b k n) hbl
   clear BD hone LV
   by_cases hg:gap b k n<gap b k (best b k n)
   ·have e:=hide (best_yes b k n hg)
    have hg':far (lvl b n) k<far (lvl b (best b k n)) k:=hg
    clear hg
    generalize best b k n=B at *
    generalize lvl b n=X at *
    generalize lvl b B=Y at *
    have F1:=hide (apart_any X k (by omega) (by omega) (by omega) (by omega) w1)
    have F2:=hide (apart_any Y k (by omega) (by omega) (by omega) (by omega) w1)
    generalize far X k=U at *
    generalize far Y k=V at *
    go_wp2_with fail
    refine L1.out.mono ?_
    rintro e w2 ⟨rfl,rfl⟩
    go_wp2_with fail
    refine F1.out.mono ?_
    rintro e w2 ⟨rfl,rfl⟩
    go_wp2_with fail
    refine L2.out.mono ?_
    rintro e w2 ⟨rfl,rfl⟩
    go_wp2_with fail
    refine F2.out.mono ?_
    rintro e w2 ⟨rfl,rfl⟩
    go_wp2_with fail
    go_round
    case rel=>exact⟨n+1,by go_num,by rw[e.out],by omega⟩
    case measure=>simp[intOf];omega
   ·have e:=hide (best_no b k n hg)
    have hg':¬far (lvl b n) k<far (lvl b (best b k n)) k:=hg
    clear hg
    generalize best b k n=B at *
    generalize lvl b n=X at *
    generalize lvl b B=Y at *
    have F1:=hide (apart_any X k (by omega) (by omega) (by omega) (by omega) w1)
    have F2:=hide (apart_any Y k (by omega) (by omega) (by omega) (by omega) w1)
    generalize far X k=U at *
    generalize far Y k=V at *
    go_wp2_with fail
    refine L1.out.mono ?_
    rintro e w2 ⟨rfl,rfl⟩
    go_wp2_with fail
    refine F1.out.mono ?_
    rintro e w2 ⟨rfl,rfl⟩
    go_wp2_with fail
    refine L2.out.mono ?_
    rintro e w2 ⟨rfl,rfl⟩
    go_wp2_with fail
    refine F2.out.mono ?_
    rintro e w2 ⟨rfl,rfl⟩
    go_wp2_with fail
    go_round
    case rel=>exact⟨n+1,by go_num,by rw[e.out],by omega⟩
    case measure=>simp[intOf];omega
end Go.Proofs.YtdejpongekicdaaGreatDoor

/- RefQuant -/
namespace Go.Proofs.YtdejpongekicdaaGreatDoor

end Go.Proofs.YtdejpongekicdaaGreatDoor

/- RefOne -/
namespace Go.Proofs.YtdejpongekicdaaGreatDoor

end Go.Proofs.YtdejpongekicdaaGreatDoor

/- LQuantR -/
namespace Go.Proofs.YtdejpongekicdaaGreatDoor
open Go.RowKit
set_option linter.unusedVariables false
set_option maxHeartbeats 1000000
def levV (i n:Int):Int:=if i<0∨7<i then 0 else if n<0∨(many (wid i.toNat):Int)-1<n then 0 else lvl (wid i.toNat) n
def levX (i n:Int):Int:=if i<0∨7<i then 4 else if n<0∨(many (wid i.toNat):Int)-1<n then 2 else 0
theorem nat_of (i:Int)(h:¬(i<0∨7<i)):∃I:Nat,i=(I:Int)∧I<8∧i.toNat=I:=⟨i.toNat,by omega,by omega,rfl⟩
theorem Level_all (i n:Int)(w:World)(hW:Wide w) :
  Calls Tryz.prog 146 #[.int .i64 i,.int .i64 n] w fun e w'=>e=.returned (.tuple #[.int .i64 (levV i n),.int .i64 (levX i n)])∧w'=w:=by
 by_cases h:i<0∨7<i
 ·rw[show levV i n=0 from if_pos h,show levX i n=4 from if_pos h]
  exact Level_kind i n h w
 ·obtain⟨I,e,h8,hI⟩:=nat_of i h
  by_cases hn:n<0∨(many (wid I):Int)-1<n
  ·rw[show levV i n=0 by unfold levV;rw[if_neg h,hI,if_pos hn],show levX i n=2 by unfold levX;rw[if_neg h,hI,if_pos hn],e]
   exact Level_range I h8 n hn w hW
  ·rw[show levV i n=lvl (wid I) n by unfold levV;rw[if_neg h,hI,if_neg hn],show levX i n=0 by unfold levX;rw[if_neg h,hI,if_neg hn],e]
   exact Level_yes I h8 n (by omega) (by omega) w hW
def oneV (i k:Int):Int:=if i<0∨7<i then 0 else if k < -32768∨32768<k then 0 else(one (wid i.toNat) k:Int)
def oneX (i k:Int):Int:=if i<0∨7<i then 4 else if k < -32768∨32768<k then 2 else 0
theorem One_all (i k:Int)(w:World)(hW:Wide w) :
  Calls Tryz.prog 145 #[.int .i64 i,.int .i64 k] w fun e w'=>e=.returned (.tuple #[.int .i64 (oneV i k),.int .i64 (oneX i k)])∧w'=w:=by
 by_cases h:i<0∨7<i
 ·rw[show oneV i k=0 from if_pos h,show oneX i k=4 from if_pos h]
  exact One_kind i k h w
 ·obtain⟨I,e,h8,hI⟩:=nat_of i h
  by_cases hn:k < -32768∨32768<k
  ·rw[show oneV i k=0 by unfold oneV;rw[if_neg h,if_pos hn],show oneX i k=2 by unfold oneX;rw[if_neg h,if_pos hn],e]
   exact One_range I h8 k hn w
  ·rw[show oneV i k=one (wid I) k by unfold oneV;rw[if_neg h,hI,if_neg hn],show oneX i k=0 by unfold oneX;rw[if_neg h,if_neg hn],e]
   exact One_yes I h8 k (by omega) (by omega) w hW
end Go.Proofs.YtdejpongekicdaaGreatDoor

/- QuantC -/
namespace Go.Proofs.YtdejpongekicdaaGreatDoor
open Go.RowKit
set_option linter.unusedVariables false
set_option linter.unusedSimpArgs false
set_option maxHeartbeats 1000000
def firstE (X:Nat→Int):Nat→Int
 | 0=>0
 | m+1=>if firstE X m=0 then X m else firstE X m
theorem firstE_go (X:Nat→Int)(m:Nat)(h:firstE X m=0):firstE X (m+1)=X m:=if_pos h
theorem firstE_stop (X:Nat→Int)(m:Nat)(h:firstE X m=0)(hx:X m≠0):∀d,firstE X (m+1+d)=X m
 | 0=>firstE_go X m h
 | d+1=>by
  have:=firstE_stop X m h hx d
  show(if firstE X (m+1+d)=0 then X (m+1+d)else firstE X (m+1+d))=X m
  rw[this,if_neg hx]
def eachL (V X:Nat→Int):List Int:=if firstE X 8=0 then(List.range 8).map V else zeros 8
theorem eachL_len (V X:Nat→Int):(eachL V X).length=8:=by unfold eachL;split<;>simp[zeros]
set_option maxRecDepth 100000 in
theorem each_one (l:List Int)(hl:l.length=8)(w:World)(hW:Wide w) :
  Calls Tryz.prog 144 #[.agg (arrI l),.func (.func 145) #[] #[]] w (ArrE w (eachL (fun i=>oneV i (nth l i)) (fun i=>oneX i (nth l i))) (firstE (fun i=>oneX i (nth l i)) 8)):=by
 have L0:=hide (laid2 w 50 50 l (zeros 8))
 rw[z8']at L0
 have ON:=hide (fun(m:Nat) wr (g:w.grownBy wr none)=>One_all m (nth l m) wr (Wide_keep hW g))
 have IX:=hide (fun j hj=>index_arr l Tryz.underlying50 j hj hl)
 have hbd:=build8
 clear hW
 go_enter Tryz.func144,Tryz.ntmps144
 go_wp2_with (refine wpList_load_arr rfl 50 _ rfl _ rfl _ L0.out.1 _ Tryz.underlying50 rfl (by rw[hl];exact size8') ?_)
 have M0:=hide (show Mem2 w _ 50 50 l (zeros 8)from L0.out)
 clear L0
 generalize (w.alloc (.cells (arrI l) 50)).alloc _=W0 at *
 go_loopw [11] (fun i wr=>∃(m:Nat) (rs:List Int),i=.int .i64 m∧m≤8∧Hid (firstE (fun i=>oneX i (nth l i)) m=0)∧Hid (FillN 8 (fun i=>oneV i (nth l i)) m rs)∧Hid (Mem2 w wr 50 50 rs (zeros 8))) (fun i _=>8-(intOf i).toNat)
 case atStart=>exact⟨0,l,rfl,Nat.zero_le _,rfl,⟨hl,fun j hj=>by omega⟩,M0.out⟩
 case round=>
  obtain⟨m,rs,rfl,hm,h0,hF,hM⟩:=hrel
  clear M0
  by_cases hm8:m<8
  ·have ix:=IX.out m (by omega)
   have O1:=hide (ON.out m wr hM.out.2.2)
   have hlen:rs.length=8:=hF.out.1
   have NF:=hide (fillN_step hF.out hm8)
   have cd:=hM.out.1.cell m (by omega)
   have fd:=hM.out.1.free m
   have NM:=hide (hM.out.set m (oneV m (nth l m)))
   have BB:=hide hM.out.2.1
   have GM:=hide hM.out.2.2
   have ST:=hide (fun(hx:oneX m (nth l m)≠0)=>show firstE (fun i=>oneX i (nth l i)) 8=oneX m (nth l m) by
    have:=firstE_stop (fun i=>oneX i (nth l i)) m h0.out hx (8-(m+1))
    rw[show m+1+(8-(m+1))=8 by omega]at this
    exact this)
   have GO:=hide (show firstE (fun i=>oneX i (nth l i)) (m+1)=oneX m (nth l m)from firstE_go _ m h0.out)
   have EL:=hide (fun(hx:firstE (fun i=>oneX i (nth l i)) 8≠0)=>show eachL (fun i=>oneV i (nth l i)) (fun i=>oneX i (nth l i))=zeros 8 by unfold eachL;rw[if_neg hx])
   clear hF IX ON h0 hM
   generalize oneV m (nth l m)=v at *
   generalize oneX m (nth l m)=x at *
   generalize nth l m=y at *
   generalize nth rs m=y' at *
   have i1:(m:Int)<8:=by omega
   go_wp2_with fail
   refine O1.out.mono ?_
   rintro e w1 ⟨rfl,rfl⟩
   clear O1
   by_cases hx:x=0
   ·subst hx
    clear hbd
    go_wp2_with fail
    go_roundw
    case rel=>exact⟨m+1,_,by go_num,by omega,GO.out,NF.out,NM.out⟩
    case measure=>simp[intOf];omega
   ·clear NM NF GO cd fd
    go_wp2_with (first|refine wpList_store_arr rfl 50 _ _ rfl _ (zeros 8) (zeros 8) rfl rfl BB.out rfl (by rw[zeros_len];exact size8') ?_)
    have PU:=put_arr (rs':=zeros 8) BB.out rfl
    have hlv:=loadVar_arr PU.1 _ Tryz.underlying50 rfl (by rw[zeros_len];exact size8')
    have GF:=hide (grown_own GM.out PU.2 (by omega))
    refine bodyPost_ret (v:=.tuple #[.agg (arrI (zeros 8)),.int .i64 x]) ?_ rfl ?_
    ·simp[results,Tryz.results144,asAddr,Act.put,hlv]
    ·rw[EL.out (by rw[ST.out hx];exact hx),ST.out hx];exact⟨rfl,GF.out⟩
  ·obtain rfl:m=8:=by omega
   have hlen:rs.length=8:=hF.out.1
   have EL:=hide (show eachL (fun i=>oneV i (nth l i)) (fun i=>oneX i (nth l i))=rs by rw[fillN_all hF.out];unfold eachL;rw[if_pos h0.out])
   have EE:=h0
   have BA:=hide hM.out.1
   have BB:=hide hM.out.2.1
   have GM:=hide hM.out.2.2
   clear hF hM h0 IX ON hbd
   go_wp2_with (first|refine wpList_load_arr rfl 50 _ rfl _ rfl _ BA.out _ Tryz.underlying50 rfl (by rw[hlen];exact size8') ?_|refine wpList_store_arr rfl 50 _ _ rfl _ (zeros 8) rs rfl rfl BB.out (by rw[hlen,zeros_len]) (by rw[zeros_len];exact size8') ?_)
   have PU:=put_arr (rs':=rs) BB.out (by rw[hlen,zeros_len])
   have hlv:=loadVar_arr PU.1 _ Tryz.underlying50 rfl (by rw[hlen];exact size8')
   have GF:=hide (grown_own GM.out PU.2 (by omega))
   refine bodyPost_ret (v:=.tuple #[.agg (arrI rs),.int .i64 0]) ?_ rfl ?_
   ·simp[results,Tryz.results144,asAddr,Act.put,hlv]
   ·rw[EL.out,EE.out];exact⟨rfl,GF.out⟩
set_option maxRecDepth 100000 in
theorem All_any (l:List Int)(hl:l.length=8)(w:World)(hW:Wide w) :
  Calls Tryz.prog 63 #[.agg (arrI l)] w (ArrE w (eachL (fun i=>oneV i (nth l i)) (fun i=>oneX i (nth l i))) (firstE (fun i=>oneX i (nth l i)) 8)):=by
 have L0:=hide (laid2 w 50 50 l (zeros 8))
 have E:=hide (fun wr (g:w.grownBy wr none)=>each_one l hl wr (Wide_keep hW g))
 have hlen:=eachL_len (fun i=>oneV i (nth l i)) (fun i=>oneX i (nth l i))
 rw[z8']at L0
 clear hW
 generalize eachL (fun i=>oneV i (nth l i)) (fun i=>oneX i (nth l i))=rs at *
 generalize firstE (fun i=>oneX i (nth l i)) 8=x at *
 go_enter Tryz.func63,Tryz.ntmps63
 go_wp2_with (refine wpList_load_arr rfl 50 _ rfl _ rfl _ L0.out.1 _ Tryz.underlying50 rfl (by rw[hl];exact size8') ?_)
 refine(E.out _ L0.out.2.2).mono ?_
 rintro e w1 ⟨rfl,g1⟩
 have BB:=hide (L0.out.2.1.keep g1)
 have GM:=hide (grown_none L0.out.2.2 g1)
 clear L0 g1 E
 go_wp2_with (first|refine wpList_store_arr rfl 50 _ _ rfl _ (zeros 8) rs rfl rfl BB.out (by rw[hlen,zeros_len]) (by rw[zeros_len];exact size8') ?_)
 have PU:=put_arr (rs':=rs) BB.out (by rw[hlen,zeros_len])
 have hlv:=loadVar_arr PU.1 _ Tryz.underlying50 rfl (by rw[hlen];exact size8')
 have GF:=hide (grown_own GM.out PU.2 (by omega))
 refine bodyPost_ret (v:=.tuple #[.agg (arrI rs),.int .i64 x]) ?_ rfl ⟨rfl,GF.out⟩
 simp[results,Tryz.results63,asAddr,Act.put,hlv]
set_option maxRecDepth 100000 in
theorem each_level (l:List Int)(hl:l.length=8)(w:World)(hW:Wide w) :
  Calls Tryz.prog 144 #[.agg (arrI l),.func (.func 146) #[] #[]] w (ArrE w (eachL (fun i=>levV i (nth l i)) (fun i=>levX i (nth l i))) (firstE (fun i=>levX i (nth l i)) 8)):=by
 have L0:=hide (laid2 w 50 50 l (zeros 8))
 rw[z8']at L0
 have ON:=hide (fun(m:Nat) wr (g:w.grownBy wr none)=>Level_all m (nth l m) wr (Wide_keep hW g))
 have IX:=hide (fun j hj=>index_arr l Tryz.underlying50 j hj hl)
 have hbd:=build8
 clear hW
 go_enter Tryz.func144,Tryz.ntmps144
 go_wp2_with (refine wpList_load_arr rfl 50 _ rfl _ rfl _ L0.out.1 _ Tryz.underlying50 rfl (by rw[hl];exact size8') ?_)
 have M0:=hide (show Mem2 w _ 50 50 l (zeros 8)from L0.out)
 clear L0
 generalize (w.alloc (.cells (arrI l) 50)).alloc _=W0 at *
 go_loopw [11] (fun i wr=>∃(m:Nat) (rs:List Int),i=.int .i64 m∧m≤8∧Hid (firstE (fun i=>levX i (nth l i)) m=0)∧Hid (FillN 8 (fun i=>levV i (nth l i)) m rs)∧Hid (Mem2 w wr 50 50 rs (zeros 8))) (fun i _=>8-(intOf i).toNat)
 case atStart=>exact⟨0,l,rfl,Nat.zero_le _,rfl,⟨hl,fun j hj=>by omega⟩,M0.out⟩
 case round=>
  obtain⟨m,rs,rfl,hm,h0,hF,hM⟩:=hrel
  clear M0
  by_cases hm8:m<8
  ·have ix:=IX.out m (by omega)
   have O1:=hide (ON.out m wr hM.out.2.2)
   have hlen:rs.length=8:=hF.out.1
   have NF:=hide (fillN_step hF.out hm8)
   have cd:=hM.out.1.cell m (by omega)
   have fd:=hM.out.1.free m
   have NM:=hide (hM.out.set m (levV m (nth l m)))
   have BB:=hide hM.out.2.1
   have GM:=hide hM.out.2.2
   have ST:=hide (fun(hx:levX m (nth l m)≠0)=>show firstE (fun i=>levX i (nth l i)) 8=levX m (nth l m) by
    have:=firstE_stop (fun i=>levX i (nth l i)) m h0.out hx (8-(m+1))
    rw[show m+1+(8-(m+1))=8 by omega]at this
    exact this)
   have GO:=hide (show firstE (fun i=>levX i (nth l i)) (m+1)=levX m (nth l m)from firstE_go _ m h0.out)
   have EL:=hide (fun(hx:firstE (fun i=>levX i (nth l i)) 8≠0)=>show eachL (fun i=>levV i (nth l i)) (fun i=>levX i (nth l i))=zeros 8 by unfold eachL;rw[if_neg hx])
   clear hF IX ON h0 hM
   generalize levV m (nth l m)=v at *
   generalize levX m (nth l m)=x at *
   generalize nth l m=y at *
   generalize nth rs m=y' at *
   have i1:(m:Int)<8:=by omega
   go_wp2_with fail
   refine O1.out.mono ?_
   rintro e w1 ⟨rfl,rfl⟩
   clear O1
   by_cases hx:x=0
   ·subst hx
    clear hbd
    go_wp2_with fail
    go_roundw
    case rel=>exact⟨m+1,_,by go_num,by omega,GO.out,NF.out,NM.out⟩
    case measure=>simp[intOf];omega
   ·clear NM NF GO cd fd
    go_wp2_with (first|refine wpList_store_arr rfl 50 _ _ rfl _ (zeros 8) (zeros 8) rfl rfl BB.out rfl (by rw[zeros_len];exact size8') ?_)
    have PU:=put_arr (rs':=zeros 8) BB.out rfl
    have hlv:=loadVar_arr PU.1 _ Tryz.underlying50 rfl (by rw[zeros_len];exact size8')
    have GF:=hide (grown_own GM.out PU.2 (by omega))
    refine bodyPost_ret (v:=.tuple #[.agg (arrI (zeros 8)),.int .i64 x]) ?_ rfl ?_
    ·simp[results,Tryz.results144,asAddr,Act.put,hlv]
    ·rw[EL.out (by rw[ST.out hx];exact hx),ST.out hx];exact⟨rfl,GF.out⟩
  ·obtain rfl:m=8:=by omega
   have hlen:rs.length=8:=hF.out.1
   have EL:=hide (show eachL (fun i=>levV i (nth l i)) (fun i=>levX i (nth l i))=rs by rw[fillN_all hF.out];unfold eachL;rw[if_pos h0.out])
   have EE:=h0
   have BA:=hide hM.out.1
   have BB:=hide hM.out.2.1
   have GM:=hide hM.out.2.2
   clear hF hM h0 IX ON hbd
   go_wp2_with (first|refine wpList_load_arr rfl 50 _ rfl _ rfl _ BA.out _ Tryz.underlying50 rfl (by rw[hlen];exact size8') ?_|refine wpList_store_arr rfl 50 _ _ rfl _ (zeros 8) rs rfl rfl BB.out (by rw[hlen,zeros_len]) (by rw[zeros_len];exact size8') ?_)
   have PU:=put_arr (rs':=rs) BB.out (by rw[hlen,zeros_len])
   have hlv:=loadVar_arr PU.1 _ Tryz.underlying50 rfl (by rw[hlen];exact size8')
   have GF:=hide (grown_own GM.out PU.2 (by omega))
   refine bodyPost_ret (v:=.tuple #[.agg (arrI rs),.int .i64 0]) ?_ rfl ?_
   ·simp[results,Tryz.results144,asAddr,Act.put,hlv]
   ·rw[EL.out,EE.out];exact⟨rfl,GF.out⟩
set_option maxRecDepth 100000 in
theorem Values_any (l:List Int)(hl:l.length=8)(w:World)(hW:Wide w) :
  Calls Tryz.prog 66 #[.agg (arrI l)] w (ArrE w (eachL (fun i=>levV i (nth l i)) (fun i=>levX i (nth l i))) (firstE (fun i=>levX i (nth l i)) 8)):=by
 have L0:=hide (laid2 w 50 50 l (zeros 8))
 have E:=hide (fun wr (g:w.grownBy wr none)=>each_level l hl wr (Wide_keep hW g))
 have hlen:=eachL_len (fun i=>levV i (nth l i)) (fun i=>levX i (nth l i))
 rw[z8']at L0
 clear hW
 generalize eachL (fun i=>levV i (nth l i)) (fun i=>levX i (nth l i))=rs at *
 generalize firstE (fun i=>levX i (nth l i)) 8=x at *
 go_enter Tryz.func66,Tryz.ntmps66
 go_wp2_with (refine wpList_load_arr rfl 50 _ rfl _ rfl _ L0.out.1 _ Tryz.underlying50 rfl (by rw[hl];exact size8') ?_)
 refine(E.out _ L0.out.2.2).mono ?_
 rintro e w1 ⟨rfl,g1⟩
 have BB:=hide (L0.out.2.1.keep g1)
 have GM:=hide (grown_none L0.out.2.2 g1)
 clear L0 g1 E
 go_wp2_with (first|refine wpList_store_arr rfl 50 _ _ rfl _ (zeros 8) rs rfl rfl BB.out (by rw[hlen,zeros_len]) (by rw[zeros_len];exact size8') ?_)
 have PU:=put_arr (rs':=rs) BB.out (by rw[hlen,zeros_len])
 have hlv:=loadVar_arr PU.1 _ Tryz.underlying50 rfl (by rw[hlen];exact size8')
 have GF:=hide (grown_own GM.out PU.2 (by omega))
 refine bodyPost_ret (v:=.tuple #[.agg (arrI rs),.int .i64 x]) ?_ rfl ⟨rfl,GF.out⟩
 simp[results,Tryz.results66,asAddr,Act.put,hlv]
end Go.Proofs.YtdejpongekicdaaGreatDoor

/- QuaMath -/
namespace Go.Proofs.YtdejpongekicdaaGreatDoor
open Go.RowKit
set_option linter.unusedVariables false
set_option linter.unusedSimpArgs false
def quL (k:List Int):List Int:=tab 8 (fun i=>(one (wid i) (nth k i):Int))
theorem quL_len (k:List Int):(quL k).length=8:=tab_len _ _
theorem firstE_zero (X:Nat→Int):∀m,(∀i,i<m→X i=0)→firstE X m=0
 | 0,_=>rfl
 | m+1,h=>by
  have:=firstE_zero X m (fun i hi=>h i (by omega))
  rw[firstE_go X m this]
  exact h m (by omega)
theorem eachL_zero (V X:Nat→Int)(h:∀i,i<8→X i=0):eachL V X=tab 8 V∧firstE X 8=0:=by
 have:=firstE_zero X 8 h
 exact⟨if_pos this,this⟩
theorem tab_congr (n:Nat)(f g:Nat→Int)(h:∀i,i<n→f i=g i):tab n f=tab n g:=
 tab_ext (tab_len _ _) (fun i hi=>by rw[tab_nth _ _ _ hi];exact h i hi)
theorem eachOne (k:List Int)(hk:∀i,i<8→-32768≤nth k i∧nth k i≤32768):eachL (fun i=>oneV i (nth k i)) (fun i=>oneX i (nth k i))=quL k∧firstE (fun i=>oneX i (nth k i)) 8=0:=by
 have h:=eachL_zero (fun i=>oneV i (nth k i)) (fun i=>oneX i (nth k i)) (fun i hi=>by
  have:=hk i hi
  show oneX (i:Int) (nth k i)=0
  unfold oneX
  rw[if_neg (by omega),if_neg (by omega)])
 refine⟨h.1.trans (tab_congr 8 _ _ (fun i hi=>?_)),h.2⟩
 have:=hk i hi
 show oneV (i:Int) (nth k i)=_
 unfold oneV
 rw[if_neg (by omega),if_neg (by omega),show((i:Nat):Int).toNat=i by omega]
def nowL (q:List Int):List Int:=tab 8 (fun i=>lvl (wid i) (nth q i))
theorem nowL_len (q:List Int):(nowL q).length=8:=tab_len _ _
def gudQ (q:List Int):Prop:=q.length=8∧∀i,i<8→0≤nth q i∧nth q i<(many (wid i):Int)
theorem quL_good (k:List Int):gudQ (quL k):=by
 refine⟨quL_len k,fun i hi=>?_⟩
 unfold quL
 rw[tab_nth _ _ _ hi]
 have:=one_lt (wid i) (nth k i) (wid_in i)
 omega
theorem eachLev (q:List Int)(hq:gudQ q):eachL (fun i=>levV i (nth q i)) (fun i=>levX i (nth q i))=nowL q∧firstE (fun i=>levX i (nth q i)) 8=0:=by
 have h:=eachL_zero (fun i=>levV i (nth q i)) (fun i=>levX i (nth q i)) (fun i hi=>by
  have:=hq.2 i hi
  show levX (i:Int) (nth q i)=0
  unfold levX
  rw[if_neg (by omega),show((i:Nat):Int).toNat=i by omega]
  (repeat' split)<;>first|rfl|omega)
 refine⟨h.1.trans (tab_congr 8 _ _ (fun i hi=>?_)),h.2⟩
 have:=hq.2 i hi
 show levV (i:Int) (nth q i)=_
 unfold levV
 rw[if_neg (by omega),show((i:Nat):Int).toNat=i by omega]
 (repeat' split)<;>first|rfl|omega
theorem nowL_steady (q:List Int)(hq:gudQ q):steadyB (nowL q)=true:=by
 rw[steadyB_iff,nowL_len]
 intro i hi
 unfold nowL
 rw[tab_nth _ _ _ hi]
 have h:=hq.2 i hi
 have:=lvl_bd (wid i) (nth q i) (wid_in i) h.1 h.2
 omega
theorem gudQ_of {p:List Int}(h:gudP p=true):gudQ (prt p 1 8):=by
 refine⟨prt_len _ _ _,fun i hi=>?_⟩
 rw[prt_nth _ _ _ _ hi]
 have:=(gudP_iff p).1 h (1+i) (by omega)
 rw[mo_many i hi]at this
 omega
theorem nowL_vl (p:List Int):nowL (prt p 1 8)=vlL p:=tab_congr 8 _ _ (fun i hi=>by rw[prt_nth _ _ _ _ hi])
theorem vals_eq {p:List Int}(h:gudP p=true):eachL (fun i=>levV i (nth (prt p 1 8) i)) (fun i=>levX i (nth (prt p 1 8) i))=vlL p∧firstE (fun i=>levX i (nth (prt p 1 8) i)) 8=0:=by
 have:=eachLev _ (gudQ_of h)
 rw[nowL_vl]at this
 exact this
theorem plP_t (l u:List Int):plP true l u=siM l:=if_pos rfl
theorem plP_f (l u:List Int):plP false l u=spM l u:=if_neg (by decide)
theorem plX_t (l u:List Int):plX true l u=siL l:=if_pos rfl
theorem plX_f (l u:List Int):plX false l u=spX l u:=if_neg (by decide)
end Go.Proofs.YtdejpongekicdaaGreatDoor

/- OpnMath -/
namespace Go.Proofs.YtdejpongekicdaaGreatDoor

end Go.Proofs.YtdejpongekicdaaGreatDoor

/- MemEq -/
namespace Go.Proofs.YtdejpongekicdaaGreatDoor
set_option maxRecDepth 100000
open Go.RowKit
set_option linter.unusedVariables false
set_option linter.unusedSimpArgs false
set_option maxHeartbeats 4000000
theorem part_v {T:TypeId}{d:TypeDesc}{n:Nat}(hu:Tryz.prog.underlying T=some d)(hd:(match d with|.struct _|.array _ _=>true|_=>false)=true)(hs:(Tryz.prog.info? T).map (·.size)=some n)(cs:List Value)(k:Nat)(vs:List Value)(hv:(cs.drop k).take n=vs)(w:World) :
  Sem.run Tryz.prog (part T cs.toArray k) w=.ok (.agg vs.toArray) w:=by
 obtain⟨i0,hi,hz1⟩:∃i0,Tryz.prog.info? T=some i0∧i0.size=n:=by
  cases hq:Tryz.prog.info? T with
  | none=>rw[hq]at hs;cases hs
  | some i=>exact⟨i,rfl,by rw[hq]at hs;simpa using hs⟩
 have e:cs.toArray.extract k (k+n)=vs.toArray:=by
  rw[List.extract_toArray,←hv]
  congr 1
  simp[List.extract_eq_take_drop,List.drop_take]
 rw[←e]
 cases d<;>simp_all [part,isAgg,run_underlying hu,sizeOf,typeInfo,go_sem]
theorem part_i (cs:List Value)(k:Nat)(x:Int)(h:cs[k]?=some (.int .i64 x))(w:World):Sem.run Tryz.prog (part 3 cs.toArray k) w=.ok (.int .i64 x) w:=by
 simp[part,isAgg,run_underlying Tryz.underlying3,h]
theorem part_b (cs:List Value)(k:Nat)(x:Bool)(h:cs[k]?=some (.bool x))(w:World):Sem.run Tryz.prog (part 4 cs.toArray k) w=.ok (.bool x) w:=by
 simp[part,isAgg,run_underlying Tryz.underlying4,h]
theorem eq_intM (d:Nat)(a:Int)(w:World):Sem.run Tryz.prog (Op.equalIn (d+1) 3 (.int .i64 a) (.int .i64 a)) w=.ok true w:=by
 rw[run_equalIn_int w d 3 .i64 .i64 a a Tryz.underlying3];simp
theorem eq_boolM (d:Nat)(a:Bool)(w:World):Sem.run Tryz.prog (Op.equalIn (d+1) 4 (.bool a) (.bool a)) w=.ok true w:=by
 rw[Op.equalIn]
 cases a<;>simp[run_underlying Tryz.underlying4,go_sem]
theorem eqF_step {d:Nat}{cs:Array Value}{f:Field}{fs:List Field}{v:Value}{w:World}(hn:f.name≠ "_")(hp:Sem.run Tryz.prog (part f.type cs f.offset) w=.ok v w)(he:Sem.run Tryz.prog (Op.equalIn d f.type v v) w=.ok true w)(h:Sem.run Tryz.prog (Op.eqFields d cs cs fs) w=.ok true w) :
  Sem.run Tryz.prog (Op.eqFields d cs cs (f::fs)) w=.ok true w:=by
 unfold Op.eqFields
 rw[if_pos hn]
 simp only[Sem.run_bind,hp,Result.andThen_ok,he,Bool.not_true,Bool.false_eq_true,if_false]
 exact h
theorem eqF_nil {d:Nat}{cs:Array Value}{w:World}:Sem.run Tryz.prog (Op.eqFields d cs cs []) w=.ok true w:=by
 unfold Op.eqFields
 exact Sem.run_pure ..
theorem memF:∃n0 n1 n2 n3 n4 n5 n6 n7 n8:Field,(Tryz.prog.fieldsOf 53).toList=[n0,n1,n2,n3,n4,n5,n6,n7,n8]∧
  (n0.name≠ "_"∧n0.type=50∧n0.offset=0)∧(n1.name≠ "_"∧n1.type=50∧n1.offset=8)∧(n2.name≠ "_"∧n2.type=51∧n2.offset=16)∧(n3.name≠ "_"∧n3.type=3∧n3.offset=96)∧(n4.name≠ "_"∧n4.type=3∧n4.offset=97)∧
  (n5.name≠ "_"∧n5.type=3∧n5.offset=98)∧(n6.name≠ "_"∧n6.type=3∧n6.offset=99)∧(n7.name≠ "_"∧n7.type=3∧n7.offset=100)∧(n8.name≠ "_"∧n8.type=4∧n8.offset=101):=by
 unfold Program.fieldsOf
 rw[Tryz.underlying53]
 exact⟨_,_,_,_,_,_,_,_,_,rfl,⟨by decide,rfl,rfl⟩,⟨by decide,rfl,rfl⟩,⟨by decide,rfl,rfl⟩,⟨by decide,rfl,rfl⟩,⟨by decide,rfl,rfl⟩,⟨by decide,rfl,rfl⟩,⟨by decide,rfl,rfl⟩,⟨by decide,rfl,rfl⟩,⟨by decide,rfl,rfl⟩⟩
theorem eq_memD (d:Nat)(l:List Int)(s:Bool)(hl:l.length=101)(w:World):Sem.run Tryz.prog (Op.equalIn (d+1+1+1) 53 (memV l s) (memV l s)) w=.ok true w:=by
 obtain⟨n0,n1,n2,n3,n4,n5,n6,n7,n8,hf,⟨a0,b0,c0⟩,⟨a1,b1,c1⟩,⟨a2,b2,c2⟩,⟨a3,b3,c3⟩,⟨a4,b4,c4⟩,⟨a5,b5,c5⟩,⟨a6,b6,c6⟩,⟨a7,b7,c7⟩,⟨a8,b8,c8⟩⟩:=memF
 unfold memV
 rw[run_equalIn_struct w (d+1+1) 53 _ _ (by kernel_rfl) (by kernel_rfl),hf]
 refine eqF_step a0 (v:=.agg (arrI (prt l 0 8))) (by rw[b0,c0];exact part_v Tryz.underlying50 rfl size8 (memC l s) 0 _ (BlkM.part s 0 8 (by omega)) w) (by rw[b0];exact eq_arr (prt l 0 8) Tryz.underlying50 (prt_len _ _ _) d w) ?_
 refine eqF_step a1 (v:=.agg (arrI (prt l 8 8))) (by rw[b1,c1];exact part_v Tryz.underlying50 rfl size8 (memC l s) 8 _ (BlkM.part s 8 8 (by omega)) w) (by rw[b1];exact eq_arr (prt l 8 8) Tryz.underlying50 (prt_len _ _ _) d w) ?_
 refine eqF_step a2 (v:=.agg (arrI (prt l 16 80))) (by rw[b2,c2];exact part_v Tryz.underlying51 rfl size80c (memC l s) 16 _ (BlkM.part s 16 80 (by omega)) w) (by rw[b2];exact eq_arr (prt l 16 80) Tryz.underlying51 (prt_len _ _ _) d w) ?_
 refine eqF_step a3 (by rw[b3,c3];exact part_i (memC l s) 96 _ (mixC_get _ _ _ (by omega)) w) (by rw[b3];exact eq_intM (d+1) _ w) ?_
 refine eqF_step a4 (by rw[b4,c4];exact part_i (memC l s) 97 _ (mixC_get _ _ _ (by omega)) w) (by rw[b4];exact eq_intM (d+1) _ w) ?_
 refine eqF_step a5 (by rw[b5,c5];exact part_i (memC l s) 98 _ (mixC_get _ _ _ (by omega)) w) (by rw[b5];exact eq_intM (d+1) _ w) ?_
 refine eqF_step a6 (by rw[b6,c6];exact part_i (memC l s) 99 _ (mixC_get _ _ _ (by omega)) w) (by rw[b6];exact eq_intM (d+1) _ w) ?_
 refine eqF_step a7 (by rw[b7,c7];exact part_i (memC l s) 100 _ (mixC_get _ _ _ (by omega)) w) (by rw[b7];exact eq_intM (d+1) _ w) ?_
 refine eqF_step a8 (by rw[b8,c8];exact part_b (memC l s) 101 s (by unfold memC mixC;rw[List.getElem?_append_right (by rw[intsV_len];omega),intsV_len,hl];rfl) w) (by rw[b8];exact eq_boolM (d+1) _ w) ?_
 exact eqF_nil
theorem eq_mem (l:List Int)(s:Bool)(hl:l.length=101)(w:World):Sem.run Tryz.prog (Op.equalIn 10000 53 (memV l s) (memV l s)) w=.ok true w:=eq_memD 9997 l s hl w
theorem bin_mem (l:List Int)(s:Bool)(hl:l.length=101)(w:World):Sem.run Tryz.prog (binOp .eql 53 (memV l s) (memV l s)) w=.ok (.bool true) w:=by
 have h:=eq_mem l s hl w
 unfold memV at h ⊢
 rw[run_eql_struct,h]
 rfl
theorem guard_mem (x y:Operand)(l m:List Int)(s t:Bool)(w:World):Sem.run Tryz.prog (eqGuard .eql 53 x y (memV l s) (memV m t)) w=.ok () w:=run_eqGuard_agg w .eql 53 x y _ _ (by kernel_rfl)
theorem wpList_eq_mem {ops:Array Oper}{rest:List Oper}{o:Oper}{a:Act}{w:World}{Q:Exit→Act→World→Prop}(hgd:Region.wanted o (yielded ops a.tmps)=true)(x y:Operand)(ho:o.op=.binOp .eql 53 x y 53)
  (l:List Int) (s:Bool) (hl:l.length=101) (hx:a.eval x=memV l s) (hy:a.eval y=memV l s) (k:wpList Tryz.prog ops Q rest (a.put o.dst (.bool true)) w):wpList Tryz.prog ops Q (o::rest) a w:=by
 refine wpList_step fun K hK=>?_
 rw[if_pos hgd]
 have h1:=guard_mem x y l l s s w
 have h2:=bin_mem l s hl w
 unfold Oper.wp
 simp only[execOp,ho,hx,hy,Sem.run_bind,h1,Result.andThen_ok,h2]
 exact hK _ _ k
theorem fresh_mem (w:World)(m:List Int)(t:Bool)(hm:m.length=101):BlkM (w.alloc (.cells (memC (zeros 101) false).toArray 53)) w.heap.size (zeros 101) false∧BlkM (putV (w.alloc (.cells (memC (zeros 101) false).toArray 53)) w.heap.size 0 (memC m t)) w.heap.size m t∧w.grownBy (putV (w.alloc (.cells (memC (zeros 101) false).toArray 53)) w.heap.size 0 (memC m t)) none:=by
 have B:=BlkM.new w (zeros 101) false
 have P:=B.putAll (m:=m) (t:=t) (zeros_len 101) hm
 exact⟨B,P.1,grown_own (grown_alloc _ _ none) P.2 (Nat.le_refl _)⟩
end Go.Proofs.YtdejpongekicdaaGreatDoor

/- EncEq -/
namespace Go.Proofs.YtdejpongekicdaaGreatDoor
set_option maxRecDepth 100000
open Go.RowKit
set_option linter.unusedVariables false
set_option linter.unusedSimpArgs false
set_option maxHeartbeats 4000000
theorem fresh_enc (w:World)(m:List Int)(t:Bool)(hm:m.length=225):BlkE (w.alloc (.cells (encC (zeros 225) false).toArray 55)) w.heap.size (zeros 225) false∧BlkE (putV (w.alloc (.cells (encC (zeros 225) false).toArray 55)) w.heap.size 0 (encC m t)) w.heap.size m t∧w.grownBy (putV (w.alloc (.cells (encC (zeros 225) false).toArray 55)) w.heap.size 0 (encC m t)) none:=by
 have B:=BlkE.new w (zeros 225) false
 have P:=B.putAll (m:=m) (t:=t) (zeros_len 225) hm
 exact⟨B,P.1,grown_own (grown_alloc _ _ none) P.2 (Nat.le_refl _)⟩
def begL:List Int:=zeros 124++freL
theorem begL_len:begL.length=225:=by unfold begL;rw[List.length_append,zeros_len,freL_len]
def CBg (f:Nat)(w:World):Prop:=∀wr,w.grownBy wr none→Calls Tryz.prog f #[] wr (AnsC wr (encV begL false))
theorem run_build_beg (w:World):Sem.run Tryz.prog (Instr.build 55 #[(2,memV freL false)]) w=.ok (encV begL false) w:=by kernel_rfl
theorem wpList_build_beg {ops:Array Oper}{rest:List Oper}{op:Oper}{a:Act}{w:World}{Q:Exit→Act→World→Prop}(hgd:op.guard=none)(x:Operand)(ho:op.op=.build 55 #[(2,x)])(hx:a.eval x=memV freL false)
  (k:wpList Tryz.prog ops Q rest (a.put op.dst (encV begL false)) w):wpList Tryz.prog ops Q (op::rest) a w:=by
 refine wpList_plain hgd fun _ hK=>?_
 unfold Oper.wp execOp
 have e:(#[(2,x)]:Array (Nat×Operand)).map (fun(i,x)=>(i,a.eval x))=#[(2,memV freL false)]:=by simp[hx]
 simp only[ho,e,Sem.run_bind,run_build_beg,Result.andThen_ok,Sem.run_pure]
 exact hK _ _ k
end Go.Proofs.YtdejpongekicdaaGreatDoor

/- BigD -/
namespace Go.Proofs.YtdejpongekicdaaGreatDoor
open Go.RowKit
set_option linter.unusedVariables false
set_option maxHeartbeats 1000000
def sgn (neg:Bool)(z:Int):Int:=if neg then -z else z
end Go.Proofs.YtdejpongekicdaaGreatDoor

/- Order -/
namespace Go.Proofs.YtdejpongekicdaaGreatDoor
set_option linter.unusedVariables false
section
variable {P:Program} {ops:Array Oper} {Q:Exit→Act→World→Prop} {md:Region.Mode} {S:World→Prop} {g:Nat}
def Closed (md:Region.Mode)(ops:Array Oper)(listed:Array Bool):Prop:=
 ∀j oj,ops[j]?=some oj→listed.getD j false=true→∀e∈oj.after,Region.binds md e=true→listed.getD e.on false=true
theorem getD_set_inv {listed:Array Bool}{i j:Nat}(h:(listed.setIfInBounds i true).getD j false=true):j=i∨listed.getD j false=true:=by
 by_cases hij:i=j
 ·exact Or.inl hij.symm
 ·rw[getD_set_ne false hij]at h;exact Or.inr h
theorem Closed.set {listed:Array Bool}{i:Nat}(h:Closed md ops listed)(hi:i∈Region.ready md ops listed):Closed md ops (listed.setIfInBounds i true):=by
 intro j oj hj hl e he hb
 apply getD_set_true
 rcases getD_set_inv hl with rfl|hl
 ·obtain⟨_,o,ho,hall⟩:=mem_ready.1 hi
  rw[hj]at ho;cases ho
  exact hall e he hb
 ·exact h j oj hj hl e he hb
theorem Closed.zero (n:Nat):Closed md ops (Array.replicate n false):=fun j oj _ hl=>by rw[getD_replicate_false]at hl;cases hl
def anc (md:Region.Mode)(ops:Array Oper)(i:Nat):Nat→Nat→Bool
 | 0,_=>false
 | f+1,j=>Region.waitsFor md ops j i||(List.range ops.size).any fun n=>Region.waitsFor md ops j n&&anc md ops i f n
theorem anc_spec {i:Nat}{listed:Array Bool}(hc:Closed md ops listed)(hi:listed.getD i false=false):∀(f j:Nat),anc md ops i f j=true→listed.getD j false=false∧j∉Region.ready md ops listed
 | 0,j,h=>by cases h
 | f+1,j,h=>by
  have key:∀n,Region.waitsFor md ops j n=true→listed.getD n false=false→listed.getD j false=false∧j∉Region.ready md ops listed:=by
   intro n hw hn
   obtain⟨oj,hj,e,he,hb,hon⟩:=Region.waitsFor_spec hw
   refine⟨?_,?_⟩
   ·cases hl:listed.getD j false
    ·rfl
    ·have:=hc j oj hj hl e he hb;rw[hon,hn]at this;cases this
   ·intro hr
    obtain⟨_,o,ho,hall⟩:=mem_ready.1 hr
    rw[hj]at ho;cases ho
    have:=hall e he hb;rw[hon,hn]at this;cases this
  simp only[anc,Bool.or_eq_true,List.any_eq_true,List.mem_range,Bool.and_eq_true]at h
  rcases h with h|⟨n,_,h1,h2⟩
  ·exact key i h hi
  ·exact key n h1 (anc_spec hc hi f n h2).1
def wpAnyG (P:Program)(md:Region.Mode)(ops:Array Oper)(Q:Exit→Act→World→Prop)(S:World→Prop)(g:Nat):Nat→Array Bool→Act→World→Prop
 | 0,listed,a,w=>Region.ready md ops listed=[]∧Q .normal a w
 | fuel+1,listed,a,w=>
  (Region.ready md ops listed=[]→Q .normal a w)∧
  ∀i∈Region.ready md ops listed,wpOp P ops Q i (fun a' w'=>((listed.setIfInBounds i true).getD g false=false→S w')∧wpAnyG P md ops Q S g fuel (listed.setIfInBounds i true) a' w') a w
theorem wpAny_of_G:∀(fuel:Nat) (listed:Array Bool) (a:Act) (w:World),wpAnyG P md ops Q S g fuel listed a w→wpAny P md ops Q fuel listed a w
 | 0,_,_,_,h=>h
 | fuel+1,_,_,_,h=>⟨h.1,fun i hi=>wpOp_mono (fun a' w' h'=>wpAny_of_G fuel _ a' w' h'.2) (h.2 i hi)⟩
theorem wpAnyG_of_any:∀(fuel:Nat) (listed:Array Bool) (a:Act) (w:World),listed.getD g false=true→wpAny P md ops Q fuel listed a w→wpAnyG P md ops Q S g fuel listed a w
 | 0,_,_,_,_,h=>h
 | fuel+1,listed,_,_,hg,h=>⟨h.1,fun i hi=>wpOp_mono (fun a' w' h'=>⟨fun e=>(by rw[getD_set_true hg]at e;cases e),wpAnyG_of_any fuel _ a' w' (getD_set_true hg) h'⟩) (h.2 i hi)⟩
def Alone (md:Region.Mode)(ops:Array Oper)(i:Nat)(oi:Oper)(listed:Array Bool):Prop:=
 ∀j oj,ops[j]?=some oj→j≠i→listed.getD j true=false→(∀e∈oj.after,Region.binds md e=true→e.on≠i)→oi.apart ops oj=true
theorem Alone.more {i j:Nat}{oi:Oper}{listed:Array Bool}(h:Alone md ops i oi listed):Alone md ops i oi (listed.setIfInBounds j true):=by
 intro k ok hk hki hun
 have hl:listed.getD k true=false:=by
  rcases Nat.decEq j k with hjk|rfl
  ·rwa [getD_set_ne true hjk]at hun
  ·rcases Nat.lt_or_ge j listed.size with hs|hs
   ·simp[hs]at hun
   ·simp[hs]at hun
 exact h k ok hk hki hl
theorem ready_free {i j:Nat}{oj:Oper}{listed:Array Bool}(hiun:listed.getD i false=false)(hj:j∈Region.ready md ops listed)(hoj:ops[j]?=some oj):∀e∈oj.after,Region.binds md e=true→e.on≠i:=by
 obtain⟨_,o,ho,hall⟩:=mem_ready.1 hj
 obtain rfl:o=oj:=Option.some.inj (ho.symm.trans hoj)
 rintro e he hb rfl
 exact Bool.noConfusion (hiun.symm.trans (hall e he hb))
theorem wpAnyG_first {i f:Nat}{oi:Oper}{v:Value}(hi:ops[i]?=some oi)(hsel:∀(j:Nat) (o:Oper) cs b,ops[j]?=some o→o.op≠.select cs b)
  (hQ:∀c a w,Q (.panic c) (a.put oi.dst v) w→Q (.panic c) a w) (hanc:anc md ops i f g=true) (hgi:g≠i) (fuel:Nat) :
  ∀(listed:Array Bool) (a:Act) (w:World),Closed md ops listed→Alone md ops i oi listed→
   i∈Region.ready md ops listed→YieldsIf P ops S oi v a→S w→
   wpAnyG P md ops Q S g fuel (listed.setIfInBounds i true) (a.put oi.dst v) w→wpAnyG P md ops Q S g (fuel+1) listed a w:=by
 induction fuel with
 | zero=>
  intro listed a w _ _ hr hy hS H
  constructor
  ·intro h0;rw[h0]at hr;cases hr
  ·intro j hj
   rcases Nat.decEq j i with hji|rfl
   ·have hnone:=ready_mono hj hji
    rw[H.1]at hnone;cases hnone
   ·exact hy.wpOp hi hS ⟨fun _=>hS,H⟩
 | succ fuel ih=>
  intro listed a w hcl hal hr hy hS H
  have hiun:=getD_both (mem_ready.1 hr).1
  obtain⟨hgun,hgr⟩:=anc_spec hcl hiun f g hanc
  constructor
  ·intro h0;rw[h0]at hr;cases hr
  ·intro j hj
   rcases Nat.decEq j i with hji|rfl
   ·obtain⟨hjun,oj,hoj,-⟩:=mem_ready.1 hj
    have hjg:j≠g:=by rintro rfl;exact hgr hj
    have hgl:((listed.setIfInBounds i true).setIfInBounds j true).getD g false=false:=by
     rw[getD_set_ne false hjg,getD_set_ne false (Ne.symm hgi)];exact hgun
    have step:=wpOp_putIf hoj (hal j oj hoj hji hjun (ready_free hiun hj hoj)) (fun cs b=>hsel i oi cs b hi) (fun cs b=>hsel j oj cs b hoj) hQ hy (H.2 j (ready_mono hj hji))
    refine wpOp_mono (fun a' w' k=>?_) step
    obtain⟨ky,ks,kw⟩:=k
    rw[Array.setIfInBounds_comm _ _ (Ne.symm hji)]at kw
    exact⟨fun _=>ks hgl,ih _ a' w' (hcl.set hj) hal.more (ready_mono hr (Ne.symm hji)) ky (ks hgl) kw⟩
   ·exact hy.wpOp hi hS ⟨fun _=>hS,H⟩
theorem wpAnyG_take {i:Nat}{oi:Oper}{v:Value}{fuel:Nat}{listed:Array Bool}{a:Act}{w:World}(hi:ops[i]?=some oi)
  (hst:(Region.noSelect ops&&Region.free md ops listed i&&(Region.ready md ops listed).contains i&&anc md ops i ops.size g&&g != i)=true)
  (hcl:Closed md ops listed)
  (hQ:∀c a w,Q (.panic c) (a.put oi.dst v) w→Q (.panic c) a w) (hy:YieldsIf P ops S oi v a) (hS:S w)
  (h:Closed md ops (listed.setIfInBounds i true)→wpAnyG P md ops Q S g fuel (listed.setIfInBounds i true) (a.put oi.dst v) w):wpAnyG P md ops Q S g (fuel+1) listed a w:=by
 simp only[Bool.and_eq_true,bne_iff_ne]at hst
 obtain⟨⟨⟨⟨h1,h2⟩,h3⟩,h4⟩,h5⟩:=hst
 have h3':i∈Region.ready md ops listed:=by simpa using h3
 exact wpAnyG_first hi (Region.noSelect_spec h1) hQ h4 h5 fuel listed a w hcl (Region.free_spec hi h2) h3' hy hS (h (hcl.set h3'))
theorem wpAnyG_exec {i:Nat}{o:Oper}{fuel:Nat}{listed:Array Bool}{a:Act}{w:World}(ho:ops[i]?=some o)(hr:Region.ready md ops listed=[i])(hcl:Closed md ops listed)
  (h:∀K':Act→World→Prop,Shut (∀a w,((listed.setIfInBounds i true).getD g false=false→S w)→(Closed md ops (listed.setIfInBounds i true)→wpAnyG P md ops Q S g fuel (listed.setIfInBounds i true) a w)→K' a w)→if Region.wanted o (yielded ops a.tmps)=true then Oper.wp P o a w K' Q else K' (a.put o.dst undef) w) :
  wpAnyG P md ops Q S g (fuel+1) listed a w:=by
 refine⟨fun h0=>(by rw[hr]at h0;cases h0),fun j hj=>?_⟩
 rw[hr]at hj
 have:j=i:=by simpa using hj
 subst this
 exact wpOp_step ho (fun K' hK=>h K' (fun a w hS hW=>hK a w ⟨hS,hW (hcl.set (by rw[hr];simp))⟩))
theorem wp_region_G {id:Nat}{a:Act}{w:World}(g:Nat)(S:World→Prop)(n:Nat)(hn:ops.size=n)(L:Array Bool)(hL:Array.replicate n false=L)(hm:P.follows .mixedOrders=true)(h:Closed .any ops L→wpAnyG P .any ops Q S g n L a w.drew):(Code.region id ops true).wp P Q a w:=by
 subst hn hL
 exact wp_region_any hm (wpAny_of_G _ _ _ _ (h (Closed.zero _)))
end
end Go.Proofs.YtdejpongekicdaaGreatDoor

/- BigE -/
namespace Go.Proofs.YtdejpongekicdaaGreatDoor

end Go.Proofs.YtdejpongekicdaaGreatDoor

/- BigF -/
namespace Go.Proofs.YtdejpongekicdaaGreatDoor

end Go.Proofs.YtdejpongekicdaaGreatDoor

/- BigG -/
namespace Go.Proofs.YtdejpongekicdaaGreatDoor

end Go.Proofs.YtdejpongekicdaaGreatDoor

/- BigH -/
namespace Go.Proofs.YtdejpongekicdaaGreatDoor

end Go.Proofs.YtdejpongekicdaaGreatDoor

/- BigS -/
namespace Go.Proofs.YtdejpongekicdaaGreatDoor

end Go.Proofs.YtdejpongekicdaaGreatDoor

/- BigT -/
namespace Go.Proofs.YtdejpongekicdaaGreatDoor

end Go.Proofs.YtdejpongekicdaaGreatDoor

/- Clip -/
namespace Go.Proofs.YtdejpongekicdaaGreatDoor

end Go.Proofs.YtdejpongekicdaaGreatDoor

/- LshN -/
namespace Go.Proofs.YtdejpongekicdaaGreatDoor

end Go.Proofs.YtdejpongekicdaaGreatDoor

/- BigV -/
namespace Go.Proofs.YtdejpongekicdaaGreatDoor

end Go.Proofs.YtdejpongekicdaaGreatDoor

/- BigY -/
namespace Go.Proofs.YtdejpongekicdaaGreatDoor

end Go.Proofs.YtdejpongekicdaaGreatDoor

/- PkW -/
namespace Go.Proofs.YtdejpongekicdaaGreatDoor
open Go.RowKit
set_option linter.unusedVariables false
set_option linter.unusedSimpArgs false
theorem zPkt:(Tryz.prog.info? 82).bind (·.zero)=some (.agg (arrI (zeros 25))):=by kernel_rfl
theorem size25:(Tryz.prog.info? 82).map (·.size)=some 25:=by kernel_rfl
theorem tab_zeros (n:Nat):tab n (fun _=>0)=zeros n:=by
 refine(tab_ext (zeros_len n) (fun i hi=>?_)).symm
 simp[zeros,nth,List.getD,hi]
def AnsP (w:World)(v:Value)(e:Ending)(w':World):Prop:=e=.returned v∧w.grownBy w' none
def UnP (w:World)(b:List Int)(e:Ending)(w':World):Prop:=e=.returned (.tuple #[.agg (arrI (unpL b)),.int .i64 (unE b)])∧w.grownBy w' none
theorem unpL_no (b:List Int)(h:unE b≠0):unpL b=zeros 25:=by unfold unpL;rw[if_neg h,tab_zeros]
def PkP (w:World)(l:List Int)(e:Ending)(w':World):Prop:=∃v',e=.returned (.tuple #[v',.int .i64 (pakE l)])∧OwnB w.heap.size w' v' (pkR l)∧w.grownBy w' none
theorem OwnB.plain {base:Nat}{w:World}{v:Value}{b:List Int}(h:OwnB base w v b):v=.slice none 0 0∨∃a n c,v=.slice (some a) n c:=by
 rcases h.2 with⟨rfl,_⟩|⟨g',cap,cur,rfl,_⟩
 ·exact .inl rfl
 ·exact .inr ⟨_,_,_,rfl⟩
theorem pkR_yes {l:List Int}(h:gudP l=true):pkR l=pkA l∧pakE l=0:=⟨if_pos h,if_pos h⟩
theorem pkR_no {l:List Int}(h:gudP l=false):pkR l=[]∧pakE l=2:=⟨if_neg (by rw[h];decide),if_neg (by rw[h];decide)⟩
end Go.Proofs.YtdejpongekicdaaGreatDoor

/- PktE -/
namespace Go.Proofs.YtdejpongekicdaaGreatDoor
open Go.RowKit
set_option linter.unusedVariables false
set_option linter.unusedSimpArgs false
set_option maxHeartbeats 4000000
theorem p4:(Tryz.prog.info? 77).map (·.size)=some 4:=by kernel_rfl
theorem conv_byts {w:World}{v:Value}{b:List Int}(h:Byts w v b)(hv:v=.slice none 0 0∨∃a n c,v=.slice (some a) n c):Sem.run Tryz.prog (convert 32 9 v) w=.ok (.string (strOfNums b)) w:=by
 obtain⟨ad,c,rfl,hc,hcell⟩:=h
 rcases hv with e|⟨a,n,c',e⟩
 ·simp only[Value.slice.injEq]at e
  obtain⟨rfl,e2,rfl⟩:=e
  rw[run_convert_bytes_nil w 32 5 Tryz.underlying32 Tryz.underlying5 _ _ 9 Tryz.underlying9,List.length_eq_zero_iff.1 e2]
  rfl
 ·simp only[Value.slice.injEq]at e
  obtain⟨rfl,rfl,rfl⟩:=e
  have hl:(loadCells a b.length).run Tryz.prog w=.ok (b.map (Value.int .u8)).toArray w:=by
   have:=run_loadCells_list (P:=Tryz.prog) w a (b.map (Value.int .u8)) (fun j v hj=>by
    have hjl:j<b.length:=by
     rcases Nat.lt_or_ge j b.length with h|h
     ·exact h
     ·simp[List.getElem?_eq_none (show(b.map (Value.int .u8)).length≤j by simpa using h)]at hj
    obtain⟨a',ea,h3⟩:=hcell (by omega)
    cases ea
    rw[h3 j hjl]
    simpa [nth,List.getD,hjl] using hj)
   simpa using this
  rw[run_convert_bytes_string w 32 9 5 _ b.length c Tryz.underlying32 Tryz.underlying5 Tryz.underlying9,run_bytesToString w _ b.length c b hl,foldl_push_bytes]
  simp[strOfNums,ByteArray.empty,ByteArray.emptyWithCapacity]
  rfl
end Go.Proofs.YtdejpongekicdaaGreatDoor

/- AppL -/
namespace Go.Proofs.YtdejpongekicdaaGreatDoor
open Go.RowKit
set_option linter.unusedVariables false
set_option linter.unusedSimpArgs false
set_option maxHeartbeats 1000000
theorem grown_some {w w':World}{r:Option Nat}(h:w.grownBy w' r)(r':Option Nat)(hr:∀g,r=some g→r'=some g∨w.heap.size≤g):w.grownBy w' r':=
 ⟨h.1,h.2,h.3,h.4,fun k hk hne=>h.5 k hk (fun e=>by rcases hr k e.symm with q|q;exact hne q.symm;omega)⟩
def Fam (base:Nat)(w:World)(vs:List (Value×List Int)):Prop:=
 (∀(i:Nat) (v:Value) (A:List Int),vs[i]?=some (v,A)→Own base w v A)∧∀(i j:Nat) (v:Value) (A:List Int) (u:Value) (B:List Int),vs[i]?=some (v,A)→vs[j]?=some (u,B)→i≠j→∀g,v.ownBlock=some g→u.ownBlock≠some g
theorem Fam.get {base:Nat}{w:World}{vs:List (Value×List Int)}(h:Fam base w vs)(i:Nat){v:Value}{A:List Int}(hi:vs[i]?=some (v,A)):Own base w v A:=h.1 i v A hi
theorem Fam.keep {base:Nat}{w w':World}{vs:List (Value×List Int)}(h:Fam base w vs)(g:w.grownBy w' none):Fam base w' vs:=⟨fun i v A hi=>(h.1 i v A hi).keep g,h.2⟩
theorem Fam.upd {base:Nat}{w w':World}{vs:List (Value×List Int)}(h:Fam base w vs)(i:Nat)(v v':Value)(A A':List Int)(hi:vs[i]?=some (v,A))(g:w.grownBy w' v.ownBlock)(o:Own base w' v' A')(n:∀g',v'.ownBlock=some g'→v.ownBlock=some g'∨w.heap.size≤g'):Fam base w' (vs.set i (v',A')):=by
 have hlen:i<vs.length:=by
  rcases Nat.lt_or_ge i vs.length with h|h
  ·exact h
  ·rw[List.getElem?_eq_none h]at hi;cases hi
 have get:∀(j:Nat) (u:Value) (B:List Int),(vs.set i (v',A'))[j]?=some (u,B)→(j=i∧u=v'∧B=A')∨(j≠i∧vs[j]?=some (u,B)):=fun j u B hj=>by
  by_cases e:j=i
  ·subst e
   rw[List.getElem?_set_self hlen]at hj
   cases hj
   exact .inl ⟨rfl,rfl,rfl⟩
  ·rw[List.getElem?_set_ne (Ne.symm e)]at hj
   exact .inr ⟨e,hj⟩
 have old:∀(j:Nat) (u:Value) (B:List Int),j≠i→vs[j]?=some (u,B)→Own base w' u B:=fun j u B hj hu=>by
  refine(h.1 j u B hu).kept g ?_
  rcases e:u.ownBlock with _|b
  ·exact .inl rfl
  ·right
   intro e'
   exact h.2 j i u B v A hu hi hj b e e'.symm
 have new:∀(j:Nat) (u:Value) (B:List Int),j≠i→vs[j]?=some (u,B)→∀g,u.ownBlock=some g→v'.ownBlock≠some g:=fun j u B hj hu k hk e=>by
  rcases n k e with q|q
  ·exact h.2 j i u B v A hu hi hj k hk q
  ·have:=((h.1 j u B hu).lt k hk).2
   omega
 refine⟨fun j u B hj=>?_,fun j k u B u2 B2 hj hk hjk g hg=>?_⟩
 ·rcases get j u B hj with⟨_,rfl,rfl⟩|⟨e,hu⟩
  ·exact o
  ·exact old j u B e hu
 ·rcases get j u B hj with⟨rfl,rfl,rfl⟩|⟨e,hu⟩<;>rcases get k u2 B2 hk with⟨rfl,rfl,rfl⟩|⟨e2,hu2⟩
  ·exact absurd rfl hjk
  ·intro q
   exact new k u2 B2 e2 hu2 g q hg
  ·exact new j u B e hu g hg
  ·exact h.2 j k u B u2 B2 hu hu2 hjk g hg
theorem Fam.put {base:Nat}{w w':World}{vs:List (Value×List Int)}(h:Fam base w vs)(i:Nat)(v':Value)(A':List Int)(hi:vs[i]?=some (.slice none 0 0,[]))(g:w.grownBy w' none)(o:Own base w' v' A')(n:∀g',v'.ownBlock=some g'→w.heap.size≤g'):Fam base w' (vs.set i (v',A')):=
 h.upd i _ v' [] A' hi g o (fun g' hg'=>.inr (n g' hg'))
theorem Fam.nil {base:Nat}{w:World}{n:Nat}:Fam base w (List.replicate n (.slice none 0 0,[])):=
 ⟨fun i v A hi=>by
  have:=(List.mem_replicate.1 (List.mem_of_getElem? hi)).2
  cases this
  exact Own_nil _ _,fun i j v A u B hi _ _ g hg=>by
  have:=(List.mem_replicate.1 (List.mem_of_getElem? hi)).2
  cases this
  cases hg⟩
end Go.Proofs.YtdejpongekicdaaGreatDoor

/- LpcA -/
namespace Go.Proofs.YtdejpongekicdaaGreatDoor
open Go.RowKit
set_option linter.unusedVariables false
set_option linter.unusedSimpArgs false
set_option maxHeartbeats 1000000
def Ans (w:World)(r:Value)(e:Ending)(w':World):Prop:=e=.returned r∧w'=w
def AnsG (w:World)(r:Value)(e:Ending)(w':World):Prop:=e=.returned r∧w.grownBy w' none
def inB (lo hi:Int)(l:List Int):Bool:=l.all fun x=>decide (lo≤x)&&decide (x≤hi)
theorem inB_iff (lo hi:Int)(l:List Int):inB lo hi l=true↔∀i,i<l.length→lo≤nth l i∧nth l i≤hi:=by
 unfold inB
 rw[all_iff]
 simp
theorem inB_no {lo hi:Int}{l:List Int}(i:Nat)(hi':i<l.length)(h:¬(lo≤nth l i∧nth l i≤hi)):inB lo hi l=false:=by
 rcases hb:inB lo hi l with _|_
 ·rfl
 ·exact absurd ((inB_iff lo hi l).1 hb i hi') h
theorem inB_steady (k:List Int):inB (-32767) 32767 k=steadyB k:=by
 unfold inB steadyB
 congr 1
 funext q
 congr 1<;>apply decide_eq_decide.2<;>omega
theorem inB_wide (k:List Int):inB (-1073741824) 1073741824 k=wideB k:=rfl
theorem inB_rng (k:List Int):inB (-2147483647) 2147483647 k=rngB k:=rfl
theorem within_any (x lo hi:Int)(w:World):Calls Tryz.prog 142 #[.int .i64 x,.int .i64 lo,.int .i64 hi] w (Ans w (.bool (decide (lo≤x)&&decide (x≤hi)))):=by
 have F:=hide (fun b (hb:(decide (lo≤x)&&decide (x≤hi))=b)=>(show Ans w (.bool (decide (lo≤x)&&decide (x≤hi))) (.returned (.bool b)) w from⟨by rw[hb],rfl⟩))
 generalize Ans w (.bool (decide (lo≤x)&&decide (x≤hi)))=T at *
 by_cases b1:lo≤x
 ·by_cases b2:x≤hi
  ·have G:=hide (F.out true (by simp[b1,b2]))
   clear F
   go_enter Tryz.func142,Tryz.ntmps142
   go_wp2_with fail
   exact G.out
  ·have G:=hide (F.out false (by simp[b1,b2]))
   clear F
   go_enter Tryz.func142,Tryz.ntmps142
   go_wp2_with fail
   exact G.out
 ·have G:=hide (F.out false (by simp[b1]))
  clear F
  go_enter Tryz.func142,Tryz.ntmps142
  go_wp2_with fail
  exact G.out
theorem allWithin_any (v:Value)(l:List Int)(lo hi:Int)(w:World)(h:Ints w v l)(hl:l.length≤1000000000000000000) :
  Calls Tryz.prog 140 #[v,.int .i64 lo,.int .i64 hi] w (Ans w (.bool (inB lo hi l))):=by
 obtain⟨ad,c,rfl,hc,hcell⟩:=h
 have Y:=hide (fun(hh:∀i,i<l.length→lo≤nth l i∧nth l i≤hi)=>(show Ans w (.bool (inB lo hi l)) (.returned (.bool true)) w from⟨by rw[(inB_iff lo hi l).2 hh],rfl⟩))
 have N:=hide (fun i (hi':i<l.length) (hh:¬(lo≤nth l i∧nth l i≤hi))=>(show Ans w (.bool (inB lo hi l)) (.returned (.bool false)) w from⟨by rw[inB_no i hi' hh],rfl⟩))
 generalize Ans w (.bool (inB lo hi l))=T at *
 go_enter Tryz.func140,Tryz.ntmps140
 go_wp2_with fail
 go_loop [8,11] (fun _ i=>∃k:Nat,i=.int .i64 k∧k≤l.length∧Hid (∀i,i<k→lo≤nth l i∧nth l i≤hi)) (fun _ i=>l.length-(intOf i).toNat)
 case atStart=>exact⟨0,rfl,Nat.zero_le _,fun i hi=>by omega⟩
 case round=>
  obtain⟨k,rfl,hk,hG⟩:=hrel
  by_cases hkl:k<l.length
  ·obtain⟨a,rfl,hv⟩:=hcell (by omega)
   have hck:=hv k hkl
   have NK:=hide (N.out k hkl)
   have GK:=hide (fun(hh:lo≤nth l k∧nth l k≤hi)=>(show ∀i,i<k+1→lo≤nth l i∧nth l i≤hi from fun i hi=>by
    rcases Nat.lt_or_ge i k with g|g
    ·exact hG.out i g
    ·obtain rfl:i=k:=by omega
     exact hh))
   clear hcell hv Y N hG
   generalize nth l k=z at *
   go_wp2_with fail
   refine(within_any z lo hi w).mono ?_
   rintro e w1 ⟨rfl,rfl⟩
   rcases hb:(decide (lo≤z)&&decide (z≤hi))with _|_
   ·have F:=hide (NK.out (fun h=>by simp[h]at hb))
    clear NK GK hb
    go_wp2_with fail
    exact F.out
   ·have F:=hide (GK.out (by simpa using hb))
    clear NK GK hb
    go_wp2_with fail
    go_round
    case rel=>exact⟨k+1,by go_num,by omega,F.out⟩
    case measure=>simp[intOf];omega
  ·obtain rfl:k=l.length:=by omega
   have F:=hide (Y.out hG.out)
   clear hcell Y N hG
   go_wp2_with fail
   exact F.out
theorem Ints_blk {w:World}{b:Nat}{T:TypeId}{rs:List Int}(h:Blk w b T rs)(c:Nat)(hc:rs.length≤c):Ints w (.slice (some ⟨b,0,none⟩) rs.length c) rs:=by
 refine⟨some ⟨b,0,none⟩,c,rfl,hc,fun _=>⟨_,rfl,fun i hi=>?_⟩⟩
 rw[Addr.add_mid,Nat.zero_add]
 exact h.cell i hi
theorem reflections_any (k:List Int)(hk:k.length=8)(w:World):Calls Tryz.prog 172 #[.agg (arrI k)] w (AnsG w (.bool (steadyB k))):=by
 have B0:=hide (Ints_blk (Blk.new w 50 k) 8 (by omega))
 rw[hk]at B0
 have G0:=hide (grown_alloc w (.cells (arrI k) 50) none)
 have A:=hide (allWithin_any (.slice (some ⟨w.heap.size,0,none⟩) 8 8) k (-32767) 32767 _ B0.out (by omega))
 rw[inB_steady]at A
 have F:=hide (show AnsG w (.bool (steadyB k)) (.returned (.bool (steadyB k))) (w.alloc (.cells (arrI k) 50))from⟨rfl,G0.out⟩)
 generalize AnsG w (.bool (steadyB k))=T at *
 generalize steadyB k=b at *
 clear B0 G0
 go_enter Tryz.func172,Tryz.ntmps172
 go_wp2_with fail
 refine A.out.mono ?_
 rintro e w1 ⟨rfl,rfl⟩
 go_wp2_with fail
 exact F.out
theorem rounded15 (x:Int)(h1:-4611686018427387904≤x)(h2:x≤4611686018427387904)(w:World):Calls Tryz.prog 173 #[.int .i64 x,.int .i64 15] w (Ans w (.int .i64 ((x+16384) / 32768))):=by
 have F:=hide (show Ans w (.int .i64 ((x+16384) / 32768)) (.returned (.int .i64 ((x+16384) / 32768))) w from⟨rfl,rfl⟩)
 generalize Ans w (.int .i64 ((x+16384) / 32768))=T at *
 go_enter Tryz.func173,Tryz.ntmps173
 go_wp2_with fail
 exact F.out
theorem rounded12 (x:Int)(h1:-4611686018427387904≤x)(h2:x≤4611686018427387904)(w:World):Calls Tryz.prog 173 #[.int .i64 x,.int .i64 12] w (Ans w (.int .i64 ((x+2048) / 4096))):=by
 have F:=hide (show Ans w (.int .i64 ((x+2048) / 4096)) (.returned (.int .i64 ((x+2048) / 4096))) w from⟨rfl,rfl⟩)
 generalize Ans w (.int .i64 ((x+2048) / 4096))=T at *
 go_enter Tryz.func173,Tryz.ntmps173
 go_wp2_with fail
 exact F.out
end Go.Proofs.YtdejpongekicdaaGreatDoor

/- SynA -/
namespace Go.Proofs.YtdejpongekicdaaGreatDoor
open Go.RowKit
set_option linter.unusedVariables false
set_option linter.unusedSimpArgs false
set_option maxHeartbeats 1000000
theorem stopped_any (x:Int)(w:World):Calls Tryz.prog 215 #[.int .i64 x] w (Ans w (.int .i64 (c16 x))):=by
 have F:=hide (show Ans w (.int .i64 (c16 x)) (.returned (.int .i64 (c16 x))) w from⟨rfl,rfl⟩)
 have S:=hide (sat16_any x w)
 generalize Ans w (.int .i64 (c16 x))=T at *
 go_enter Tryz.func215,Tryz.ntmps215
 go_wp2_with fail
 refine S.out.mono ?_
 rintro e w1 ⟨rfl,rfl⟩
 clear S
 go_wp2_with fail
 exact F.out
theorem synRounded_any (x:Int)(h1:-4611686018427387904≤x)(h2:x≤4611686018427387904)(w:World):Calls Tryz.prog 216 #[.int .i64 x] w (Ans w (.int .i64 ((x+2048) / 4096))):=by
 have F:=hide (show Ans w (.int .i64 ((x+2048) / 4096)) (.returned (.int .i64 ((x+2048) / 4096))) w from⟨rfl,rfl⟩)
 generalize Ans w (.int .i64 ((x+2048) / 4096))=T at *
 go_enter Tryz.func216,Tryz.ntmps216
 go_wp2_with fail
 exact F.out
theorem c16_out (z:Int)(h:¬(-32768≤z∧z≤32767)):¬c16 z=z:=by
 unfold c16
 split
 ·omega
 ·split<;>omega
theorem synSamples_any (v:Value)(l:List Int)(w:World)(h:Ints w v l)(hl:l.length≤1000000000000000000) :
  Calls Tryz.prog 214 #[v] w (Ans w (.bool (rightB l))):=by
 obtain⟨ad,c,rfl,hc,hcell⟩:=h
 have Y:=hide (fun(hh:∀i,i<l.length→-32768≤nth l i∧nth l i≤32767)=>(show Ans w (.bool (rightB l)) (.returned (.bool true)) w from⟨by rw[(rightB_iff l).2 hh],rfl⟩))
 have N:=hide (fun i (hi':i<l.length) (hh:¬(-32768≤nth l i∧nth l i≤32767))=>(show Ans w (.bool (rightB l)) (.returned (.bool false)) w from⟨by
  rcases hb:rightB l with _|_
  ·rfl
  ·exact absurd ((rightB_iff l).1 hb i hi') hh,rfl⟩))
 generalize Ans w (.bool (rightB l))=T at *
 go_enter Tryz.func214,Tryz.ntmps214
 go_wp2_with fail
 go_loop [7] (fun i=>∃k:Nat,i=.int .i64 k∧k≤l.length∧Hid (∀i,i<k→-32768≤nth l i∧nth l i≤32767)) (fun i=>l.length-(intOf i).toNat)
 case atStart=>exact⟨0,rfl,Nat.zero_le _,fun i hi=>by omega⟩
 case round=>
  obtain⟨k,rfl,hk,hG⟩:=hrel
  by_cases hkl:k<l.length
  ·obtain⟨a,rfl,hv⟩:=hcell (by omega)
   have hck:=hv k hkl
   have NK:=hide (N.out k hkl)
   have GK:=hide (fun(hh:-32768≤nth l k∧nth l k≤32767)=>(show ∀i,i<k+1→-32768≤nth l i∧nth l i≤32767 from fun i hi=>by
    rcases Nat.lt_or_ge i k with g|g
    ·exact hG.out i g
    ·obtain rfl:i=k:=by omega
     exact hh))
   clear hcell hv Y N hG
   generalize nth l k=z at *
   have kl1:(k:Int)<l.length:=by omega
   have ST:=hide (stopped_any z w)
   by_cases hz:-32768≤z∧z≤32767
   ·have F:=hide (GK.out hz)
    rw[c16_id z hz.1 hz.2]at ST
    clear NK GK hz
    go_wp2_with fail
    refine ST.out.mono ?_
    rintro e w1 ⟨rfl,rfl⟩
    clear ST
    go_wp2_with fail
    go_round
    case rel=>exact⟨k+1,by go_num,by omega,F.out⟩
    case measure=>simp[intOf];omega
   ·have F:=hide (NK.out hz)
    have hne:=c16_out z hz
    have hne':(c16 z==z)=false:=by simpa using hne
    generalize c16 z=y at *
    clear NK GK hz
    go_wp2_with fail
    refine ST.out.mono ?_
    rintro e w1 ⟨rfl,rfl⟩
    clear ST
    go_wp2_with fail
    exact F.out
  ·obtain rfl:k=l.length:=by omega
   have F:=hide (Y.out hG.out)
   clear hcell Y N hG
   go_wp2_with fail
   exact F.out
def prdB (a:List Int):Bool:=wide20 a&&decide (nth a 0=4096)
theorem okF_prd (a p l:List Int):okF a p l=(prdB a&&rightB p&&rightB l):=rfl
set_option maxRecDepth 100000 in
theorem predictor_any (a:List Int)(ha:a.length=9)(w:World):Calls Tryz.prog 238 #[.agg (arrI a)] w (AnsG w (.bool (prdB a))):=by
 have B0:=hide (Blk.new w 95 a)
 have G0:=hide (grown_alloc w (.cells (arrI a) 95) none)
 have IX:=hide (fun j hj=>index_arr a Tryz.underlying95 j hj ha)
 go_enter Tryz.func238,Tryz.ntmps238
 go_wp2_with (refine wpList_load_arr rfl 95 _ rfl _ rfl _ B0.out _ Tryz.underlying95 rfl (by rw[ha];exact size9') ?_)
 generalize w.alloc (.cells (arrI a) 95)=W0 at *
 go_loop [6] (fun i=>∃m:Nat,i=.int .i64 m∧m≤9∧Hid (∀j,j<m→-1048576≤nth a j∧nth a j≤1048576)) (fun i=>9-(intOf i).toNat)
 case atStart=>exact⟨0,rfl,Nat.zero_le _,fun j hj=>by omega⟩
 case round=>
  obtain⟨m,rfl,hm,hF⟩:=hrel
  by_cases hm9:m<9
  ·have ix:=IX.out m (by omega)
   have i1:(m:Int)<9:=by omega
   by_cases hx:-1048576≤nth a m∧nth a m≤1048576
   ·have NF:=hide (show ∀j,j<m+1→-1048576≤nth a j∧nth a j≤1048576 from fun j hj=>by
     by_cases h:j=m
     ·subst h;exact hx
     ·exact hF.out j (by omega))
    obtain⟨x1,x2⟩:=hx
    clear hF IX
    generalize nth a m=x at *
    go_wp2_with fail
    go_round
    case rel=>exact⟨m+1,by go_num,by omega,NF.out⟩
    case measure=>simp[intOf];omega
   ·have OK:=hide (show prdB a=false from by
     have:wide20 a=false:=by
      rcases hb:wide20 a with _|_
      ·rfl
      ·exact absurd ((wide20_iff a).1 hb m (by omega)) hx
     unfold prdB;rw[this];rfl)
    clear hF IX
    generalize nth a m=x at *
    by_cases hx1:x < -1048576
    ·go_wp2_with fail
     go_ret
     exact⟨by rw[OK.out];rfl,G0.out⟩
    ·have hx2:1048576<x:=by omega
     go_wp2_with fail
     go_ret
     exact⟨by rw[OK.out];rfl,G0.out⟩
  ·obtain rfl:m=9:=by omega
   have W20:=hide (show wide20 a=true from(wide20_iff a).2 (fun i hi=>hF.out i (by omega)))
   have c0:=B0.out.cell 0 (by omega)
   have OK:=hide (show prdB a=decide (nth a 0=4096)from by unfold prdB;rw[W20.out];rfl)
   clear hF IX B0 W20
   generalize nth a 0=x at *
   by_cases hx:x=4096
   ·subst hx
    go_wp2_with fail
    go_ret
    exact⟨by rw[OK.out];rfl,G0.out⟩
   ·have HX:=hide (decide_eq_false hx)
    have hx':(x==4096)=false:=by simpa using hx
    go_wp2_with fail
    go_ret
    exact⟨by rw[OK.out,HX.out];rfl,G0.out⟩
def gsum0 (a h:List Int)(n:Nat):Int:=gsum a h n-2048
theorem gsum0_step (a h:List Int)(n:Nat):gsum0 a h (n+1)=gsum0 a h n+nth a (n+1)*nth h n:=by
 unfold gsum0
 show gsum a h n+nth a (n+1)*nth h n-2048=_
 omega
theorem gsum0_gs (a h:List Int):(gsum0 a h 8+2048) / 4096=gs a h:=by unfold gsum0 gs;congr 1;omega
set_option maxRecDepth 100000 in
theorem pguess_any (a p:List Int)(ha:a.length=9)(hp:p.length=8)(w:World)(wa:wide20 a=true)(rp:rightB p=true) :
  Calls Tryz.prog 239 #[.agg (arrI a),.agg (arrI p)] w (AnsG w (.int .i64 (gs a p))):=by
 have L0:=hide (laid2 w 95 50 a p)
 have IX:=hide (fun j hj=>index_arr p Tryz.underlying50 j hj hp)
 have AB:=hide (nth_in a (-1048576) 1048576 (by omega) (by omega) ((wide20_iff a).1 wa))
 have PB:=hide (nth_in p _ _ (by omega) (by omega) ((rightB_iff p).1 rp))
 have SB:=hide (gsum_bd a p AB.out PB.out)
 have HS:=hide (gsum0_step a p)
 have HG:=hide (gsum0_gs a p)
 have S0:=hide (fun n=>show gsum0 a p n=gsum a p n-2048 from rfl)
 clear wa rp
 generalize gs a p=G at *
 go_enter Tryz.func239,Tryz.ntmps239
 go_wp2_with (refine wpList_load_arr rfl 50 _ rfl _ rfl _ L0.out.2.1 _ Tryz.underlying50 rfl (by rw[hp];exact size8') ?_)
 have BA:=hide L0.out.1
 have G0:=hide L0.out.2.2
 clear L0
 generalize (w.alloc (.cells (arrI a) 95)).alloc _=W0 at *
 go_loop [5,9] (fun s i=>∃m:Nat,i=.int .i64 m∧s=.int .i64 (gsum0 a p m)∧m≤8) (fun _ i=>8-(intOf i).toNat)
 case atStart=>exact⟨0,rfl,rfl,Nat.zero_le _⟩
 case round=>
  obtain⟨m,rfl,rfl,hm⟩:=hrel
  by_cases hm8:m<8
  ·have ix:=IX.out m (by omega)
   have ca:=BA.out.cell (m+1) (by omega)
   obtain⟨a1,a2⟩:=AB.out (m+1)
   obtain⟨p1,p2⟩:=PB.out m
   obtain⟨s1,s2⟩:=SB.out m
   have s0:=S0.out m
   have hs:=HS.out m
   have HS1:=hide hs
   obtain⟨q1,q2⟩:=prd20_bd _ _ a1 a2 p1 p2
   have i1:(m:Int)<8:=by omega
   have t1:-600000000000≤gsum0 a p m:=by omega
   have t2:gsum0 a p m≤600000000000:=by omega
   clear hs s0 s1 s2 IX AB PB SB HS HG S0
   generalize gsum0 a p m=S at *
   generalize nth a (m+1)=x at *
   generalize nth p m=y at *
   go_wp2_with fail
   go_round
   case rel=>exact⟨m+1,by go_num,by rw[HS1.out],by omega⟩
   case measure=>simp[intOf];omega
  ·obtain rfl:m=8:=by omega
   obtain⟨s1,s2⟩:=SB.out 8
   have s0:=S0.out 8
   have RD:=hide (fun w'=>synRounded_any (gsum0 a p 8) (by omega) (by omega) w')
   rw[HG.out]at RD
   clear s0 s1 s2 IX AB PB SB HS HG S0
   generalize gsum0 a p 8=S at *
   go_wp2_with fail
   refine(RD.out _).mono ?_
   rintro e w1 ⟨rfl,rfl⟩
   clear RD
   go_wp2_with fail
   go_ret
   exact⟨rfl,G0.out⟩
end Go.Proofs.YtdejpongekicdaaGreatDoor

/- SynB -/
namespace Go.Proofs.YtdejpongekicdaaGreatDoor
open Go.RowKit
set_option linter.unusedVariables false
set_option linter.unusedSimpArgs false
set_option maxHeartbeats 1000000
theorem grown_setRow' (w:World)(g:Nat)(cs:Array Value):w.grownBy (w.setRow g cs) (some g):=
 ⟨rfl,rfl,rfl,by simp,fun k _ h=>setRow_other w g k cs (fun e=>h (by rw[e]))⟩
theorem copy_row (p:List Int)(hp:p.length=8):((arrI p).toList.take 1++(p.take 7).map (Value.int .i64)++(arrI p).toList.drop (1+((p.take 7).map (Value.int .i64)).length)).toArray=arrI (nth p 0::p.take 7):=by
 match p,hp with
 | [a,b,c,d,e,f,g,h],_=>rfl
theorem step_copy_blk {y:Nat→Option Bool}{o:Oper}{a:Act}{w:World}{K:Act→World→Prop}{Q:Exit→Act→World→Prop}{E:Prop}(hg:o.guard=none)(d s:Operand)
  (hop:o.op=Op.call { callee:=Callee.builtin Builtin.copy,args:=#[d,s],argTypes:=#[26,26] }) (b:Nat) (T:TypeId) (p:List Int) (hb:Blk w b T p) (hp:p.length=8)
  (hd:a.eval d=.slice (some ⟨b,1,none⟩) 7 7) (hs:a.eval s=.slice (some ⟨b,0,none⟩) 8 8)
  (hK:∀w',Blk w' b T (nth p 0::p.take 7)→w.grownBy w' (some b)→K (a.put o.dst (goInt 7)) w'):if Region.wanted o y=true then Oper.wp Tryz.prog o a w K Q else E:=by
 have hw:Region.wanted o y=true:=by simp[Region.wanted,hg]
 rw[if_pos hw]
 have hsz:(Tryz.prog.info? 3).map (·.size)=some 1:=by kernel_rfl
 have hrun:=run_copy_row (P:=Tryz.prog) w 26 26 o.type 3 b 1 7 7 ⟨b,0,none⟩ 8 8 (arrI p) T ((p.take 7).map (Value.int .i64)) Tryz.underlying26 hsz hb (by simp[hp])
  (fun j v hv=>by
   have hj:j<7:=by
    by_cases hj:j<7
    ·exact hj
    ·rw[List.getElem?_eq_none (by simp;omega)]at hv;cases hv
   rw[Addr.add_mid,Nat.zero_add,hb.cell j (by omega)]
   rw[List.getElem?_map,List.getElem?_take,if_pos hj]at hv
   simpa [nth,List.getD,show j<p.length by omega] using hv)
  (by simp[arrI,hp]) (fun v hv=>by
   obtain⟨x,_,rfl⟩:=List.mem_map.1 hv
   rfl)
 rw[copy_row p hp,show((p.take 7).map (Value.int .i64)).length=7 by simp[hp]]at hrun
 unfold Oper.wp
 simp[execOp,hop,resolve,invoke,builtin,hd,hs,hrun,Result.andThen]
 exact hK _ (setRow_heap _ _ _ _ _ _ hb) (grown_setRow' _ _ _)
def aftL (p:List Int)(s:Int):List Int:=s::p.take 7
theorem aftL_len (p:List Int)(s:Int)(hp:p.length=8):(aftL p s).length=8:=by simp[aftL,hp]
theorem aft_newL (p l:List Int)(s:Int):aftL (newL p l) s=newL p (l++[s]):=by
 apply tab_ext (aftL_len _ _ (newL_len _ _))
 intro i hi
 rw[←newL_nth _ _ _ hi,newL_snoc _ _ _ _ hi]
 by_cases h0:i=0
 ·subst h0;rfl
 ·rw[if_neg h0]
  obtain⟨j,rfl⟩:∃j,i=j+1:=⟨i-1,by omega⟩
  show nth ((newL p l).take 7) j=nth (newL p l) (j+1-1)
  rw[nth_take _ _ _ (by omega),Nat.add_sub_cancel]
set_option maxRecDepth 100000 in
theorem after_any (p:List Int)(hp:p.length=8)(s:Int)(w:World) :
  Calls Tryz.prog 240 #[.agg (arrI p),.int .i64 s] w (AnsG w (.agg (arrI (aftL p s)))):=by
 have L0:=hide (laid2 w 50 50 p (zeros 8))
 rw[z8']at L0
 go_enter Tryz.func240,Tryz.ntmps240
 go_upto_region 1 with fail
 have M0:=hide (show Mem2 w _ 50 50 p (zeros 8)from L0.out)
 clear L0
 generalize (w.alloc (.cells (arrI p) 50)).alloc _=W0 at *
 refine wp_region_held_drew (S:=GrownW w) (by kernel_rfl) (grown_drew M0.out.2.2) (fun hHeld=>?_)
 refine wpAnyH_take (i:=0) (v:=.slice (some ⟨w.heap.size,1,none⟩) 7 7) rfl (by kernel_rfl) (by kernel_rfl) (by kernel_rfl) (fun _ _ _ h=>h) (Or.inl ⟨by rfl,?ya0⟩) hHeld ?ra0
 case ya0=>(intro w' hSw;go_simp;(try with_reducible rfl))
 (try simp only[Act.put,sL])
 refine wpAnyH_take (i:=1) (v:=.slice (some ⟨w.heap.size,0,none⟩) 8 8) rfl (by kernel_rfl) (by kernel_rfl) (by kernel_rfl) (fun _ _ _ h=>h) (Or.inl ⟨by rfl,?ya1⟩) hHeld ?ra1
 case ya1=>(intro w' hSw;go_simp;(try with_reducible rfl))
 (try simp only[Act.put,sL])
 refine wpAnyH_ready (rs:=[2]) (by kernel_rfl) (by simp) (AllReadyH.cons rfl (fun K hK=>?_) AllReadyH.nil)
 (try simp only[Act.put,sL])
 refine step_copy_blk rfl _ _ rfl w.heap.size 50 p (M0.out.1.keep (gw_start W0)) hp rfl rfl ?_
 intro w1 b1 g1
 have B1:=hide b1
 have G1:=hide g1
 have N0:=hide M0.out.1.lt
 have BB:=hide ((M0.out.2.1.keep (gw_start W0)).keepBut G1.out (by omega))
 have GM:=hide (grown_own hHeld G1.out (Nat.le_refl _))
 clear b1 g1 M0 G1 N0 hHeld
 refine hK.out _ _ GM.out (fun hHeld=>?_)
 clear hK
 (try simp only[Act.put,sL])
 refine wpAnyH_done (by kernel_rfl) ?_ _
 have hl1:(nth p 0::p.take 7).length=8:=by simp[hp]
 have c0:=B1.out.cell 0 (by rw[hl1];omega)
 have f0:=B1.out.free 0
 have BS:=hide (B1.out.set 0 s)
 have GS:=hide (grown_setCell w1 ⟨w.heap.size,0,none⟩ (.int .i64 s))
 have hl2:=aftL_len p s hp
 rw[show(nth p 0::p.take 7).set 0 s=aftL p s from rfl]at BS
 clear B1
 generalize nth (nth p 0::p.take 7) 0=x0 at *
 generalize aftL p s=q at *
 go_upto_region 3 with fail
 have BB2:=hide (BB.out.keepBut GS.out (by simp))
 have GM2:=hide (grown_own GM.out GS.out (by simp))
 clear BB GM GS c0 f0
 generalize w1.setCell _ _=w2 at *
 go_wp2_with (first|refine wpList_load_arr rfl 50 _ rfl _ rfl _ BS.out _ Tryz.underlying50 rfl (by rw[hl2];exact size8') ?_|refine wpList_store_arr rfl 50 _ _ rfl _ (zeros 8) q rfl rfl BB2.out (by rw[hl2,zeros_len]) (by rw[zeros_len];exact size8') ?_)
 have PU:=put_arr (rs':=q) BB2.out (by rw[hl2,zeros_len])
 have hlv:=loadVar_arr PU.1 _ Tryz.underlying50 rfl (by rw[hl2];exact size8')
 have GF:=hide (grown_own GM2.out PU.2 (by omega))
 refine bodyPost_ret (v:=.agg (arrI q)) ?_ rfl ⟨rfl,GF.out⟩
 simp[results,Tryz.results240,asAddr,Act.put,hlv]
end Go.Proofs.YtdejpongekicdaaGreatDoor

/- SynC -/
namespace Go.Proofs.YtdejpongekicdaaGreatDoor
open Go.RowKit
set_option linter.unusedVariables false
set_option linter.unusedSimpArgs false
set_option maxHeartbeats 1000000
def MkM (w wr:World)(a q:List Int)(B:Nat)(rs:List Int):Prop:=Blk wr w.heap.size 95 a∧Blk wr (w.heap.size+1) 50 q∧Blk wr (w.heap.size+1+1) 50 (zeros 8)∧Blk wr B 3 rs∧w.heap.size+1+1<B∧w.grownBy wr none
theorem MkM.keep {w wr wr':World}{a q:List Int}{B:Nat}{rs:List Int}(h:MkM w wr a q B rs)(g:wr.grownBy wr' none):MkM w wr' a q B rs:=⟨h.1.keep g,h.2.1.keep g,h.2.2.1.keep g,h.2.2.2.1.keep g,h.2.2.2.2.1,grown_none h.2.2.2.2.2 g⟩
theorem MkM.setB {w wr:World}{a q:List Int}{B:Nat}{rs:List Int}(h:MkM w wr a q B rs)(k:Nat)(z:Int):MkM w (wr.setCell ⟨B,k,none⟩ (.int .i64 z)) a q B (rs.set k z):=by
 have hB:=h.2.2.2.2.1
 have g:=grown_setCell wr ⟨B,k,none⟩ (.int .i64 z)
 exact⟨h.1.keepBut g (by simp;omega),h.2.1.keepBut g (by simp;omega),h.2.2.1.keepBut g (by simp;omega),h.2.2.2.1.set k z,hB,grown_own h.2.2.2.2.2 g (by simp;omega)⟩
theorem MkM.putQ {w wr:World}{a q q':List Int}{B:Nat}{rs:List Int}(h:MkM w wr a q B rs)(hl:q'.length=q.length):MkM w (putArr wr (w.heap.size+1) q') a q' B rs:=by
 have hB:=h.2.2.2.2.1
 have PU:=put_arr (rs':=q') h.2.1 hl
 exact⟨h.1.keepBut PU.2 (by omega),PU.1,h.2.2.1.keepBut PU.2 (by omega),h.2.2.2.1.keepBut PU.2 (by omega),hB,grown_own h.2.2.2.2.2 PU.2 (by omega)⟩
theorem own_any {w:World}{b base:Nat}{rs:List Int}(h:Blk w b 3 rs)(hb:base≤b)(hl:rs.length≤35184372088832):Own base w (.slice (some ⟨b,0,none⟩) rs.length rs.length) rs:=
 ⟨by simp,.inr ⟨b,rs.length,arrI rs,rfl,hb,h,Nat.le_refl _,by unfold maxLen;omega,by simp[arrI],by simp[arrI,List.take_of_length_le]⟩⟩
theorem self_tab (l:List Int):l=tab l.length (fun j=>nth l j):=tab_ext rfl (fun i _=>rfl)
set_option maxRecDepth 100000 in
theorem make_no (a p:List Int)(ha:a.length=9)(hp:p.length=8)(v:Value)(l:List Int)(w:World)(h:Ints w v l)(hl:l.length*8≤140737488351232)(hk:okF a p l=false) :
  Calls Tryz.prog 176 #[.agg (arrI a),.agg (arrI p),v] w (Filt w [] (zeros 8) 2):=by
 have L0:=hide (laid3 w 95 50 50 a p (zeros 8))
 rw[z8']at L0
 have hbd:=build8
 have PR:=hide (predictor_any a ha)
 have SP:=hide (fun wr (b:Blk wr (w.heap.size+1) 50 p)=>synSamples_any (.slice (some ⟨w.heap.size+1,0,none⟩) 8 8) p wr (by have:=Ints_blk b 8 (by omega);rw[hp]at this;exact this) (by omega))
 have SL:=hide (fun wr (g:w.grownBy wr none)=>synSamples_any v l wr (Ints_keep h g) (by omega))
 rw[okF_prd]at hk
 clear h
 rcases pa:prdB a with _|_
 ·rw[pa]at PR
  clear SP SL hk pa
  go_enter Tryz.func176,Tryz.ntmps176
  go_wp2_with (first|refine wpList_load_arr rfl 95 _ rfl _ rfl _ L0.out.1 _ Tryz.underlying95 rfl (by rw[ha];exact size9') ?_)
  refine(PR.out _).mono ?_
  rintro e w1 ⟨rfl,g1⟩
  have M1:=hide (Mem3.keep (show Mem3 w _ 95 50 50 a p (zeros 8)from L0.out) g1)
  clear L0 PR g1
  have BB:=hide M1.out.2.2.1
  have GM:=hide M1.out.2.2.2
  clear M1
  go_wp2_with (first|refine wpList_store_arr rfl 50 _ _ rfl _ (zeros 8) (zeros 8) rfl rfl BB.out rfl (by rw[zeros_len];exact size8') ?_)
  have PU:=put_arr (rs':=zeros 8) BB.out rfl
  have hlv:=loadVar_arr PU.1 _ Tryz.underlying50 rfl (by rw[zeros_len];exact size8')
  have GF:=hide (grown_own GM.out PU.2 (by omega))
  refine bodyPost_ret (v:=.tuple #[.slice none 0 0,.agg (arrI (zeros 8)),.int .i64 2]) ?_ rfl ⟨_,rfl,Own_nil _ _,GF.out⟩
  simp[results,Tryz.results176,asAddr,Act.put,hlv]
 ·rcases rp:rightB p with _|_
  ·rw[pa]at PR
   rw[rp]at SP
   clear SL hk pa rp
   go_enter Tryz.func176,Tryz.ntmps176
   go_wp2_with (first|refine wpList_load_arr rfl 95 _ rfl _ rfl _ L0.out.1 _ Tryz.underlying95 rfl (by rw[ha];exact size9') ?_)
   refine(PR.out _).mono ?_
   rintro e w1 ⟨rfl,g1⟩
   have M1:=hide (Mem3.keep (show Mem3 w _ 95 50 50 a p (zeros 8)from L0.out) g1)
   clear L0 PR g1
   go_wp2_with fail
   refine(SP.out _ M1.out.2.1).mono ?_
   rintro e w2 ⟨rfl,rfl⟩
   clear SP
   have BB:=hide M1.out.2.2.1
   have GM:=hide M1.out.2.2.2
   clear M1
   go_wp2_with (first|refine wpList_store_arr rfl 50 _ _ rfl _ (zeros 8) (zeros 8) rfl rfl BB.out rfl (by rw[zeros_len];exact size8') ?_)
   have PU:=put_arr (rs':=zeros 8) BB.out rfl
   have hlv:=loadVar_arr PU.1 _ Tryz.underlying50 rfl (by rw[zeros_len];exact size8')
   have GF:=hide (grown_own GM.out PU.2 (by omega))
   refine bodyPost_ret (v:=.tuple #[.slice none 0 0,.agg (arrI (zeros 8)),.int .i64 2]) ?_ rfl ⟨_,rfl,Own_nil _ _,GF.out⟩
   simp[results,Tryz.results176,asAddr,Act.put,hlv]
  ·have rl:rightB l=false:=by rw[pa,rp]at hk;simpa using hk
   rw[pa]at PR
   rw[rp]at SP
   rw[rl]at SL
   clear hk pa rp rl
   go_enter Tryz.func176,Tryz.ntmps176
   go_wp2_with (first|refine wpList_load_arr rfl 95 _ rfl _ rfl _ L0.out.1 _ Tryz.underlying95 rfl (by rw[ha];exact size9') ?_)
   refine(PR.out _).mono ?_
   rintro e w1 ⟨rfl,g1⟩
   have M1:=hide (Mem3.keep (show Mem3 w _ 95 50 50 a p (zeros 8)from L0.out) g1)
   clear L0 PR g1
   go_wp2_with fail
   refine(SP.out _ M1.out.2.1).mono ?_
   rintro e w2 ⟨rfl,rfl⟩
   clear SP
   go_wp2_with fail
   refine(SL.out _ M1.out.2.2.2).mono ?_
   rintro e w3 ⟨rfl,rfl⟩
   clear SL
   have BB:=hide M1.out.2.2.1
   have GM:=hide M1.out.2.2.2
   clear M1
   go_wp2_with (first|refine wpList_store_arr rfl 50 _ _ rfl _ (zeros 8) (zeros 8) rfl rfl BB.out rfl (by rw[zeros_len];exact size8') ?_)
   have PU:=put_arr (rs':=zeros 8) BB.out rfl
   have hlv:=loadVar_arr PU.1 _ Tryz.underlying50 rfl (by rw[zeros_len];exact size8')
   have GF:=hide (grown_own GM.out PU.2 (by omega))
   refine bodyPost_ret (v:=.tuple #[.slice none 0 0,.agg (arrI (zeros 8)),.int .i64 2]) ?_ rfl ⟨_,rfl,Own_nil _ _,GF.out⟩
   simp[results,Tryz.results176,asAddr,Act.put,hlv]
set_option maxRecDepth 100000 in
theorem make_yes (a p:List Int)(ha:a.length=9)(hp:p.length=8)(v:Value)(l:List Int)(w:World)(h:Ints w v l)(hl:l.length*8≤140737488351232)(hk:okF a p l=true) :
  Calls Tryz.prog 176 #[.agg (arrI a),.agg (arrI p),v] w (Filt w (mkN a p l l.length) (newL p (mkN a p l l.length)) 0):=by
 have L0:=hide (laid3 w 95 50 50 a p (zeros 8))
 rw[z8']at L0
 have PR:=hide (predictor_any a ha)
 have SP:=hide (fun wr (b:Blk wr (w.heap.size+1) 50 p)=>synSamples_any (.slice (some ⟨w.heap.size+1,0,none⟩) 8 8) p wr (by have:=Ints_blk b 8 (by omega);rw[hp]at this;exact this) (by omega))
 have SL:=hide (fun wr (g:w.grownBy wr none)=>synSamples_any v l wr (Ints_keep h g) (by omega))
 rw[okF_prd]at hk
 simp only[Bool.and_eq_true]at hk
 obtain⟨⟨pa,rp⟩,rl⟩:=hk
 rw[pa]at PR
 rw[rp]at SP
 rw[rl]at SL
 have wa:wide20 a=true:=by unfold prdB at pa;simp only[Bool.and_eq_true]at pa;exact pa.1
 have RL:=hide ((rightB_iff l).1 rl)
 have AB:=hide (nth_in a (-1048576) 1048576 (by omega) (by omega) ((wide20_iff a).1 wa))
 have WA:=hide wa
 have RP:=hide rp
 have RR:=hide rl
 obtain⟨ad,c,rfl,hc,hcell⟩:=h
 have HC:=hide hcell
 have hmk:=make_zeros l.length (by omega)
 clear hcell pa wa rp rl
 go_enter Tryz.func176,Tryz.ntmps176
 go_wp2_with (first|refine wpList_load_arr rfl 95 _ rfl _ rfl _ L0.out.1 _ Tryz.underlying95 rfl (by rw[ha];exact size9') ?_)
 refine(PR.out _).mono ?_
 rintro e w1 ⟨rfl,g1⟩
 have M1:=hide (Mem3.keep (show Mem3 w _ 95 50 50 a p (zeros 8)from L0.out) g1)
 clear L0 PR g1
 go_wp2_with fail
 refine(SP.out _ M1.out.2.1).mono ?_
 rintro e w2 ⟨rfl,rfl⟩
 clear SP
 go_wp2_with fail
 refine(SL.out _ M1.out.2.2.2).mono ?_
 rintro e w3 ⟨rfl,rfl⟩
 clear SL
 go_wp2_with fail
 have M0:=hide (show MkM w (w3.alloc (.cells (arrI (zeros l.length)) 3)) a p w3.heap.size (zeros l.length)from
  ⟨M1.out.1.keep (grown_alloc _ _ none),M1.out.2.1.keep (grown_alloc _ _ none),M1.out.2.2.1.keep (grown_alloc _ _ none),Blk.new w3 3 _,M1.out.2.2.1.lt,grown_none M1.out.2.2.2 (grown_alloc _ _ none)⟩)
 clear M1 hmk
 generalize w3.alloc _=W0 at *
 generalize w3.heap.size=B at *
 go_loopw [31] (fun i wr=>∃(k:Nat) (rs:List Int),i=.int .i64 k∧k≤l.length∧Hid (FillN l.length (fun j=>nth (mkN a p l l.length) j) k rs)∧Hid (MkM w wr a (newL p (mkN a p l k)) B rs)) (fun i _=>l.length-(intOf i).toNat)
 case atStart=>exact⟨0,zeros l.length,rfl,Nat.zero_le _,⟨zeros_len _,fun j hj=>by omega⟩,by rw[show newL p (mkN a p l 0)=p from newL_nil p hp];exact M0.out⟩
 case round=>
  obtain⟨k,rs,rfl,hk,hF,hM⟩:=hrel
  clear M0
  by_cases hkl:k<l.length
  ·obtain⟨ax,rfl,hv⟩:=HC.out (by omega)
   have cx:=grown_keep hM.out.2.2.2.2.2 (hv k hkl)
   obtain⟨x1,x2⟩:=RL.out k hkl
   have hlen:rs.length=l.length:=hF.out.1
   have EV:nth (mkN a p l l.length) k=c16 (nth l k-gs a (hist p (mkN a p l k))):=by
    have:=mkN_nth a p l k (l.length-(k+1))
    rw[show k+1+(l.length-(k+1))=l.length by omega]at this
    exact this
   have NF:=hide (fillN_step hF.out hkl)
   rw[EV]at NF
   have hq:=newL_len p (mkN a p l k)
   have hq':=newL_len p (mkN a p l (k+1))
   have GU:=hide (fun w'=>pguess_any a (newL p (mkN a p l k)) ha hq w' WA.out (newL_right p (mkN a p l k) RP.out (mkN_right a p l k)))
   rw[gs_newL]at GU
   obtain⟨b1,b2⟩:=gs_bd a (hist p (mkN a p l k)) AB.out (hist_right p (mkN a p l k) RP.out (mkN_right a p l k))
   have AF:=hide (fun w'=>after_any (newL p (mkN a p l k)) hq (c16 (nth l k-gs a (hist p (mkN a p l k)))) w')
   rw[aft_newL,show(mkN a p l k)++[c16 (nth l k-gs a (hist p (mkN a p l k)))]=(mkN a p l (k+1))from rfl]at AF
   clear hF EV HC AB RL RP RR WA hv
   have BA:=hide hM.out.1
   have BQ:=hide hM.out.2.1
   generalize gs a (hist p (mkN a p l k))=G at *
   generalize hqe:newL p (mkN a p l (k+1))=q' at *
   have HQ:=hide hqe
   clear hqe
   generalize newL p (mkN a p l k)=q at *
   generalize nth l k=x at *
   have ST:=hide (fun w'=>stopped_any (x-G) w')
   generalize c16 (x-G)=z at *
   have kl1:(k:Int)<l.length:=by omega
   go_wp2_with (first|refine wpList_load_arr rfl 95 _ rfl _ rfl _ BA.out _ Tryz.underlying95 rfl (by rw[ha];exact size9') ?_|refine wpList_load_arr rfl 50 _ rfl _ rfl _ BQ.out _ Tryz.underlying50 rfl (by rw[hq];exact size8') ?_)
   refine(GU.out _).mono ?_
   rintro e w4 ⟨rfl,g4⟩
   have M4:=hide (hM.out.keep g4)
   clear g4 hM GU BA BQ cx
   go_wp2_with fail
   refine(ST.out _).mono ?_
   rintro e w5 ⟨rfl,rfl⟩
   clear ST
   have cd:=M4.out.2.2.2.1.cell k (by omega)
   have fd:=M4.out.2.2.2.1.free k
   have M5:=hide (M4.out.setB k z)
   clear M4
   generalize nth rs k=y at *
   go_upto_region 8 with fail
   clear cd fd
   generalize w5.setCell _ _=W1 at *
   have HS:=hide (M5.out.keep (gw_start W1))
   refine wp_region_G 6 (fun w'=>MkM w w' a q B (rs.set k z)) 7 (by rfl) #[false,false,false,false,false,false,false] (by rfl) (by kernel_rfl) (fun hcl=>?_)
   refine wpAnyG_take (i:=0) (v:=.agg (arrI q)) rfl (by kernel_rfl) hcl (fun _ _ _ h=>h) (Or.inl ⟨by rfl,?yb0⟩) HS.out (fun hcl=>?rb0)
   case yb0=>(intro w' hSw;exact yields_load_arr rfl rfl hSw.2.1 _ Tryz.underlying50 rfl (by rw[hq];exact size8'))
   (try simp only[Act.put,sL])
   refine wpAnyG_take (i:=1) (v:=?vb1) rfl (by kernel_rfl) hcl (fun _ _ _ h=>h) (Or.inl ⟨by rfl,?yb1⟩) HS.out (fun hcl=>?rb1)
   case yb1=>(intro w' hSw;go_simp;try with_reducible rfl)
   (try simp only[Act.put,sL])
   refine wpAnyG_take (i:=2) (v:=?vb2) rfl (by kernel_rfl) hcl (fun _ _ _ h=>h) (Or.inl ⟨by rfl,?yb2⟩) HS.out (fun hcl=>?rb2)
   case yb2=>(intro w' hSw;go_simp;try with_reducible rfl)
   (try simp only[Act.put,sL])
   refine wpAnyG_take (i:=3) (v:=?vb3) rfl (by kernel_rfl) hcl (fun _ _ _ h=>h) (Or.inl ⟨by rfl,?yb3⟩) HS.out (fun hcl=>?rb3)
   case yb3=>(intro w' hSw;go_simp;try with_reducible rfl)
   (try simp only[Act.put,sL])
   refine wpAnyG_take (i:=4) (v:=.int .i64 z) rfl (by kernel_rfl) hcl (fun _ _ _ h=>h) (Or.inl ⟨by rfl,?yb4⟩) HS.out (fun hcl=>?rb4)
   case yb4=>(intro w' hSw;have cz:=hSw.2.2.2.1.cell k (by rw[List.length_set];omega);rw[nth_set_eq rs k z (by omega)]at cz;go_simp;try with_reducible rfl)
   (try simp only[Act.put,sL])
   refine wpAnyG_exec (i:=5) rfl (by kernel_rfl) hcl (fun K hK=>?_)
   (try simp only[Act.put,sL])
   go_simp
   refine(AF.out _).mono ?_
   rintro e w6 ⟨rfl,g6⟩
   have HS:=hide (MkM.keep HS.out g6)
   clear g6 AF
   go_wp2_with fail
   refine hK.out _ _ (fun _=>HS.out) (fun hcl=>?_)
   clear hK
   (try simp only[Act.put,sL])
   refine wpAnyG_exec (i:=6) rfl (by kernel_rfl) hcl (fun K hK=>?_)
   (try simp only[Act.put,sL])
   refine step_store_arr rfl 50 _ _ rfl (w.heap.size+1) q q' rfl rfl HS.out.2.1 (by rw[hq',hq]) (by rw[hq];exact size8') ?_
   have M8:=hide (HS.out.putQ (q':=q') (by rw[hq',hq]))
   refine hK.out _ _ (fun h=>by cases h) (fun hcl=>?_)
   clear hK HS M5
   (try simp only[Act.put,sL])
   generalize putArr w6 (w.heap.size+1) q'=w7 at *
   refine wpAnyG_of_any _ _ _ _ (by rfl) ?_
   refine wpAny_done (by kernel_rfl) ?_ _
   go_wp2_with fail
   go_roundw
   case rel=>exact⟨k+1,_,by go_num,by omega,NF.out,by rw[HQ.out];exact M8.out⟩
   case measure=>simp[intOf];omega
  ·obtain rfl:k=l.length:=by omega
   have EL:=hide (show rs=mkN a p l l.length from by
    have h1:=fillN_all hF.out
    have h2:=self_tab (mkN a p l l.length)
    rw[mkN_len]at h2
    exact h1.trans h2.symm)
   have hlen:rs.length=l.length:=hF.out.1
   have hq:=newL_len p (mkN a p l l.length)
   clear hF HC AB RL RP RR WA
   generalize hqe:newL p (mkN a p l l.length)=q at *
   have HQ:=hide hqe
   clear hqe
   go_upto_region 10 with fail
   refine wp_region_held_drew (S:=fun w'=>Blk w' (w.heap.size+1) 50 q) (by kernel_rfl) (hM.out.2.1.keep (gw_start _)) (fun hHeld=>?_)
   refine wpAnyH_take (i:=0) (v:=?ve0) rfl (by kernel_rfl) (by kernel_rfl) (by kernel_rfl) (fun _ _ _ h=>h) (Or.inl ⟨by rfl,?ye0⟩) hHeld ?re0
   case ye0=>(intro w' hSw;go_simp;(try with_reducible rfl))
   (try simp only[Act.put,sL])
   refine wpAnyH_take (i:=1) (v:=.agg (arrI q)) rfl (by kernel_rfl) (by kernel_rfl) (by kernel_rfl) (fun _ _ _ h=>h) (Or.inl ⟨by rfl,?ye1⟩) hHeld ?re1
   case ye1=>(intro w' hSw;exact yields_load_arr rfl rfl hSw _ Tryz.underlying50 rfl (by rw[hq];exact size8'))
   (try simp only[Act.put,sL])
   refine wpAnyH_take (i:=2) (v:=?ve2) rfl (by kernel_rfl) (by kernel_rfl) (by kernel_rfl) (fun _ _ _ h=>h) (Or.inl ⟨by rfl,?ye2⟩) hHeld ?re2
   case ye2=>(intro w' hSw;go_simp;(try with_reducible rfl))
   (try simp only[Act.put,sL])
   refine wpAnyH_ready (rs:=[3]) (by kernel_rfl) (by simp) (AllReadyH.cons rfl (fun K hK=>?_) AllReadyH.nil)
   (try simp only[Act.put,sL])
   have HS:=hide (hM.out.keep (gw_start _))
   refine step_store_arr rfl 50 _ _ rfl (w.heap.size+1+1) (zeros 8) q rfl rfl HS.out.2.2.1 (by rw[hq,zeros_len]) (by rw[zeros_len];exact size8') ?_
   have PU:=put_arr (rs':=q) HS.out.2.2.1 (by rw[hq,zeros_len])
   have BZ:=hide PU.1
   have GF:=hide (grown_own HS.out.2.2.2.2.2 PU.2 (by omega))
   have hB:=HS.out.2.2.2.2.1
   have OF:=hide (own_any (base:=w.heap.size) (HS.out.2.2.2.1.keepBut PU.2 (by omega)) (by omega) (by omega))
   rw[hlen,EL.out]at OF
   have BQ:=hide (HS.out.2.1.keepBut PU.2 (by omega))
   clear HS PU hM
   generalize putArr _ (w.heap.size+1+1) q=w7 at *
   refine hK.out _ _ BQ.out (fun hHeld=>?_)
   clear hK
   (try simp only[Act.put,sL])
   refine wpAnyH_take (i:=4) (v:=?ve4) rfl (by kernel_rfl) (by kernel_rfl) (by kernel_rfl) (fun _ _ _ h=>h) (Or.inl ⟨by rfl,?ye4⟩) hHeld ?re4
   case ye4=>(intro w' hSw;go_simp;(try with_reducible rfl))
   (try simp only[Act.put,sL])
   refine wpAnyH_done (by kernel_rfl) ?_ _
   clear hHeld
   have hlv:=loadVar_arr BZ.out _ Tryz.underlying50 rfl (by rw[hq];exact size8')
   go_wp2_with fail
   refine bodyPost_ret (v:=.tuple #[_,.agg (arrI q),.int .i64 0]) ?_ rfl ⟨_,rfl,OF.out,GF.out⟩
   simp[results,Tryz.results176,asAddr,Act.put,hlv]
theorem make_any (a p:List Int)(ha:a.length=9)(hp:p.length=8)(v:Value)(l:List Int)(w:World)(h:Ints w v l)(hsh:Shp v l)(hl:l.length*8≤140737488351232) :
  Calls Tryz.prog 176 #[.agg (arrI a),.agg (arrI p),v] w (Filt w (mkL a p l) (mkP a p l) (fiE a p l)):=by
 rcases hk:okF a p l with _|_
 ·rw[show mkL a p l=[] by unfold mkL;rw[hk];rfl,show mkP a p l=zeros 8 by unfold mkP;rw[hk];rfl,show fiE a p l=2 by unfold fiE;rw[hk];rfl]
  exact make_no a p ha hp v l w h hl hk
 ·rw[show mkL a p l=mkN a p l l.length from if_pos hk,show mkP a p l=newL p (mkN a p l l.length)from if_pos hk,show fiE a p l=0 from if_pos hk]
  exact make_yes a p ha hp v l w h hl hk
end Go.Proofs.YtdejpongekicdaaGreatDoor

/- Syn -/
namespace Go.Proofs.YtdejpongekicdaaGreatDoor
open Go.RowKit
set_option linter.unusedVariables false
set_option linter.unusedSimpArgs false
set_option maxHeartbeats 1000000
theorem size80':(Tryz.prog.info? 51).map (·.size)=some 80:=by kernel_rfl
theorem ints_pre {w:World}{b:Nat}{T:TypeId}{rs:List Int}(h:Blk w b T rs)(k c:Nat)(hk:k≤rs.length)(hc:k≤c):Ints w (.slice (some ⟨b,0,none⟩) k c) (rs.take k):=by
 have e:(rs.take k).length=k:=by simp;omega
 refine⟨some ⟨b,0,none⟩,c,by rw[e],by rw[e];exact hc,fun _=>⟨_,rfl,fun i hi=>?_⟩⟩
 rw[e]at hi
 rw[Addr.add_mid,Nat.zero_add,h.cell i (by omega),nth_take _ _ _ hi]
theorem oneL_take (n:Nat)(hn:n≤80):(oneL 80).take n=oneL n:=by
 apply tab_ext (by unfold oneL;simp[tab_len];omega)
 intro i hi
 rw[nth_take _ _ _ hi]
 unfold oneL
 rw[tab_nth _ _ _ (by omega)]
def RgS (W0:World)(L:List Int)(en:Int)(s7 s9:Value)(wx:World):Prop:=s9=.int .i64 en∧Own W0.heap.size wx s7 L∧W0.grownBy wx none
theorem ring_no (a:List Int)(n:Int)(hn:¬(0≤n∧n≤80))(w:World) :
  Calls Tryz.prog 148 #[.agg (arrI a),.int .i64 n] w (ListE w [] 1):=by
 have G0:=hide (grown_alloc w (.cells (arrI a) 95) none)
 by_cases h1:n<0
 ·go_enter Tryz.func148,Tryz.ntmps148
  go_wp2_with fail
  go_ret2
  exact⟨_,rfl,Own_nil _ _,G0.out⟩
 ·have h2:80<n:=by omega
  go_enter Tryz.func148,Tryz.ntmps148
  go_wp2_with fail
  go_ret2
  exact⟨_,rfl,Own_nil _ _,G0.out⟩
set_option maxRecDepth 100000 in
theorem ring_yes (a:List Int)(ha:a.length=9)(n:Nat)(hn:n≤80)(w:World) :
  Calls Tryz.prog 148 #[.agg (arrI a),.int .i64 n] w (ListE w (mkL a (zeros 8) (oneL n)) (fiE a (zeros 8) (oneL n))):=by
 have B0:=hide (Blk.new w 95 a)
 have G0:=hide (grown_alloc w (.cells (arrI a) 95) none)
 have h1l:(oneL n).length=n:=tab_len _ _
 have h80:(oneL 80).length=80:=tab_len _ _
 have hset:(arrI (zeros 80)).setIfInBounds 0 (.int .i64 4096)=arrI (oneL 80):=by rw[arrI_set,one_set 80 (by omega)]
 have hz80:=zero_arr (T:=51) (n:=80) (by kernel_rfl)
 have MK:=hide (fun wr v (h:Ints wr v (oneL n)) (s:Shp v (oneL n))=>make_any a (zeros 8) ha (zeros_len 8) v (oneL n) wr h s (by rw[h1l];omega))
 have hq:=mkP_len a (zeros 8) (oneL n)
 have IP:=hide (fun wr b (h:Blk wr b 51 (oneL 80))=>show Ints wr (.slice (some ⟨b,0,none⟩) n 80) (oneL n)from by have:=ints_pre h n 80 (by rw[h80];exact hn) hn;rw[oneL_take n hn]at this;exact this)
 have SP:=hide (fun b=>show Shp (.slice (some ⟨b,0,none⟩) n 80) (oneL n)from .inr ⟨_,_,by rw[h1l]⟩)
 generalize mkL a (zeros 8) (oneL n)=L at *
 generalize fiE a (zeros 8) (oneL n)=en at *
 generalize mkP a (zeros 8) (oneL n)=P at *
 generalize oneL 80=X at *
 have i1:(n:Int)≤80:=by omega
 have i2:¬(n:Int)<0:=by omega
 have i3:¬(80:Int)<n:=by omega
 go_enter Tryz.func148,Tryz.ntmps148
 obtain⟨f1,f2,f3⟩:=fresh_arr (w.alloc (.cells (arrI a) 95)) 51 80 X h80
 rw[show(w.alloc (.cells (arrI a) 95)).heap.size=w.heap.size+1 by simp]at f1 f2 f3
 have F1:=hide f1
 have BX:=hide f2
 have BA:=hide (B0.out.keep f3)
 have GW:=hide (grown_none G0.out f3)
 clear f1 f2 f3 B0 G0
 go_upto_region 4 with(first|refine wpList_store_arr rfl 51 _ _ rfl _ (zeros 80) X rfl rfl F1.out (by rw[h80,zeros_len]) (by rw[zeros_len];exact size80') ?_)
 clear F1 hset hz80
 generalize putArr _ (w.heap.size+1) X=W0 at *
 generalize w.heap.size+1=B at *
 have IN:=hide (fun wr (g:GrownW W0 wr)=>IP.out wr B (BX.out.keep g))
 have SH:=hide (SP.out B)
 clear IP SP BX
 (try simp only[Act.put])
 go_cut [7,9]from 10 (fun s7 s9 wx=>RgS W0 L en s7 s9 wx)
 case first=>
  refine wp_region_held_drew (S:=GrownW W0) (by kernel_rfl) (gw_start _) (fun hHeld=>?_)
  refine wpAnyH_take (i:=0) (v:=.agg (arrI a)) rfl (by kernel_rfl) (by kernel_rfl) (by kernel_rfl) (fun _ _ _ h=>h) (Or.inl ⟨by rfl,?yrg1⟩) hHeld ?rrg1
  case yrg1=>(intro w' hSw;exact yields_load_arr rfl rfl (BA.out.keep hSw) _ Tryz.underlying95 rfl (by rw[ha];exact size9'))
  (try simp only[Act.put,sL])
  refine wpAnyH_take (i:=1) (v:=.agg (arrI (zeros 8))) rfl (by kernel_rfl) (by kernel_rfl) (by kernel_rfl) (fun _ _ _ h=>h) (Or.inl ⟨by rfl,?yrg2⟩) hHeld ?rrg2
  case yrg2=>(intro w' hSw;go_simp;exact z8'.symm)
  (try simp only[Act.put,sL])
  refine wpAnyH_take (i:=2) (v:=?vrg3) rfl (by kernel_rfl) (by kernel_rfl) (by kernel_rfl) (fun _ _ _ h=>h) (Or.inl ⟨by rfl,?yrg3⟩) hHeld ?rrg3
  case yrg3=>(intro w' hSw;go_simp;(try with_reducible rfl))
  (try simp only[Act.put,sL])
  refine wpAnyH_take (i:=3) (v:=(.slice (some ⟨B,0,none⟩) n 80)) rfl (by kernel_rfl) (by kernel_rfl) (by kernel_rfl) (fun _ _ _ h=>h) (Or.inl ⟨by rfl,?yrg4⟩) hHeld ?rrg4
  case yrg4=>(intro w' hSw;go_simp;(try with_reducible rfl))
  (try simp only[Act.put,sL])
  refine wpAnyH_ready (rs:=[4,9]) (by kernel_rfl) (by simp) (AllReadyH.cons rfl (fun K hK=>?grg5) (AllReadyH.cons rfl (fun K hK=>?grg6) AllReadyH.nil))
  case grg5=>
   (try simp only[Act.put,sL])
   go_simp
   refine(MK.out _ _ (IN.out _ hHeld) SH.out).mono ?_
   rintro e wrg7 ⟨vx,rfl,ox,grg7⟩
   have Grg7:=hide grg7
   have OX:=hide (ox.base (b':=W0.heap.size) (World.grownBy.size hHeld))
   clear grg7 ox
   go_wp2_with fail
   refine hK.out _ _ (gw_trans hHeld Grg7.out) (fun hHeld=>?_)
   clear hK
   (try simp only[Act.put,sL])
   refine wpAnyH_take (i:=5) (v:=?vrg8) rfl (by kernel_rfl) (by kernel_rfl) (by kernel_rfl) (fun _ _ _ h=>h) (Or.inl ⟨by rfl,?yrg8⟩) hHeld ?rrg8
   case yrg8=>(intro w' hSw;go_simp;(try with_reducible rfl))
   (try simp only[Act.put,sL])
   refine wpAnyH_take (i:=6) (v:=?vrg9) rfl (by kernel_rfl) (by kernel_rfl) (by kernel_rfl) (fun _ _ _ h=>h) (Or.inl ⟨by rfl,?yrg9⟩) hHeld ?rrg9
   case yrg9=>(intro w' hSw;go_simp;(try with_reducible rfl))
   (try simp only[Act.put,sL])
   refine wpAnyH_take (i:=7) (v:=?vrg10) rfl (by kernel_rfl) (by kernel_rfl) (by kernel_rfl) (fun _ _ _ h=>h) (Or.inl ⟨by rfl,?yrg10⟩) hHeld ?rrg10
   case yrg10=>(intro w' hSw;go_simp;(try with_reducible rfl))
   (try simp only[Act.put,sL])
   refine wpAnyH_take (i:=8) (v:=?vrg11) rfl (by kernel_rfl) (by kernel_rfl) (by kernel_rfl) (fun _ _ _ h=>h) (Or.inl ⟨by rfl,?yrg11⟩) hHeld ?rrg11
   case yrg11=>(intro w' hSw;go_simp;(try with_reducible rfl))
   (try simp only[Act.put,sL])
   refine wpAnyH_ready (rs:=[9]) (by kernel_rfl) (by simp) (AllReadyH.cons rfl (fun K hK=>?_) AllReadyH.nil)
   (try simp only[Act.put,sL])
   go_simp
   go_wp2_with fail
   have HB:=hide (show W0.heap.size≤wrg7.heap.size from by first|exact Nat.le_refl _|exact World.grownBy.size hHeld)
   refine hK.out _ _ (gw_alloc hHeld (.cells #[.int .i64 0,.int .i64 0,.int .i64 0,.int .i64 0,.int .i64 0,.int .i64 0,.int .i64 0,.int .i64 0] 50)) (fun hHeld=>?_)
   clear hK
   have HZ:=hide (show Blk (wrg7.alloc (.cells #[.int .i64 0,.int .i64 0,.int .i64 0,.int .i64 0,.int .i64 0,.int .i64 0,.int .i64 0,.int .i64 0] 50)) wrg7.heap.size 50 (zeros 8)from Blk.new wrg7 50 (zeros 8))
   have OX:=hide (OX.out.keep (grown_alloc wrg7 (.cells #[.int .i64 0,.int .i64 0,.int .i64 0,.int .i64 0,.int .i64 0,.int .i64 0,.int .i64 0,.int .i64 0] 50) none))
   generalize wrg7.alloc (.cells #[.int .i64 0,.int .i64 0,.int .i64 0,.int .i64 0,.int .i64 0,.int .i64 0,.int .i64 0,.int .i64 0] 50)=wzrg12 at *
   (try simp only[Act.put,sL])
   refine wpAnyH_take (i:=10) (v:=?vrg13) rfl (by kernel_rfl) (by kernel_rfl) (by kernel_rfl) (fun _ _ _ h=>h) (Or.inl ⟨by rfl,?yrg13⟩) hHeld ?rrg13
   case yrg13=>(intro w' hSw;go_simp;(try with_reducible rfl))
   (try simp only[Act.put,sL])
   refine wpAnyH_ready (rs:=[11]) (by kernel_rfl) (by simp) (AllReadyH.cons rfl (fun K hK=>?_) AllReadyH.nil)
   (try simp only[Act.put,sL])
   refine step_store_arr rfl 50 _ _ rfl (wrg7.heap.size) (zeros 8) P rfl rfl HZ.out (by rw[hq,zeros_len]) (by rw[zeros_len];exact size8') ?_
   have PU:=put_arr (rs':=P) HZ.out (by rw[hq,zeros_len])
   refine hK.out _ _ (gw_own hHeld PU.2 HB.out) (fun hHeld=>?_)
   clear hK
   have OX:=hide (OX.out.keepBut PU.2 HZ.out (by decide))
   (try simp only[Act.put,sL])
   refine wpAnyH_take (i:=12) (v:=?vrg15) rfl (by kernel_rfl) (by kernel_rfl) (by kernel_rfl) (fun _ _ _ h=>h) (Or.inl ⟨by rfl,?yrg15⟩) hHeld ?rrg15
   case yrg15=>(intro w' hSw;go_simp;(try with_reducible rfl))
   (try simp only[Act.put,sL])
   refine wpAnyH_done (by kernel_rfl) ?_ _
   go_wp2_with fail
   go_meet
   exact⟨rfl,OX.out,hHeld⟩
  case grg6=>
   (try simp only[Act.put,sL])
   go_simp
   go_wp2_with fail
   have HB:=hide (show W0.heap.size≤W0.heap.size from by first|exact Nat.le_refl _|exact World.grownBy.size hHeld)
   refine hK.out _ _ (gw_alloc hHeld (.cells #[.int .i64 0,.int .i64 0,.int .i64 0,.int .i64 0,.int .i64 0,.int .i64 0,.int .i64 0,.int .i64 0] 50)) (fun hHeld=>?_)
   clear hK
   have HZ:=hide (show Blk ((W0.alloc (.cells #[.int .i64 0,.int .i64 0,.int .i64 0,.int .i64 0,.int .i64 0,.int .i64 0,.int .i64 0,.int .i64 0] 50)).drew) W0.heap.size 50 (zeros 8)from Blk.new W0.drew 50 (zeros 8))
   generalize (W0.alloc (.cells #[.int .i64 0,.int .i64 0,.int .i64 0,.int .i64 0,.int .i64 0,.int .i64 0,.int .i64 0,.int .i64 0] 50)).drew=wzrg16 at *
   (try simp only[Act.put,sL])
   refine wpAnyH_ready (rs:=[4]) (by kernel_rfl) (by simp) (AllReadyH.cons rfl (fun K hK=>?_) AllReadyH.nil)
   (try simp only[Act.put,sL])
   go_simp
   refine(MK.out _ _ (IN.out _ hHeld) SH.out).mono ?_
   rintro e wrg17 ⟨vx,rfl,ox,grg17⟩
   have Grg17:=hide grg17
   have OX:=hide (ox.base (b':=W0.heap.size) (World.grownBy.size hHeld))
   clear grg17 ox
   go_wp2_with fail
   refine hK.out _ _ (gw_trans hHeld Grg17.out) (fun hHeld=>?_)
   clear hK
   have HZ:=hide (HZ.out.keep Grg17.out)
   (try simp only[Act.put,sL])
   refine wpAnyH_take (i:=5) (v:=?vrg18) rfl (by kernel_rfl) (by kernel_rfl) (by kernel_rfl) (fun _ _ _ h=>h) (Or.inl ⟨by rfl,?yrg18⟩) hHeld ?rrg18
   case yrg18=>(intro w' hSw;go_simp;(try with_reducible rfl))
   (try simp only[Act.put,sL])
   refine wpAnyH_take (i:=6) (v:=?vrg19) rfl (by kernel_rfl) (by kernel_rfl) (by kernel_rfl) (fun _ _ _ h=>h) (Or.inl ⟨by rfl,?yrg19⟩) hHeld ?rrg19
   case yrg19=>(intro w' hSw;go_simp;(try with_reducible rfl))
   (try simp only[Act.put,sL])
   refine wpAnyH_take (i:=7) (v:=?vrg20) rfl (by kernel_rfl) (by kernel_rfl) (by kernel_rfl) (fun _ _ _ h=>h) (Or.inl ⟨by rfl,?yrg20⟩) hHeld ?rrg20
   case yrg20=>(intro w' hSw;go_simp;(try with_reducible rfl))
   (try simp only[Act.put,sL])
   refine wpAnyH_take (i:=8) (v:=?vrg21) rfl (by kernel_rfl) (by kernel_rfl) (by kernel_rfl) (fun _ _ _ h=>h) (Or.inl ⟨by rfl,?yrg21⟩) hHeld ?rrg21
   case yrg21=>(intro w' hSw;go_simp;(try with_reducible rfl))
   (try simp only[Act.put,sL])
   refine wpAnyH_take (i:=10) (v:=?vrg22) rfl (by kernel_rfl) (by kernel_rfl) (by kernel_rfl) (fun _ _ _ h=>h) (Or.inl ⟨by rfl,?yrg22⟩) hHeld ?rrg22
   case yrg22=>(intro w' hSw;go_simp;(try with_reducible rfl))
   (try simp only[Act.put,sL])
   refine wpAnyH_ready (rs:=[11]) (by kernel_rfl) (by simp) (AllReadyH.cons rfl (fun K hK=>?_) AllReadyH.nil)
   (try simp only[Act.put,sL])
   refine step_store_arr rfl 50 _ _ rfl (W0.heap.size) (zeros 8) P rfl rfl HZ.out (by rw[hq,zeros_len]) (by rw[zeros_len];exact size8') ?_
   have PU:=put_arr (rs':=P) HZ.out (by rw[hq,zeros_len])
   refine hK.out _ _ (gw_own hHeld PU.2 HB.out) (fun hHeld=>?_)
   clear hK
   have OX:=hide (OX.out.keepBut PU.2 HZ.out (by decide))
   (try simp only[Act.put,sL])
   refine wpAnyH_take (i:=12) (v:=?vrg24) rfl (by kernel_rfl) (by kernel_rfl) (by kernel_rfl) (fun _ _ _ h=>h) (Or.inl ⟨by rfl,?yrg24⟩) hHeld ?rrg24
   case yrg24=>(intro w' hSw;go_simp;(try with_reducible rfl))
   (try simp only[Act.put,sL])
   refine wpAnyH_done (by kernel_rfl) ?_ _
   go_wp2_with fail
   go_meet
   exact⟨rfl,OX.out,hHeld⟩
 case rest=>
 obtain⟨rfl,o1,g1⟩:=hcut
 have OO:=hide (o1.base (b':=w.heap.size) (World.grownBy.size GW.out))
 have GG:=hide (grown_none GW.out g1)
 clear o1 g1 BA GW MK IN SH
 go_wp2_with fail
 go_ret2
 exact⟨_,rfl,OO.out,GG.out⟩
theorem ring_any (a:List Int)(ha:a.length=9)(n:Int)(w:World) :
  Calls Tryz.prog 148 #[.agg (arrI a),.int .i64 n] w (ListE w (rgL a n) (rgE a n)):=by
 by_cases hn:0≤n∧n≤80
 ·rw[show rgL a n=mkL a (zeros 8) (oneL n.toNat)from if_pos hn,show rgE a n=fiE a (zeros 8) (oneL n.toNat)from if_pos hn]
  have e:n=(n.toNat:Int):=by omega
  have:=ring_yes a ha n.toNat (by omega) w
  rw[←e]at this
  exact this
 ·rw[show rgL a n=[]from if_neg hn,show rgE a n=1 from if_neg hn]
  exact ring_no a n hn w
theorem fold_size (v u:Value)(r l:List Int)(w:World)(hr:Ints w v r)(hl:Ints w u l)(hs:sizeO r l=false)(br:r.length≤1000000000000000000)(bl:l.length≤1000000000000000000) :
  Calls Tryz.prog 150 #[v,u] w (ListE w [] 1):=by
 obtain⟨ad,c,rfl,hc,_⟩:=hr
 obtain⟨ad',c',rfl,hc',_⟩:=hl
 have G0:=hide (grown_refl w none)
 by_cases h1:r.length=l.length
 ·have h2:¬l.length≤80:=by
   intro h;unfold sizeO at hs;simp[h1,h]at hs
  have h3:(80:Int)<l.length:=by omega
  rw[h1]
  clear hs h1
  go_enter Tryz.func150,Tryz.ntmps150
  go_wp2_with fail
  go_ret2
  exact⟨_,rfl,Own_nil _ _,G0.out⟩
 ·have h3:¬(r.length:Int)=l.length:=by omega
  clear hs
  go_enter Tryz.func150,Tryz.ntmps150
  go_wp2_with fail
  go_ret2
  exact⟨_,rfl,Own_nil _ _,G0.out⟩
theorem fold_range (v u:Value)(r l:List Int)(w:World)(hr:Ints w v r)(hl:Ints w u l)(h1:r.length=l.length)(h2:l.length≤80)(hk:okO r l=false) :
  Calls Tryz.prog 150 #[v,u] w (ListE w [] 2):=by
 have R1:=hide (synSamples_any v r w hr (by omega))
 have R2:=hide (synSamples_any u l w hl (by omega))
 obtain⟨ad,c,rfl,hc,_⟩:=hr
 obtain⟨ad',c',rfl,hc',_⟩:=hl
 have G0:=hide (grown_refl w none)
 have h3:(l.length:Int)≤80:=by omega
 rw[h1]at R1 ⊢
 clear h1
 rcases h:rightB r with _|_
 ·rw[h]at R1
  clear R2 h hk
  go_enter Tryz.func150,Tryz.ntmps150
  go_wp2_with fail
  refine R1.out.mono ?_
  rintro e w1 ⟨rfl,rfl⟩
  go_wp2_with fail
  go_ret2
  exact⟨_,rfl,Own_nil _ _,G0.out⟩
 ·have h':rightB l=false:=by unfold okO at hk;rw[h]at hk;simpa using hk
  rw[h]at R1
  rw[h']at R2
  clear h h' hk
  go_enter Tryz.func150,Tryz.ntmps150
  go_wp2_with fail
  refine R1.out.mono ?_
  rintro e w1 ⟨rfl,rfl⟩
  go_wp2_with fail
  refine R2.out.mono ?_
  rintro e w1 ⟨rfl,rfl⟩
  go_wp2_with fail
  go_ret2
  exact⟨_,rfl,Own_nil _ _,G0.out⟩
def foP (r l:List Int)(n m:Nat):Int:=sumT (fun i=>nth r i*nth l (n-i)) m
theorem foP_step (r l:List Int)(n m:Nat):foP r l n (m+1)=foP r l n m+nth r m*nth l (n-m):=rfl
theorem foP_bd (r l:List Int)(hr:∀i,-32768≤nth r i∧nth r i≤32767)(hl:∀i,-32768≤nth l i∧nth l i≤32767)(n m:Nat)(hm:m≤80):-90000000000≤foP r l n m∧foP r l n m≤90000000000:=by
 have:=sumT_bd (fun i=>nth r i*nth l (n-i)) (fun i=>p16_bd _ _ (hr i).1 (hr i).2 (hl _).1 (hl _).2) m
 unfold foP
 omega
set_option maxRecDepth 100000 in
theorem fold_yes (v u:Value)(r l:List Int)(w:World)(hr:Ints w v r)(hl:Ints w u l)(h1:r.length=l.length)(h2:l.length≤80)(kr:rightB r=true)(kl:rightB l=true) :
  Calls Tryz.prog 150 #[v,u] w (ListE w (tab l.length (foV r l)) 0):=by
 have R1:=hide (synSamples_any v r w hr (by omega))
 have R2:=hide (synSamples_any u l w hl (by omega))
 rw[kr]at R1
 rw[kl]at R2
 have RB:=hide (nth_in r _ _ (by omega) (by omega) ((rightB_iff r).1 kr))
 have LB:=hide (nth_in l _ _ (by omega) (by omega) ((rightB_iff l).1 kl))
 have HR:=hide hr
 obtain⟨ad,c,rfl,hc,hcr⟩:=hr
 obtain⟨ad',c',rfl,hc',hcl⟩:=hl
 have CR:=hide hcr
 have CL:=hide hcl
 have M0:=hide (show Mem1 w (w.alloc (.cells (arrI (zeros l.length)) 3)) 3 (zeros l.length)from⟨Blk.new w 3 (zeros l.length),grown_alloc _ _ none⟩)
 have hmk:=make_zeros l.length (by omega)
 have h3:(l.length:Int)≤80:=by omega
 have HL:=hide h1
 rw[h1]at R1 hc CR HR ⊢
 clear hcr hcl kr kl h1
 generalize hN:l.length=N at *
 have HN:=hide hN
 clear hN
 go_enter Tryz.func150,Tryz.ntmps150
 go_wp2_with fail
 refine R1.out.mono ?_
 rintro e w1 ⟨rfl,rfl⟩
 go_wp2_with fail
 refine R2.out.mono ?_
 rintro e w2 ⟨rfl,rfl⟩
 clear R1 R2
 go_wp2_with fail
 clear hmk
 generalize w2.alloc (.cells (arrI (zeros N)) 3)=W0 at *
 go_loopw [34] (fun s34 wr=>∃(n:Nat) (rs:List Int),s34=.int .i64 n∧n≤N∧Hid (FillN N (foV r l) n rs)∧Hid (Mem1 w2 wr 3 rs)) (fun s34 _=>N-(intOf s34).toNat)
 case atStart=>exact⟨0,zeros N,rfl,Nat.zero_le _,⟨zeros_len N,fun j hj=>by omega⟩,M0.out⟩
 case round=>
  obtain⟨n,rs,rfl,hn,hF,hM⟩:=hrel
  clear M0
  by_cases hnN:n<N
  ·obtain⟨al,rfl,hv⟩:=CL.out (by omega)
   obtain⟨ar,rfl,hvr⟩:=CR.out (by have:=HL.out;omega)
   have HVL:=hide hv
   have n1:(n:Int)<N:=by omega
   have n2:(n:Int)+1≤N:=by omega
   have DI:decide ((n:Int)<N)=true:=by simp;omega
   obtain⟨vA,hA,iA,sA⟩:=slice_h HR.out (.inr ⟨ar,c,by rw[HL.out]⟩) (n+1) (by have:=HL.out;omega)
   rw[show((n+1:Nat):Int)=(n:Int)+1 by omega]at hA
   obtain⟨aA,cA,rfl,hcA,hvA⟩:=iA
   have hlA:(r.take (n+1)).length=n+1:=by have:=HL.out;simp;omega
   rw[hlA]at hA hcA hvA
   obtain⟨aa,rfl,hva⟩:=hvA (by omega)
   have HVA:=hide hva
   clear hv hvr hvA hva sA CL CR
   have S0:=hide (show(0:Int)=foP r l n 0 from rfl)
   go_wp2_with fail
   go_loop [8,42] (fun s8 s42=>∃m:Nat,s42=.int .i64 m∧s8=.int .i64 (foP r l n m)∧m≤n+1) (fun _ s42=>n+1-(intOf s42).toNat)
   case atStart=>exact⟨0,rfl,by rw[←S0.out],Nat.zero_le _⟩
   case round=>
    obtain⟨m,rfl,rfl,hm⟩:=hrel
    by_cases hmn:m<n+1
    ·have cr:=grown_keep hM.out.2 (HVA.out m hmn)
     rw[nth_take _ _ _ hmn]at cr
     have cl:=grown_keep hM.out.2 (HVL.out (n-m) (by omega))
     obtain⟨x1,x2⟩:=RB.out m
     obtain⟨y1,y2⟩:=LB.out (n-m)
     obtain⟨p1,p2⟩:=p16_bd _ _ x1 x2 y1 y2
     obtain⟨s1,s2⟩:=foP_bd r l RB.out LB.out n m (by omega)
     have ES:=hide (foP_step r l n m)
     have m1:(m:Int)<n+1:=by omega
     have hJ:(n:Int)-(m:Int)=((n-m:Nat):Int):=by omega
     have j1:n-m<N:=by omega
     clear RB LB HVA HVL hF HR HL HN
     generalize nth r m=x at *
     generalize nth l (n-m)=y at *
     generalize foP r l n m=S at *
     generalize n-m=J at *
     go_wp2_with fail
     go_round
     case rel=>exact⟨m+1,by go_num,by rw[ES.out],by omega⟩
     case measure=>simp[intOf];omega
    ·obtain rfl:m=n+1:=by omega
     obtain⟨s1,s2⟩:=foP_bd r l RB.out LB.out n (n+1) (by omega)
     have RD:=hide (fun w'=>synRounded_any (foP r l n (n+1)) (by omega) (by omega) w')
     have ST:=hide (fun w'=>stopped_any ((foP r l n (n+1)+2048) / 4096) w')
     have EV:c16 ((foP r l n (n+1)+2048) / 4096)=foV r l n:=rfl
     rw[EV]at ST
     have hlen:rs.length=N:=hF.out.1
     have NF:=hide (fillN_step hF.out hnN)
     have cd:=hM.out.1.cell n (by omega)
     have fd:=hM.out.1.free n
     have NM:=hide (hM.out.set n (foV r l n))
     clear EV hF hM HVA HVL s1 s2
     generalize foV r l n=z at *
     generalize (foP r l n (n+1)+2048) / 4096=y at *
     generalize foP r l n (n+1)=S at *
     generalize nth rs n=q at *
     go_wp2_with fail
     refine(RD.out _).mono ?_
     rintro e w3 ⟨rfl,rfl⟩
     clear RD
     go_wp2_with fail
     refine(ST.out _).mono ?_
     rintro e w4 ⟨rfl,rfl⟩
     clear ST
     go_wp2_with fail
     go_roundw
     case rel=>exact⟨n+1,_,by go_num,by omega,NF.out,NM.out⟩
     case measure=>simp[intOf];omega
  ·obtain rfl:n=N:=by omega
   have EL:=hide (show rs=tab n (foV r l)from fillN_all hF.out)
   have hlen:rs.length=n:=hF.out.1
   have OF:=own_any hM.out.1 (Nat.le_refl _) (by omega)
   rw[hlen]at OF
   have GF:=hide hM.out.2
   have OO:=hide OF
   clear hF RB LB CR CL HR hM OF
   go_wp2_with fail
   go_ret2
   rw[EL.out]at OO
   exact⟨_,rfl,OO.out,GF.out⟩
theorem fold_any (v u:Value)(r l:List Int)(w:World)(hr:Ints w v r)(hl:Ints w u l)(br:r.length≤1000000000000000000)(bl:l.length≤1000000000000000000) :
  Calls Tryz.prog 150 #[v,u] w (ListE w (foL r l) (foE r l)):=by
 rcases hs:sizeO r l with _|_
 ·rw[show foL r l=[] by unfold foL;rw[hs];simp,show foE r l=1 by unfold foE;rw[hs];rfl]
  exact fold_size v u r l w hr hl hs br bl
 ·have hs':=hs
  unfold sizeO at hs'
  simp only[Bool.and_eq_true,decide_eq_true_eq]at hs'
  rcases hk:okO r l with _|_
  ·rw[show foL r l=[] by unfold foL;rw[hk];simp,show foE r l=2 by unfold foE;rw[hs,hk];rfl]
   exact fold_range v u r l w hr hl hs'.1 hs'.2 hk
  ·rw[show foL r l=tab l.length (foV r l) by unfold foL;rw[if_pos ⟨hs,hk⟩],show foE r l=0 by unfold foE;rw[hs,hk];rfl]
   unfold okO at hk
   simp only[Bool.and_eq_true]at hk
   exact fold_yes v u r l w hr hl hs'.1 hs'.2 hk.1 hk.2
end Go.Proofs.YtdejpongekicdaaGreatDoor

/- BaseB -/
namespace Go.Proofs.YtdejpongekicdaaGreatDoor

end Go.Proofs.YtdejpongekicdaaGreatDoor

/- KeepL -/
namespace Go.Proofs.YtdejpongekicdaaGreatDoor
open Go.RowKit
set_option linter.unusedVariables false
set_option linter.unusedSimpArgs false
set_option maxHeartbeats 1000000
theorem list_sameK (a b : List Int) (hl : a.length = b.length) (h : ∀ j, j < b.length → nth a j = nth b j) : decide (a = b) = true := by
 apply decide_eq_true
 apply List.ext_getElem hl
 intro i h1 h2
 have := h i h2
 simpa [nth, List.getD, h1, h2] using this
end Go.Proofs.YtdejpongekicdaaGreatDoor

/- OrderF -/
namespace Go.Proofs.YtdejpongekicdaaGreatDoor
set_option linter.unusedVariables false
section
variable {P:Program} {ops:Array Oper} {Q:Exit→Act→World→Prop} {md:Region.Mode} {S:World→Prop} {g:Nat}
theorem wpAnyG_still {i:Nat}{oi:Oper}{v:Value}(hi:ops[i]?=some oi)(hsel:∀(j:Nat) (o:Oper) cs b,ops[j]?=some o→o.op≠.select cs b)
  (hQ:∀c a w,Q (.panic c) (a.put oi.dst v) w→Q (.panic c) a w) (hgi:g≠i) (fuel:Nat) :
  ∀(listed:Array Bool) (a:Act) (w:World),Alone md ops i oi listed→i∈Region.ready md ops listed→YieldsIf P ops (fun _=>True) oi v a→(listed.getD g false=false→S w)→
   wpAnyG P md ops Q S g fuel (listed.setIfInBounds i true) (a.put oi.dst v) w→wpAnyG P md ops Q S g (fuel+1) listed a w:=by
 have here:∀(listed:Array Bool) (w:World),(listed.getD g false=false→S w)→((listed.setIfInBounds i true).getD g false=false→S w):=fun listed w h e=>h (by rw[getD_set_ne false (Ne.symm hgi)]at e;exact e)
 induction fuel with
 | zero=>
  intro listed a w _ hr hy hS H
  constructor
  ·intro h0;rw[h0]at hr;cases hr
  ·intro j hj
   rcases Nat.decEq j i with hji|rfl
   ·have hnone:=ready_mono hj hji
    rw[H.1]at hnone;cases hnone
   ·exact hy.wpOp hi trivial ⟨here _ _ hS,H⟩
 | succ fuel ih=>
  intro listed a w hal hr hy hS H
  have hiun:=getD_both (mem_ready.1 hr).1
  constructor
  ·intro h0;rw[h0]at hr;cases hr
  ·intro j hj
   rcases Nat.decEq j i with hji|rfl
   ·obtain⟨hjun,oj,hoj,-⟩:=mem_ready.1 hj
    have step:=wpOp_putIf hoj (hal j oj hoj hji hjun (ready_free hiun hj hoj)) (fun cs b=>hsel i oi cs b hi) (fun cs b=>hsel j oj cs b hoj) hQ hy (H.2 j (ready_mono hj hji))
    refine wpOp_mono (fun a' w' k=>?_) step
    obtain⟨ky,ks,kw⟩:=k
    rw[Array.setIfInBounds_comm _ _ (Ne.symm hji)]at kw ks
    have ks':(listed.setIfInBounds j true).getD g false=false→S w':=fun e=>ks (by rw[getD_set_ne false (Ne.symm hgi)];exact e)
    exact⟨ks',ih _ a' w' hal.more (ready_mono hr (Ne.symm hji)) ky ks' kw⟩
   ·exact hy.wpOp hi trivial ⟨here _ _ hS,H⟩
theorem wpAnyG_takeF {i:Nat}{oi:Oper}{v:Value}{fuel:Nat}{listed:Array Bool}{a:Act}{w:World}(hi:ops[i]?=some oi)
  (hst:(Region.noSelect ops&&Region.free md ops listed i&&(Region.ready md ops listed).contains i&&g != i)=true)
  (hcl:Closed md ops listed)
  (hQ:∀c a w,Q (.panic c) (a.put oi.dst v) w→Q (.panic c) a w) (hy:YieldsIf P ops (fun _=>True) oi v a) (hS:S w)
  (h:Closed md ops (listed.setIfInBounds i true)→wpAnyG P md ops Q S g fuel (listed.setIfInBounds i true) (a.put oi.dst v) w):wpAnyG P md ops Q S g (fuel+1) listed a w:=by
 simp only[Bool.and_eq_true,bne_iff_ne]at hst
 obtain⟨⟨⟨h1,h2⟩,h3⟩,h5⟩:=hst
 have h3':i∈Region.ready md ops listed:=by simpa using h3
 exact wpAnyG_still hi (Region.noSelect_spec h1) hQ h5 fuel listed a w (Region.free_spec hi h2) h3' hy (fun _=>hS) (h (hcl.set h3'))
end
end Go.Proofs.YtdejpongekicdaaGreatDoor

/- MemS -/
namespace Go.Proofs.YtdejpongekicdaaGreatDoor
open Go.RowKit
set_option linter.unusedVariables false
set_option linter.unusedSimpArgs false
def MmS (w:World)(l:List Int)(s:Bool)(wr:World):Prop:=BlkM wr w.heap.size l s∧BlkM wr (w.heap.size+1) (zeros 101) false∧w.grownBy wr none
theorem MmS.new (w:World)(l:List Int)(s:Bool):MmS w l s ((w.alloc (.cells (memC l s).toArray 53)).alloc (.cells (memC (zeros 101) false).toArray 53)):=by
 refine⟨(BlkM.new w l s).keep (grown_alloc _ _ none),?_,grown_none (grown_alloc _ _ none) (grown_alloc _ _ none)⟩
 have:=BlkM.new (w.alloc (.cells (memC l s).toArray 53)) (zeros 101) false
 simpa using this
theorem MmS.keep {w:World}{l:List Int}{s:Bool}{wr wr':World}(h:MmS w l s wr)(g:wr.grownBy wr' none):MmS w l s wr':=⟨h.1.keep g,h.2.1.keep g,grown_none h.2.2 g⟩
theorem MmS.set {w:World}{l:List Int}{s:Bool}{wr:World}(h:MmS w l s wr)(k:Nat)(z:Int)(hk:k<l.length):MmS w (l.set k z) s (wr.setCell ⟨w.heap.size,k,none⟩ (.int .i64 z)):=
 ⟨h.1.set k z hk,h.2.1.keepBut (grown_setCell wr ⟨w.heap.size,k,none⟩ _) (by simp),grown_own h.2.2 (grown_setCell wr ⟨w.heap.size,k,none⟩ _) (Nat.le_refl _)⟩
theorem MmS.put {w:World}{l:List Int}{s:Bool}{wr:World}(h:MmS w l s wr)(o:Nat)(M:List Int)(hl:o+M.length≤l.length):MmS w (ovr l o M) s (putV wr w.heap.size o (intsV M)):=by
 have:=h.1.put o M hl
 exact⟨this.1,h.2.1.keepBut this.2 (by omega),grown_own h.2.2 this.2 (Nat.le_refl _)⟩
theorem MmS.fin {w:World}{l:List Int}{s:Bool}{wr:World}(h:MmS w l s wr)(m:List Int)(t:Bool)(hm:m.length=101):BlkM (putV wr (w.heap.size+1) 0 (memC m t)) (w.heap.size+1) m t∧w.grownBy (putV wr (w.heap.size+1) 0 (memC m t)) none:=by
 have:=h.2.1.putAll (m:=m) (t:=t) (zeros_len 101) hm
 exact⟨this.1,grown_own h.2.2 this.2 (by omega)⟩
theorem set_self (l:List Int)(k:Nat)(h:k<l.length):l.set k (nth l k)=l:=by
 apply List.ext_getElem?
 intro i
 rw[List.getElem?_set]
 by_cases e:k=i
 ·subst e;simp[h,nth,List.getD]
 ·simp[e]
theorem prt_set (l:List Int)(k:Nat)(z:Int)(o n:Nat)(hk:k<l.length)(h:k<o∨o+n≤k):prt (l.set k z) o n=prt l o n:=by
 refine tab_ext (prt_len _ _ _) (fun i hi=>?_)
 rw[prt_nth _ _ _ _ hi,setN _ _ _ hk,if_neg (by omega)]
end Go.Proofs.YtdejpongekicdaaGreatDoor

/- CodW -/
namespace Go.Proofs.YtdejpongekicdaaGreatDoor
open Go.RowKit
set_option linter.unusedVariables false
set_option linter.unusedSimpArgs false
def MmL (w:World)(m:List Int)(s:Bool)(L:List Int)(e:Ending)(w':World):Prop:=∃v',e=.returned (.tuple #[memV m s,v'])∧Own w.heap.size w' v' L∧w.grownBy w' none
theorem ints_partC (u:List Int)(o n:Nat)(h:o+n≤u.length):((intsV u).drop o).take n=intsV (prt u o n):=by
 have:=mixC_part u [] o n h
 unfold mixC at this
 rwa [List.append_nil]at this
theorem ints_getC (u:List Int)(i:Nat)(h:i<u.length):(intsV u)[i]?=some (.int .i64 (nth u i)):=by
 have:=mixC_get u [] i h
 unfold mixC at this
 rwa [List.append_nil]at this
theorem ints_splC (u M:List Int)(o:Nat)(h:o+M.length≤u.length):splV (intsV u) o (intsV M)=intsV (ovr u o M):=by
 have:=mixC_spl u [] o M h
 unfold mixC at this
 rwa [List.append_nil,List.append_nil]at this
theorem putI {w:World}{b:Nat}{T:TypeId}{u:List Int}(h:BlkV w b T (intsV u))(o:Nat)(M:List Int)(hl:o+M.length≤u.length):BlkV (putV w b o (intsV M)) b T (intsV (ovr u o M))∧w.grownBy (putV w b o (intsV M)) (some b):=by
 have:=put_v h o (intsV M) (by rw[intsV_len,intsV_len];omega)
 rw[ints_splC _ _ _ hl]at this
 exact this
theorem BlkV.ofBlk {w:World}{b:Nat}{T:TypeId}{u:List Int}(h:Blk w b T u):BlkV w b T (intsV u):=h
theorem BlkV.toBlk {w:World}{b:Nat}{T:TypeId}{u:List Int}(h:BlkV w b T (intsV u)):Blk w b T u:=h
theorem BlkM.own {w w':World}{b:Nat}{l:List Int}{s:Bool}{r:Option Nat}(h:BlkM w b l s)(g:w.grownBy w' r)(hr:∀x,r=some x→b≠x):BlkM w' b l s:=by
 rcases r with _|x
 ·exact h.keep g
 ·exact h.keepBut g (hr x rfl)
theorem BlkV.own {w w':World}{b:Nat}{T:TypeId}{cs:List Value}{r:Option Nat}(h:BlkV w b T cs)(g:w.grownBy w' r)(hr:∀x,r=some x→b≠x):BlkV w' b T cs:=by
 rcases r with _|x
 ·exact h.keep g
 ·exact h.keepBut g (hr x rfl)
def QuM (w:World)(T:TypeId)(u:List Int)(l:List Int)(s:Bool)(wr:World):Prop:=BlkM wr w.heap.size l s∧BlkV wr (w.heap.size+1) T (intsV u)∧BlkM wr (w.heap.size+1+1) (zeros 101) false∧w.grownBy wr none
theorem QuM.new (w:World)(T:TypeId)(u l:List Int)(s:Bool):QuM w T u l s (((w.alloc (.cells (memC l s).toArray 53)).alloc (.cells (arrI u) T)).alloc (.cells (memC (zeros 101) false).toArray 53)):=by
 refine⟨((BlkM.new w l s).keep (grown_alloc _ _ none)).keep (grown_alloc _ _ none),?_,?_,grown_none (grown_none (grown_alloc _ _ none) (grown_alloc _ _ none)) (grown_alloc _ _ none)⟩
 ·have:=(BlkV.new (w.alloc (.cells (memC l s).toArray 53)) T (intsV u)).keep (grown_alloc _ (.cells (memC (zeros 101) false).toArray 53) none)
  rw[intsV_arr]at this
  simpa using this
 ·have:=BlkM.new ((w.alloc (.cells (memC l s).toArray 53)).alloc (.cells (arrI u) T)) (zeros 101) false
  simpa using this
theorem QuM.keep {w:World}{T:TypeId}{u l:List Int}{s:Bool}{wr wr':World}(h:QuM w T u l s wr)(g:wr.grownBy wr' none):QuM w T u l s wr':=⟨h.1.keep g,h.2.1.keep g,h.2.2.1.keep g,grown_none h.2.2.2 g⟩
theorem QuM.own {w:World}{T:TypeId}{u l:List Int}{s:Bool}{wr wr':World}{r:Option Nat}(h:QuM w T u l s wr)(g:wr.grownBy wr' r)(hr:∀x,r=some x→w.heap.size+1+1+1≤x):QuM w T u l s wr':=by
 rcases r with _|x
 ·exact h.keep g
 ·have:=hr x rfl
  exact⟨h.1.keepBut g (by omega),h.2.1.keepBut g (by omega),h.2.2.1.keepBut g (by omega),grown_own h.2.2.2 g (by omega)⟩
theorem QuM.mem {w:World}{T:TypeId}{u l m:List Int}{s t:Bool}{wr wr':World}(h:QuM w T u l s wr)(hb:BlkM wr' w.heap.size m t)(g:wr.grownBy wr' (some w.heap.size)):QuM w T u m t wr':=⟨hb,h.2.1.keepBut g (by omega),h.2.2.1.keepBut g (by omega),grown_own h.2.2.2 g (Nat.le_refl _)⟩
theorem QuM.all {w:World}{T:TypeId}{u l m:List Int}{s t:Bool}{wr:World}(h:QuM w T u l s wr)(hl:l.length=101)(hm:m.length=101):QuM w T u m t (putV wr w.heap.size 0 (memC m t))∧wr.grownBy (putV wr w.heap.size 0 (memC m t)) (some w.heap.size):=by
 have:=h.1.putAll (m:=m) (t:=t) hl hm
 exact⟨h.mem this.1 this.2,this.2⟩
theorem QuM.put {w:World}{T:TypeId}{u l:List Int}{s:Bool}{wr:World}(h:QuM w T u l s wr)(o:Nat)(M:List Int)(hl:o+M.length≤l.length):QuM w T u (ovr l o M) s (putV wr w.heap.size o (intsV M))∧wr.grownBy (putV wr w.heap.size o (intsV M)) (some w.heap.size):=by
 have:=h.1.put o M hl
 exact⟨h.mem this.1 this.2,this.2⟩
theorem QuM.fin {w:World}{T:TypeId}{u l:List Int}{s:Bool}{wr:World}(h:QuM w T u l s wr)(m:List Int)(t:Bool)(hm:m.length=101):BlkM (putV wr (w.heap.size+1+1) 0 (memC m t)) (w.heap.size+1+1) m t∧w.grownBy (putV wr (w.heap.size+1+1) 0 (memC m t)) none∧wr.grownBy (putV wr (w.heap.size+1+1) 0 (memC m t)) (some (w.heap.size+1+1)):=by
 have:=h.2.2.1.putAll (m:=m) (t:=t) (zeros_len 101) hm
 exact⟨this.1,grown_own h.2.2.2 this.2 (by omega),this.2⟩
end Go.Proofs.YtdejpongekicdaaGreatDoor

/- LpcB -/
namespace Go.Proofs.YtdejpongekicdaaGreatDoor
open Go.RowKit
set_option linter.unusedVariables false
set_option linter.unusedSimpArgs false
set_option maxHeartbeats 1000000
theorem tdiv4_in (S:Int)(h1:-262144≤S)(h2:S≤262144):-262144≤S.tdiv 4∧S.tdiv 4≤262144:=by
 rcases Int.le_total 0 S with h|h
 ·rw[Int.tdiv_eq_ediv_of_nonneg h];omega
 ·have e:S.tdiv 4=-((-S).tdiv 4):=by rw[Int.neg_tdiv];omega
  rw[e,Int.tdiv_eq_ediv_of_nonneg (by omega)];omega
set_option maxRecDepth 100000 in
theorem mix_no0 (a b:List Int)(num:Int)(hn:¬(0≤num∧num≤4))(w:World):Calls Tryz.prog 147 #[.agg (arrI a),.agg (arrI b),.int .i64 num] w (ArrE w (zeros 8) 2):=by
 have L0:=hide (laid3 w 50 50 50 a b (zeros 8))
 rw[z8']at L0
 have hbd:=build8
 have W:=hide (within_any num 0 4)
 rw[show(decide (0≤num)&&decide (num≤4))=false by simp;omega]at W
 go_enter Tryz.func147,Tryz.ntmps147
 go_wp2_with fail
 refine(W.out _).mono ?_
 rintro e w1 ⟨rfl,rfl⟩
 have BB:=hide L0.out.2.2.1
 have GM:=hide L0.out.2.2.2
 clear L0 W
 go_wp2_with (first|refine wpList_store_arr rfl 50 _ _ rfl _ (zeros 8) (zeros 8) rfl rfl BB.out rfl (by rw[zeros_len];exact size8') ?_)
 have PU:=put_arr (rs':=zeros 8) BB.out rfl
 have hlv:=loadVar_arr PU.1 _ Tryz.underlying50 rfl (by rw[zeros_len];exact size8')
 have GF:=hide (grown_own GM.out PU.2 (by omega))
 refine bodyPost_ret (v:=.tuple #[.agg (arrI (zeros 8)),.int .i64 2]) ?_ rfl ⟨rfl,GF.out⟩
 simp[results,Tryz.results147,asAddr,Act.put,hlv]
set_option maxRecDepth 100000 in
theorem mix_no1 (a b:List Int)(ha:a.length=8)(num:Int)(hn:0≤num∧num≤4)(sa:steadyB a=false)(w:World):Calls Tryz.prog 147 #[.agg (arrI a),.agg (arrI b),.int .i64 num] w (ArrE w (zeros 8) 2):=by
 have L0:=hide (laid3 w 50 50 50 a b (zeros 8))
 rw[z8']at L0
 have hbd:=build8
 have W:=hide (within_any num 0 4)
 rw[show(decide (0≤num)&&decide (num≤4))=true by simp;omega]at W
 have SA:=hide (reflections_any a ha)
 rw[sa]at SA
 go_enter Tryz.func147,Tryz.ntmps147
 go_wp2_with fail
 refine(W.out _).mono ?_
 rintro e w1 ⟨rfl,rfl⟩
 clear W
 go_wp2_with (first|refine wpList_load_arrG (by first|rfl|(simp[Region.wanted,yielded];omega)) 50 _ rfl _ rfl _ L0.out.1 _ Tryz.underlying50 rfl (by rw[ha];exact size8') ?_)
 refine(SA.out _).mono ?_
 rintro e w1 ⟨rfl,g1⟩
 have BB:=hide (L0.out.2.2.1.keep g1)
 have GM:=hide (grown_none L0.out.2.2.2 g1)
 clear L0 g1 SA
 go_wp2_with (first|refine wpList_store_arr rfl 50 _ _ rfl _ (zeros 8) (zeros 8) rfl rfl BB.out rfl (by rw[zeros_len];exact size8') ?_)
 have PU:=put_arr (rs':=zeros 8) BB.out rfl
 have hlv:=loadVar_arr PU.1 _ Tryz.underlying50 rfl (by rw[zeros_len];exact size8')
 have GF:=hide (grown_own GM.out PU.2 (by omega))
 refine bodyPost_ret (v:=.tuple #[.agg (arrI (zeros 8)),.int .i64 2]) ?_ rfl ⟨rfl,GF.out⟩
 simp[results,Tryz.results147,asAddr,Act.put,hlv]
set_option maxRecDepth 100000 in
theorem mix_no2 (a b:List Int)(ha:a.length=8)(hb:b.length=8)(num:Int)(hn:0≤num∧num≤4)(sa:steadyB a=true)(sb:steadyB b=false)(w:World):Calls Tryz.prog 147 #[.agg (arrI a),.agg (arrI b),.int .i64 num] w (ArrE w (zeros 8) 2):=by
 have L0:=hide (laid3 w 50 50 50 a b (zeros 8))
 rw[z8']at L0
 have hbd:=build8
 have W:=hide (within_any num 0 4)
 rw[show(decide (0≤num)&&decide (num≤4))=true by simp;omega]at W
 have SA:=hide (reflections_any a ha)
 have SB:=hide (reflections_any b hb)
 rw[sa]at SA
 rw[sb]at SB
 go_enter Tryz.func147,Tryz.ntmps147
 go_wp2_with fail
 refine(W.out _).mono ?_
 rintro e w1 ⟨rfl,rfl⟩
 clear W
 go_wp2_with (first|refine wpList_load_arrG (by first|rfl|(simp[Region.wanted,yielded];omega)) 50 _ rfl _ rfl _ L0.out.1 _ Tryz.underlying50 rfl (by rw[ha];exact size8') ?_)
 refine(SA.out _).mono ?_
 rintro e w1 ⟨rfl,g1⟩
 have L1:=hide (L0.out.2.1.keep g1)
 have B1:=hide (L0.out.2.2.1.keep g1)
 have G1:=hide (grown_none L0.out.2.2.2 g1)
 clear L0 g1 SA
 go_wp2_with (first|refine wpList_load_arrG (by first|rfl|(simp[Region.wanted,yielded];omega)) 50 _ rfl _ rfl _ L1.out _ Tryz.underlying50 rfl (by rw[hb];exact size8') ?_)
 refine(SB.out _).mono ?_
 rintro e w2 ⟨rfl,g2⟩
 have BB:=hide (B1.out.keep g2)
 have GM:=hide (grown_none G1.out g2)
 clear L1 B1 G1 g2 SB
 go_wp2_with (first|refine wpList_store_arr rfl 50 _ _ rfl _ (zeros 8) (zeros 8) rfl rfl BB.out rfl (by rw[zeros_len];exact size8') ?_)
 have PU:=put_arr (rs':=zeros 8) BB.out rfl
 have hlv:=loadVar_arr PU.1 _ Tryz.underlying50 rfl (by rw[zeros_len];exact size8')
 have GF:=hide (grown_own GM.out PU.2 (by omega))
 refine bodyPost_ret (v:=.tuple #[.agg (arrI (zeros 8)),.int .i64 2]) ?_ rfl ⟨rfl,GF.out⟩
 simp[results,Tryz.results147,asAddr,Act.put,hlv]
set_option maxRecDepth 100000 in
theorem mix_yes (a b:List Int)(ha:a.length=8)(hb:b.length=8)(num:Int)(n0:0≤num)(n4:num≤4)(sa:steadyB a=true)(sb:steadyB b=true)(w:World):Calls Tryz.prog 147 #[.agg (arrI a),.agg (arrI b),.int .i64 num] w (ArrE w (mixL a b num) (mixE a b num)):=by
 have L0:=hide (laid3 w 50 50 50 a b (zeros 8))
 rw[z8']at L0
 have W:=hide (within_any num 0 4)
 rw[show(decide (0≤num)&&decide (num≤4))=true by simp;omega]at W
 have SA:=hide (reflections_any a ha)
 have SB:=hide (reflections_any b hb)
 rw[sa]at SA
 rw[sb]at SB
 have IX:=hide (fun j hj=>index_arr a Tryz.underlying50 j hj ha)
 go_enter Tryz.func147,Tryz.ntmps147
 go_wp2_with fail
 refine(W.out _).mono ?_
 rintro e w1 ⟨rfl,rfl⟩
 clear W
 go_wp2_with (first|refine wpList_load_arrG (by first|rfl|(simp[Region.wanted,yielded];omega)) 50 _ rfl _ rfl _ L0.out.1 _ Tryz.underlying50 rfl (by rw[ha];exact size8') ?_)
 refine(SA.out _).mono ?_
 rintro e w1 ⟨rfl,g1⟩
 have M1:=hide (show Mem3 w w1 50 50 50 a b (zeros 8)from Mem3.keep L0.out g1)
 clear L0 g1 SA
 go_wp2_with (first|refine wpList_load_arrG (by first|rfl|(simp[Region.wanted,yielded];omega)) 50 _ rfl _ rfl _ M1.out.2.1 _ Tryz.underlying50 rfl (by rw[hb];exact size8') ?_)
 refine(SB.out _).mono ?_
 rintro e w2 ⟨rfl,g2⟩
 have M2:=hide (M1.out.keep g2)
 clear M1 g2 SB
 go_wp2_with (refine wpList_load_arr rfl 50 _ rfl _ rfl _ M2.out.1 _ Tryz.underlying50 rfl (by rw[ha];exact size8') ?_)
 have SY:=hide ((steadyB_iff a).1 sa)
 have SZ:=hide ((steadyB_iff b).1 sb)
 have OK:=hide (show okM a b num=true by unfold okM;simp[n0,n4,sa,sb])
 clear sa sb
 go_loopw [25] (fun i wr=>∃(m:Nat) (rs:List Int),i=.int .i64 m∧m≤8∧Hid (FillN 8 (mixN a b num) m rs)∧Hid (Mem3 w wr 50 50 50 rs b (zeros 8))) (fun i _=>8-(intOf i).toNat)
 case atStart=>exact⟨0,a,rfl,Nat.zero_le _,⟨ha,fun j hj=>by omega⟩,M2.out⟩
 case round=>
  obtain⟨m,rs,rfl,hm,hF,hM⟩:=hrel
  clear M2
  by_cases hm8:m<8
  ·have ix:=IX.out m (by omega)
   have cb:=hM.out.2.1.cell m (by omega)
   obtain⟨a1,a2⟩:=SY.out m (by omega)
   obtain⟨b1,b2⟩:=SZ.out m (by omega)
   have hlen:rs.length=8:=hF.out.1
   have NF:=hide (fillN_step hF.out hm8)
   have MX:=hide (show mixN a b num m=(nth a m*(4-num)+nth b m*num).tdiv 4 from rfl)
   have cd:=hM.out.1.cell m (by omega)
   have fd:=hM.out.1.free m
   have NM:=hide (hM.out.set m (mixN a b num m))
   clear hF OK SY SZ hM IX
   generalize mixN a b num m=z at *
   generalize nth a m=x at *
   generalize nth b m=y at *
   generalize nth rs m=y' at *
   have i0:(0:Int)≤m:=by omega
   have i1:(m:Int)<8:=by omega
   have e1:-131072≤x*(4-num)∧x*(4-num)≤131072:=by
    have h:num=0∨num=1∨num=2∨num=3∨num=4:=by omega
    rcases h with rfl|rfl|rfl|rfl|rfl<;>omega
   have e2:-131072≤y*num∧y*num≤131072:=by
    have h:num=0∨num=1∨num=2∨num=3∨num=4:=by omega
    rcases h with rfl|rfl|rfl|rfl|rfl<;>omega
   obtain⟨e11,e12⟩:=e1
   obtain⟨e21,e22⟩:=e2
   have hq:=tdiv4_in (x*(4-num)+y*num) (by omega) (by omega)
   obtain⟨q1,q2⟩:=hq
   go_wp2_with fail
   rw[←MX.out]
   go_roundw
   case rel=>exact⟨m+1,_,by go_num,by omega,NF.out,NM.out⟩
   case measure=>simp[intOf];omega
  ·obtain rfl:m=8:=by omega
   have hlen:rs.length=8:=hF.out.1
   have EL:=hide (show mixL a b num=rs by rw[fillN_all hF.out];simp[mixL,OK.out])
   have EE:=hide (show mixE a b num=0 by simp[mixE,OK.out])
   have BA:=hide hM.out.1
   have BB:=hide hM.out.2.2.1
   have GM:=hide hM.out.2.2.2
   clear hF hM OK SY SZ IX
   go_wp2_with (first|refine wpList_load_arr rfl 50 _ rfl _ rfl _ BA.out _ Tryz.underlying50 rfl (by rw[hlen];exact size8') ?_|refine wpList_store_arr rfl 50 _ _ rfl _ (zeros 8) rs rfl rfl BB.out (by rw[hlen,zeros_len]) (by rw[zeros_len];exact size8') ?_)
   have PU:=put_arr (rs':=rs) BB.out (by rw[hlen,zeros_len])
   have hlv:=loadVar_arr PU.1 _ Tryz.underlying50 rfl (by rw[hlen];exact size8')
   have GF:=hide (grown_own GM.out PU.2 (by omega))
   refine bodyPost_ret (v:=.tuple #[.agg (arrI rs),.int .i64 0]) ?_ rfl ?_
   ·simp[results,Tryz.results147,asAddr,Act.put,hlv]
   ·rw[EL.out,EE.out];exact⟨rfl,GF.out⟩
theorem mix_any (a b:List Int)(ha:a.length=8)(hb:b.length=8)(num:Int)(w:World):Calls Tryz.prog 147 #[.agg (arrI a),.agg (arrI b),.int .i64 num] w (ArrE w (mixL a b num) (mixE a b num)):=by
 have no:okM a b num=false→mixL a b num=zeros 8∧mixE a b num=2:=fun h=>by simp[mixL,mixE,h]
 by_cases hn:0≤num∧num≤4
 ·rcases sa:steadyB a with _|_
  ·obtain⟨e1,e2⟩:=no (by unfold okM;rw[sa];simp)
   rw[e1,e2];exact mix_no1 a b ha num hn sa w
  ·rcases sb:steadyB b with _|_
   ·obtain⟨e1,e2⟩:=no (by unfold okM;rw[sb];simp)
    rw[e1,e2];exact mix_no2 a b ha hb num hn sa sb w
   ·exact mix_yes a b ha hb num hn.1 hn.2 sa sb w
 ·obtain⟨e1,e2⟩:=no (by
   unfold okM
   have:(decide (0≤num)&&decide (num≤4))=false:=by simp;omega
   rw[this];rfl)
  rw[e1,e2];exact mix_no0 a b num hn w
set_option maxRecDepth 100000 in
theorem expand_no0 (a:List Int)(ha:a.length=9)(g:Int)(hg:¬(0≤g∧g≤32768))(w:World):Calls Tryz.prog 79 #[.agg (arrI a),.int .i64 g] w (ArrE w (zeros 9) 2):=by
 have L0:=hide (laid2 w 95 95 a (zeros 9))
 rw[z9']at L0
 have hbd:=build9
 have W:=hide (within_any g 0 32768)
 rw[show(decide (0≤g)&&decide (g≤32768))=false by simp;omega]at W
 go_enter Tryz.func79,Tryz.ntmps79
 go_wp2_with fail
 refine(W.out _).mono ?_
 rintro e w1 ⟨rfl,rfl⟩
 have BB:=hide L0.out.2.1
 have GM:=hide L0.out.2.2
 clear L0 W
 go_wp2_with (first|refine wpList_store_arr rfl 95 _ _ rfl _ (zeros 9) (zeros 9) rfl rfl BB.out rfl (by rw[zeros_len];exact size9') ?_)
 have PU:=put_arr (rs':=zeros 9) BB.out rfl
 have hlv:=loadVar_arr PU.1 _ Tryz.underlying95 rfl (by rw[zeros_len];exact size9')
 have GF:=hide (grown_own GM.out PU.2 (by omega))
 refine bodyPost_ret (v:=.tuple #[.agg (arrI (zeros 9)),.int .i64 2]) ?_ rfl ⟨rfl,GF.out⟩
 simp[results,Tryz.results79,asAddr,Act.put,hlv]
set_option maxRecDepth 100000 in
theorem expand_no1 (a:List Int)(ha:a.length=9)(g:Int)(hg:0≤g∧g≤32768)(hw:wideB a=false)(w:World):Calls Tryz.prog 79 #[.agg (arrI a),.int .i64 g] w (ArrE w (zeros 9) 2):=by
 have L0:=hide (laid2 w 95 95 a (zeros 9))
 rw[z9']at L0
 have hbd:=build9
 have W:=hide (within_any g 0 32768)
 rw[show(decide (0≤g)&&decide (g≤32768))=true by simp;omega]at W
 have IB:=hide (Ints_blk L0.out.1 9 (by omega))
 rw[ha]at IB
 have A:=hide (allWithin_any (.slice (some ⟨w.heap.size,0,none⟩) 9 9) a (-1073741824) 1073741824 _ IB.out (by omega))
 rw[inB_wide,hw]at A
 clear IB
 go_enter Tryz.func79,Tryz.ntmps79
 go_wp2_with fail
 refine(W.out _).mono ?_
 rintro e w1 ⟨rfl,rfl⟩
 clear W
 go_wp2_with fail
 refine A.out.mono ?_
 rintro e w1 ⟨rfl,rfl⟩
 have BB:=hide L0.out.2.1
 have GM:=hide L0.out.2.2
 clear L0 A
 go_wp2_with (first|refine wpList_store_arr rfl 95 _ _ rfl _ (zeros 9) (zeros 9) rfl rfl BB.out rfl (by rw[zeros_len];exact size9') ?_)
 have PU:=put_arr (rs':=zeros 9) BB.out rfl
 have hlv:=loadVar_arr PU.1 _ Tryz.underlying95 rfl (by rw[zeros_len];exact size9')
 have GF:=hide (grown_own GM.out PU.2 (by omega))
 refine bodyPost_ret (v:=.tuple #[.agg (arrI (zeros 9)),.int .i64 2]) ?_ rfl ⟨rfl,GF.out⟩
 simp[results,Tryz.results79,asAddr,Act.put,hlv]
set_option maxRecDepth 100000 in
theorem expand_yes (a:List Int)(ha:a.length=9)(g:Int)(g0:0≤g)(g1:g≤32768)(hw:wideB a=true)(w:World):Calls Tryz.prog 79 #[.agg (arrI a),.int .i64 g] w (ArrE w (expL a g) (expE a g)):=by
 have L0:=hide (laid2 w 95 95 a (zeros 9))
 rw[z9']at L0
 have W:=hide (within_any g 0 32768)
 rw[show(decide (0≤g)&&decide (g≤32768))=true by simp;omega]at W
 have IB:=hide (Ints_blk L0.out.1 9 (by omega))
 rw[ha]at IB
 have A:=hide (allWithin_any (.slice (some ⟨w.heap.size,0,none⟩) 9 9) a (-1073741824) 1073741824 _ IB.out (by omega))
 rw[inB_wide,hw]at A
 have IX:=hide (fun j hj=>index_arr a Tryz.underlying95 j hj ha)
 have FB:=hide (fac_bd g g0 g1)
 have OK:=hide (show okX a g=true by unfold okX;simp[g0,g1,hw])
 have WB:=hide ((wideB_iff a).1 hw)
 clear IB hw
 go_enter Tryz.func79,Tryz.ntmps79
 go_wp2_with fail
 refine(W.out _).mono ?_
 rintro e w1 ⟨rfl,rfl⟩
 clear W
 go_wp2_with fail
 refine A.out.mono ?_
 rintro e w1 ⟨rfl,rfl⟩
 clear A
 go_wp2_with (refine wpList_load_arr rfl 95 _ rfl _ rfl _ L0.out.1 _ Tryz.underlying95 rfl (by rw[ha];exact size9') ?_)
 have M0:=hide (show Mem2 w _ 95 95 a (zeros 9)from L0.out)
 clear L0
 generalize (w.alloc (.cells (arrI a) 95)).alloc _=W0 at *
 go_loopw [6,19] (fun f i wr=>∃(m:Nat) (rs:List Int),f=.int .i64 (fac g m)∧i=.int .i64 m∧m≤9∧Hid (FillN 9 (expN a g) m rs)∧Hid (Mem2 w wr 95 95 rs (zeros 9))) (fun _ i _=>9-(intOf i).toNat)
 case atStart=>exact⟨0,a,rfl,rfl,Nat.zero_le _,⟨ha,fun j hj=>by omega⟩,M0.out⟩
 case round=>
  obtain⟨m,rs,rfl,rfl,hm,hF,hM⟩:=hrel
  clear M0
  by_cases hm9:m<9
  ·have ix:=IX.out m (by omega)
   obtain⟨b1,b2⟩:=WB.out m (by omega)
   obtain⟨f1,f2⟩:=FB.out m
   obtain⟨p1,p2⟩:=facmul_bd _ _ b1 b2 f1 f2
   obtain⟨p3,p4⟩:=facmul_bd g (fac g m) (by omega) (by omega) f1 f2
   rw[Int.mul_comm]at p3 p4
   have D1:=hide (fun u=>rounded15 (nth a m*fac g m) (by omega) (by omega) u)
   have D2:=hide (fun u=>rounded15 (fac g m*g) (by omega) (by omega) u)
   have E1:=hide (show(nth a m*fac g m+16384) / 32768=expN a g m from rfl)
   have E2:=hide (show(fac g m*g+16384) / 32768=fac g (m+1)from rfl)
   rw[E1.out]at D1
   rw[E2.out]at D2
   have NF:=hide (fillN_step hF.out hm9)
   have hlen:rs.length=9:=hF.out.1
   have cd:=hM.out.1.cell m (by omega)
   have fd:=hM.out.1.free m
   have M2:=hide (hM.out.set m (expN a g m))
   clear hF E1 E2 OK WB hM IX FB
   generalize expN a g m=z at *
   generalize nth a m=c at *
   generalize fac g m=f at *
   generalize nth rs m=y' at *
   have i1:(m:Int)<9:=by omega
   go_wp2_with fail
   refine(D1.out _).mono ?_
   rintro e w1 ⟨rfl,rfl⟩
   clear D1
   go_wp2_with fail
   refine(D2.out _).mono ?_
   rintro e w2 ⟨rfl,rfl⟩
   clear D2 cd fd
   go_wp2_with fail
   go_roundw
   case rel=>exact⟨m+1,_,rfl,by go_num,by omega,NF.out,M2.out⟩
   case measure=>simp[intOf];omega
  ·obtain rfl:m=9:=by omega
   have EL:=hide (show expL a g=rs by rw[fillN_all hF.out];simp[expL,OK.out])
   have EE:=hide (show expE a g=0 by simp[expE,OK.out])
   have hlen:rs.length=9:=hF.out.1
   have BA:=hide hM.out.1
   have BB:=hide hM.out.2.1
   have GM:=hide hM.out.2.2
   clear hF hM FB OK WB IX
   generalize fac g 9=f at *
   go_wp2_with (first|refine wpList_load_arr rfl 95 _ rfl _ rfl _ BA.out _ Tryz.underlying95 rfl (by rw[hlen];exact size9') ?_|refine wpList_store_arr rfl 95 _ _ rfl _ (zeros 9) rs rfl rfl BB.out (by rw[hlen,zeros_len]) (by rw[zeros_len];exact size9') ?_)
   have PU:=put_arr (rs':=rs) BB.out (by rw[hlen,zeros_len])
   have hlv:=loadVar_arr PU.1 _ Tryz.underlying95 rfl (by rw[hlen];exact size9')
   have GF:=hide (grown_own GM.out PU.2 (by omega))
   refine bodyPost_ret (v:=.tuple #[.agg (arrI rs),.int .i64 0]) ?_ rfl ?_
   ·simp[results,Tryz.results79,asAddr,Act.put,hlv]
   ·rw[EL.out,EE.out];exact⟨rfl,GF.out⟩
theorem expand_any (a:List Int)(ha:a.length=9)(g:Int)(w:World):Calls Tryz.prog 79 #[.agg (arrI a),.int .i64 g] w (ArrE w (expL a g) (expE a g)):=by
 have no:okX a g=false→expL a g=zeros 9∧expE a g=2:=fun h=>by simp[expL,expE,h]
 by_cases hn:0≤g∧g≤32768
 ·rcases sa:wideB a with _|_
  ·obtain⟨e1,e2⟩:=no (by unfold okX;rw[sa];simp)
   rw[e1,e2];exact expand_no1 a ha g hn sa w
  ·exact expand_yes a ha g hn.1 hn.2 sa w
 ·obtain⟨e1,e2⟩:=no (by
   unfold okX
   have:(decide (0≤g)&&decide (g≤32768))=false:=by simp;omega
   rw[this];rfl)
  rw[e1,e2];exact expand_no0 a ha g hn w
end Go.Proofs.YtdejpongekicdaaGreatDoor

/- LpcC -/
namespace Go.Proofs.YtdejpongekicdaaGreatDoor
open Go.RowKit
set_option linter.unusedVariables false
set_option linter.unusedSimpArgs false
set_option maxHeartbeats 1000000
def PartG (A:List Int)(m:Nat)(q:Int)(k:Nat)(rs:List Int):Prop:=rs.length=9∧∀j,nth rs j=if j<k then gr (nth A) m q j else nth A j
theorem partG_step {A:List Int}{m:Nat}{q:Int}{k:Nat}{rs:List Int}(h:PartG A m q k rs)(h1:1≤k)(h2:k≤m)(hm:m≤8):PartG A m q (k+1) (rs.set k (nth A k+q*nth A (m-k) / 32768)):=by
 refine⟨by simpa using h.1,fun j=>?_⟩
 by_cases e:j=k
 ·subst e
  have hl:=h.1
  rw[if_pos (by omega)]
  unfold gr
  rw[if_pos ⟨h1,h2⟩]
  simp[nth,List.getD,show j<rs.length by omega]
 ·have e1:nth (rs.set k (nth A k+q*nth A (m-k) / 32768)) j=nth rs j:=by simp[nth,List.getD,List.getElem?_set,Ne.symm e]
  rw[e1,h.2 j]
  by_cases c:j<k
  ·rw[if_pos c,if_pos (by omega)]
  ·rw[if_neg c,if_neg (by omega)]
theorem partG_start (A:List Int)(hA:A.length=9)(m:Nat)(q:Int):PartG A m q 1 A:=⟨hA,fun j=>by
 by_cases c:j<1
 ·rw[if_pos c];unfold gr;rw[if_neg (by omega)]
 ·rw[if_neg c]⟩
theorem partG_end {A:List Int}{m:Nat}{q:Int}{rs:List Int}(h:PartG A m q (m+1) rs):rs=tab 9 (gr (nth A) m q):=tab_ext h.1 (fun i _=>by
 rw[h.2 i]
 by_cases c:i<m+1
 ·rw[if_pos c]
 ·rw[if_neg c];unfold gr;rw[if_neg (by omega)])
def MemG (w wr:World)(A rs:List Int):Prop:=Mem3 w wr 95 95 95 A (zeros 9) rs
theorem memG_set {w wr:World}{A rs:List Int}(h:MemG w wr A rs)(k:Nat)(z:Int):MemG w (wr.setCell ⟨w.heap.size+1+1,k,none⟩ (.int .i64 z)) A (rs.set k z):=
 ⟨h.1.keepBut (grown_setCell _ ⟨w.heap.size+1+1,k,none⟩ _) (by simp;omega),h.2.1.keepBut (grown_setCell _ ⟨w.heap.size+1+1,k,none⟩ _) (by simp),h.2.2.1.set k z,grown_own h.2.2.2 (grown_setCell _ ⟨w.heap.size+1+1,k,none⟩ _) (by simp;omega)⟩
theorem memG_start (w:World)(A:List Int)(hA:A.length=9):MemG w (putArr (((w.alloc (.cells (arrI A) 95)).alloc (.cells (arrI (zeros 9)) 95)).alloc (.cells (arrI (zeros 9)) 95)) (w.heap.size+1+1) A) A A:=by
 obtain⟨h1,h2,h3,h4⟩:=laid3 w 95 95 95 A (zeros 9) (zeros 9)
 have PU:=put_arr (rs':=A) h3 (by rw[hA,zeros_len])
 exact⟨h1.keepBut PU.2 (by omega),h2.keepBut PU.2 (by omega),PU.1,grown_own h4 PU.2 (by omega)⟩
set_option maxRecDepth 100000 in
theorem grown_any (A:List Int)(hA:A.length=9)(m:Nat)(hm:m≤8)(q:Int)(q1:-32768≤q)(q2:q≤32768)(hW:Wi (nth A) 4294967296)(w:World) :
  Calls Tryz.prog 143 #[.agg (arrI A),.int .i64 m,.int .i64 q] w (AnsG w (.agg (arrI (tab 9 (gr (nth A) m q))))):=by
 have L0:=hide (laid3 w 95 95 95 A (zeros 9) (zeros 9))
 rw[z9']at L0
 have BA:=hide (Blk.new w 95 A)
 have BA2:=hide (laid2 w 95 95 A (zeros 9))
 rw[z9']at BA2
 have B3:=hide L0.out.2.2.1
 have MS:=hide (memG_start w A hA)
 rw[z9']at MS
 have HW:=hide hW
 clear L0 hW BA
 go_enter Tryz.func143,Tryz.ntmps143
 go_wp2_with (first|refine wpList_load_arr rfl 95 _ rfl _ rfl _ BA2.out.1 _ Tryz.underlying95 rfl (by rw[hA];exact size9') ?_|refine wpList_store_arr rfl 95 _ _ rfl _ (zeros 9) A rfl rfl B3.out (by rw[hA,zeros_len]) (by rw[zeros_len];exact size9') ?_)
 clear BA2 B3
 generalize putArr _ (w.heap.size+1+1) A=W0 at *
 go_loopw [8] (fun i wr=>∃(k:Nat) (rs:List Int),i=.int .i64 k∧1≤k∧k≤m+1∧Hid (PartG A m q k rs)∧Hid (MemG w wr A rs)) (fun i _=>9-(intOf i).toNat)
 case atStart=>exact⟨1,A,rfl,by omega,by omega,partG_start A hA m q,MS.out⟩
 case round=>
  obtain⟨k,rs,rfl,hk1,hk2,hF,hM⟩:=hrel
  clear MS
  by_cases hkm:k≤m
  ·have hlen:rs.length=9:=hF.out.1
   have cz:=hM.out.2.2.1.cell k (by omega)
   have fz:=hM.out.2.2.1.free k
   have cx:=hM.out.1.cell (m-k) (by omega)
   have ez:nth rs k=nth A k:=by rw[hF.out.2 k,if_neg (by omega)]
   rw[ez]at cz
   have NF:=hide (partG_step hF.out hk1 hkm hm)
   have NM:=hide (memG_set hM.out k (nth A k+q*nth A (m-k) / 32768))
   obtain⟨z1,z2⟩:=HW.out k
   obtain⟨x1,x2⟩:=HW.out (m-k)
   obtain⟨p1,p2⟩:=qmul_bd q _ _ q1 q2 x1 x2
   have EJ:=hide (show IntKind.i64.wrap ((m:Int)-(k:Int))=((m-k:Nat):Int) by rw[wrapI _ (by omega) (by omega)];omega)
   have j8:((m-k:Nat):Int)<9:=by omega
   have j0:(0:Int)≤((m-k:Nat):Int):=by omega
   clear hF hM HW ez
   have EM:=hide (wrapI (q*nth A (m-k)) (by omega) (by omega))
   have EZ:=hide (wrapI (nth A k+q*nth A (m-k) / 32768) (by omega) (by omega))
   generalize hx:nth A (m-k)=x at *
   generalize hz:nth A k=z at *
   clear hx hz
   generalize m-k=j at *
   have k9:(k:Int)<9:=by omega
   have k0:(0:Int)≤k:=by omega
   have km:(k:Int)≤m:=by omega
   have hS:=And.intro cz cx
   go_wp2_with fail
   refine wp_region_G 13 ((fun w'=>w'.cell? ⟨w.heap.size+1+1,k,none⟩=some (.int .i64 z)∧w'.cell? ⟨w.heap.size,j,none⟩=some (.int .i64 x))) 14 (by rfl) #[false,false,false,false,false,false,false,false,false,false,false,false,false,false] (by rfl) (by kernel_rfl) (fun hcl=>?_)
   refine wpAnyG_take (i:=0) (v:=?v0) rfl (by kernel_rfl) hcl (fun _ _ _ h=>h) (Or.inl ⟨by rfl,?y0⟩) hS (fun hcl=>?r0)
   case y0=>(intro w' hSw;obtain⟨s1,s2⟩:=hSw;go_simp;try with_reducible rfl)
   (try simp only[Act.put,sL])
   refine wpAnyG_take (i:=1) (v:=?v1) rfl (by kernel_rfl) hcl (fun _ _ _ h=>h) (Or.inl ⟨by rfl,?y1⟩) hS (fun hcl=>?r1)
   case y1=>(intro w' hSw;obtain⟨s1,s2⟩:=hSw;go_simp;try with_reducible rfl)
   (try simp only[Act.put,sL])
   refine wpAnyG_take (i:=2) (v:=?v2) rfl (by kernel_rfl) hcl (fun _ _ _ h=>h) (Or.inl ⟨by rfl,?y2⟩) hS (fun hcl=>?r2)
   case y2=>(intro w' hSw;obtain⟨s1,s2⟩:=hSw;go_simp;try with_reducible rfl)
   (try simp only[Act.put,sL])
   refine wpAnyG_take (i:=3) (v:=?v3) rfl (by kernel_rfl) hcl (fun _ _ _ h=>h) (Or.inl ⟨by rfl,?y3⟩) hS (fun hcl=>?r3)
   case y3=>(intro w' hSw;obtain⟨s1,s2⟩:=hSw;go_simp;try with_reducible rfl)
   (try simp only[Act.put,sL])
   refine wpAnyG_take (i:=4) (v:=?v4) rfl (by kernel_rfl) hcl (fun _ _ _ h=>h) (Or.inl ⟨by rfl,?y4⟩) hS (fun hcl=>?r4)
   case y4=>(intro w' hSw;obtain⟨s1,s2⟩:=hSw;go_simp;try with_reducible rfl)
   (try simp only[Act.put,sL])
   refine wpAnyG_take (i:=5) (v:=?v5) rfl (by kernel_rfl) hcl (fun _ _ _ h=>h) (Or.inl ⟨by rfl,?y5⟩) hS (fun hcl=>?r5)
   case y5=>(intro w' hSw;obtain⟨s1,s2⟩:=hSw;go_simp;try with_reducible rfl)
   (try simp only[Act.put,sL])
   refine wpAnyG_take (i:=6) (v:=.int .i64 (j:Int)) rfl (by kernel_rfl) hcl (fun _ _ _ h=>h) (Or.inl ⟨by rfl,?y6⟩) hS (fun hcl=>?r6)
   case y6=>(intro w' hSw;obtain⟨s1,s2⟩:=hSw;go_simp;(first|exact EJ.out|rw[EJ.out]|(simp;omega)))
   (try simp only[Act.put,sL])
   refine wpAnyG_take (i:=7) (v:=?v7) rfl (by kernel_rfl) hcl (fun _ _ _ h=>h) (Or.inl ⟨by rfl,?y7⟩) hS (fun hcl=>?r7)
   case y7=>(intro w' hSw;obtain⟨s1,s2⟩:=hSw;go_simp;try with_reducible rfl)
   (try simp only[Act.put,sL])
   refine wpAnyG_take (i:=8) (v:=?v8) rfl (by kernel_rfl) hcl (fun _ _ _ h=>h) (Or.inl ⟨by rfl,?y8⟩) hS (fun hcl=>?r8)
   case y8=>(intro w' hSw;obtain⟨s1,s2⟩:=hSw;go_simp;try with_reducible rfl)
   (try simp only[Act.put,sL])
   refine wpAnyG_take (i:=9) (v:=.int .i64 (q*x)) rfl (by kernel_rfl) hcl (fun _ _ _ h=>h) (Or.inl ⟨by rfl,?y9⟩) hS (fun hcl=>?r9)
   case y9=>(intro w' hSw;obtain⟨s1,s2⟩:=hSw;go_simp;(first|exact EM.out|rw[EM.out]|(simp;omega)))
   (try simp only[Act.put,sL])
   refine wpAnyG_take (i:=10) (v:=?v10) rfl (by kernel_rfl) hcl (fun _ _ _ h=>h) (Or.inl ⟨by rfl,?y10⟩) hS (fun hcl=>?r10)
   case y10=>(intro w' hSw;obtain⟨s1,s2⟩:=hSw;go_simp;try with_reducible rfl)
   (try simp only[Act.put,sL])
   refine wpAnyG_take (i:=11) (v:=?v11) rfl (by kernel_rfl) hcl (fun _ _ _ h=>h) (Or.inl ⟨by rfl,?y11⟩) hS (fun hcl=>?r11)
   case y11=>(intro w' hSw;obtain⟨s1,s2⟩:=hSw;go_simp;try with_reducible rfl)
   (try simp only[Act.put,sL])
   refine wpAnyG_take (i:=12) (v:=?v12) rfl (by kernel_rfl) hcl (fun _ _ _ h=>h) (Or.inl ⟨by rfl,?y12⟩) hS (fun hcl=>?r12)
   case y12=>(intro w' hSw;obtain⟨s1,s2⟩:=hSw;go_simp;try with_reducible rfl)
   (try simp only[Act.put,sL])
   refine wpAnyG_exec (i:=13) rfl (by kernel_rfl) hcl (fun K hK=>?_)
   (try simp only[Act.put,sL])
   go_simp
   go_wp2_with fail
   refine hK.out _ _ (fun h=>by cases h) (fun hcl=>?_)
   clear hK
   (try simp only[Act.put,sL])
   refine wpAnyG_of_any _ _ _ _ (by rfl) ?_
   refine wpAny_done (by kernel_rfl) ?_ _
   go_wp2_with fail
   go_roundw
   case rel=>exact⟨k+1,_,by go_num,by omega,by omega,NF.out,Mem3.keep NM.out (grown_drew (grown_refl _ none))⟩
   case measure=>simp[intOf];omega
  ·obtain rfl:k=m+1:=by omega
   have hlen:rs.length=9:=hF.out.1
   have ER:=hide (partG_end hF.out)
   have BA:=hide hM.out.2.2.1
   have BB:=hide hM.out.2.1
   have GM:=hide hM.out.2.2.2
   clear hF hM HW
   have km:¬((m+1:Nat):Int)≤m:=by omega
   go_wp2_with (first|refine wpList_load_arr rfl 95 _ rfl _ rfl _ BA.out _ Tryz.underlying95 rfl (by rw[hlen];exact size9') ?_|refine wpList_store_arr rfl 95 _ _ rfl _ (zeros 9) rs rfl rfl BB.out (by rw[hlen,zeros_len]) (by rw[zeros_len];exact size9') ?_)
   have PU:=put_arr (rs':=rs) BB.out (by rw[hlen,zeros_len])
   have hlv:=loadVar_arr PU.1 _ Tryz.underlying95 rfl (by rw[hlen];exact size9')
   have GF:=hide (grown_own GM.out PU.2 (by omega))
   refine bodyPost_ret (v:=.agg (arrI rs)) ?_ rfl ?_
   ·simp[results,Tryz.results143,asAddr,Act.put,hlv]
   ·rw[←ER.out];exact⟨rfl,GF.out⟩
set_option maxRecDepth 100000 in
theorem missed_any (A R:List Int)(hA:A.length=9)(hR:R.length=9)(m:Nat)(h1:1≤m)(h8:m≤8)(hW:Wi (nth A) 4294967296)(hB:RB (nth R))(w:World) :
  Calls Tryz.prog 141 #[.agg (arrI A),.agg (arrI R),.int .i64 m] w (AnsG w (.int .i64 (mis (nth A) (nth R) m m))):=by
 have L0:=hide (laid2 w 95 95 A R)
 have F:=hide (show ∀z,z=mis (nth A) (nth R) m m→AnsG w (.int .i64 (mis (nth A) (nth R) m m)) (.returned (.int .i64 z)) ((w.alloc (.cells (arrI A) 95)).alloc (.cells (arrI R) 95))from fun z hz=>⟨by rw[hz],L0.out.2.2⟩)
 generalize AnsG w (.int .i64 (mis (nth A) (nth R) m m))=T at *
 have HW:=hide hW
 have HB:=hide hB
 have MB:=hide (mis_bd hW hB m)
 clear hW hB
 have m0:(0:Int)≤m:=by omega
 have m9:(m:Int)≤9:=by omega
 go_enter Tryz.func141,Tryz.ntmps141
 go_wp2_with fail
 generalize (w.alloc (.cells (arrI A) 95)).alloc _=W0 at *
 go_loop [7,13] (fun s i=>∃k:Nat,s=.int .i64 (mis (nth A) (nth R) m k)∧i=.int .i64 k∧k≤m) (fun _ i=>m-(intOf i).toNat)
 case atStart=>exact⟨0,rfl,rfl,Nat.zero_le _⟩
 case round=>
  obtain⟨k,rfl,rfl,hk⟩:=hrel
  by_cases hkm:k<m
  ·have ca:=L0.out.1.cell k (by omega)
   have cr:=L0.out.2.1.cell (m-k) (by omega)
   obtain⟨a1,a2⟩:=HW.out k
   obtain⟨r1,r2⟩:=HB.out (m-k)
   obtain⟨⟨p1,p2⟩,p3,p4⟩:=mterm_bd _ _ a1 a2 r1 r2
   obtain⟨s1,s2⟩:=MB.out k
   have E:=hide (show mis (nth A) (nth R) m (k+1)=mis (nth A) (nth R) m k+(nth A k / 512*nth R (m-k)) / 32768 from rfl)
   have ht:((m:Int)-(k:Int)).toNat=m-k:=by omega
   have t0:(0:Int)≤(m:Int)-k:=by omega
   have t9:(m:Int)-k<9:=by omega
   clear F HW HB MB
   generalize mis (nth A) (nth R) m k=s at *
   generalize nth A k=x at *
   generalize nth R (m-k)=y at *
   go_wp2_with fail
   go_round
   case rel=>exact⟨k+1,by rw[E.out],by go_num,by omega⟩
   case measure=>simp[intOf];omega
  ·obtain rfl:k=m:=by omega
   have G:=hide (F.out _ rfl)
   clear F HW HB MB
   generalize mis (nth A) (nth R) k k=s at *
   go_wp2_with fail
   exact G.out
end Go.Proofs.YtdejpongekicdaaGreatDoor

/- LpcD -/
namespace Go.Proofs.YtdejpongekicdaaGreatDoor
open Go.RowKit
set_option linter.unusedVariables false
set_option linter.unusedSimpArgs false
set_option maxHeartbeats 1000000
theorem tab_gr (p:Nat→Int)(m:Nat)(hm:m≤8)(q:Int):tab 9 (gr (nth (tab 9 p)) m q)=tab 9 (gr p m q):=by
 apply tab_ext (tab_len _ _)
 intro i hi
 rw[tab_nth _ _ _ hi]
 unfold gr
 rw[tab_nth _ _ _ hi,tab_nth _ _ _ (show m-i<9 by omega)]
theorem tab_wi {p:Nat→Int}{B:Int}(h:Wi p B)(hB:0≤B)(n:Nat):Wi (nth (tab n p)) B:=fun i=>by
 by_cases hi:i<n
 ·rw[tab_nth _ _ _ hi];exact h i
 ·rw[getD_out _ i (by rw[tab_len];omega)];omega
theorem mis_congr {p p' r:Nat→Int}{m:Nat}:∀i,(∀j,j<i→p j=p' j)→mis p r m i=mis p' r m i
 | 0,_=>rfl
 | i+1,h=>by
  show mis p r m i+_=mis p' r m i+_
  rw[mis_congr i (fun j hj=>h j (by omega)),h i (by omega)]
theorem mis_tab (p r:Nat→Int)(m:Nat)(hm:m≤9):mis (nth (tab 9 p)) r m m=mis p r m m:=mis_congr m (fun j hj=>tab_nth _ _ _ (by omega))
def one9:List Int:=[16777216,0,0,0,0,0,0,0,0]
theorem one9_tab:one9=tab 9 one24:=by decide
theorem one9_arr:arrI one9=#[.int .i64 16777216,.int .i64 0,.int .i64 0,.int .i64 0,.int .i64 0,.int .i64 0,.int .i64 0,.int .i64 0,.int .i64 0]:=rfl
def MemD (w wr:World)(k:List Int)(ba:Nat)(A:List Int):Prop:=
 Blk wr w.heap.size 50 k∧Blk wr (w.heap.size+1) 95 (zeros 9)∧Blk wr ba 95 A∧w.heap.size+1<ba∧w.grownBy wr none
theorem memD_keep {w wr wr':World}{k:List Int}{ba:Nat}{A:List Int}(h:MemD w wr k ba A)(g:wr.grownBy wr' none):MemD w wr' k ba A:=
 ⟨h.1.keep g,h.2.1.keep g,h.2.2.1.keep g,h.2.2.2.1,grown_none h.2.2.2.2 g⟩
theorem memD_put {w wr:World}{k:List Int}{ba:Nat}{A:List Int}(h:MemD w wr k ba A)(A':List Int)(hl:A'.length=A.length):MemD w (putArr wr ba A') k ba A':=by
 have PU:=put_arr (rs':=A') h.2.2.1 hl
 have hb:=h.2.2.2.1
 exact⟨h.1.keepBut PU.2 (by omega),h.2.1.keepBut PU.2 (by omega),PU.1,hb,grown_own h.2.2.2.2 PU.2 (by omega)⟩
theorem memD_set {w wr:World}{k:List Int}{ba:Nat}{A:List Int}(h:MemD w wr k ba A)(i:Nat)(z:Int):MemD w (wr.setCell ⟨ba,i,none⟩ (.int .i64 z)) k ba (A.set i z):=by
 have g:=grown_setCell wr ⟨ba,i,none⟩ (.int .i64 z)
 have hb:=h.2.2.2.1
 exact⟨h.1.keepBut g (by simp;omega),h.2.1.keepBut g (by simp;omega),h.2.2.1.set i z,hb,grown_own h.2.2.2.2 g (by simp;omega)⟩
theorem memD_start {w w1:World}{k:List Int}(h:Mem2 w w1 50 95 k (zeros 9))(L:List Int)(hL:L.length=9):MemD w (putArr (w1.alloc (.cells (arrI (zeros 9)) 95)) w1.heap.size L) k w1.heap.size L:=by
 obtain⟨f1,f2,f3⟩:=fresh_arr w1 95 9 L hL
 exact⟨h.1.keep f3,h.2.1.keep f3,f2,h.2.1.lt,grown_none h.2.2 f3⟩
set_option maxRecDepth 100000 in
theorem direct_no (k:List Int)(hk:k.length=8)(sk:steadyB k=false)(w:World):Calls Tryz.prog 78 #[.agg (arrI k)] w (ArrE w (zeros 9) 2):=by
 have L0:=hide (laid2 w 50 95 k (zeros 9))
 rw[z9']at L0
 have hbd:=build9
 have SA:=hide (reflections_any k hk)
 rw[sk]at SA
 go_enter Tryz.func78,Tryz.ntmps78
 go_wp2_with (refine wpList_load_arr rfl 50 _ rfl _ rfl _ L0.out.1 _ Tryz.underlying50 rfl (by rw[hk];exact size8') ?_)
 refine(SA.out _).mono ?_
 rintro e w1 ⟨rfl,g1⟩
 have BB:=hide (L0.out.2.1.keep g1)
 have GM:=hide (grown_none L0.out.2.2 g1)
 clear L0 g1 SA
 go_wp2_with (first|refine wpList_store_arr rfl 95 _ _ rfl _ (zeros 9) (zeros 9) rfl rfl BB.out rfl (by rw[zeros_len];exact size9') ?_)
 have PU:=put_arr (rs':=zeros 9) BB.out rfl
 have hlv:=loadVar_arr PU.1 _ Tryz.underlying95 rfl (by rw[zeros_len];exact size9')
 have GF:=hide (grown_own GM.out PU.2 (by omega))
 refine bodyPost_ret (v:=.tuple #[.agg (arrI (zeros 9)),.int .i64 2]) ?_ rfl ⟨rfl,GF.out⟩
 simp[results,Tryz.results78,asAddr,Act.put,hlv]
set_option maxRecDepth 100000 in
theorem direct_yes (k:List Int)(hk:k.length=8)(sk:steadyB k=true)(w:World):Calls Tryz.prog 78 #[.agg (arrI k)] w (ArrE w (dirL k) (dirE k)):=by
 have L0:=hide (laid2 w 50 95 k (zeros 9))
 rw[z9']at L0
 have SA:=hide (reflections_any k hk)
 rw[sk]at SA
 have SK:=hide (steady_le hk sk)
 have EL:=hide (show dirL k=tab 9 (dirN (nth k)) by simp[dirL,sk])
 have EE:=hide (show dirE k=0 by simp[dirE,sk])
 have IX:=hide (fun j hj=>index_arr k Tryz.underlying50 j hj hk)
 clear sk
 go_enter Tryz.func78,Tryz.ntmps78
 go_wp2_with (refine wpList_load_arr rfl 50 _ rfl _ rfl _ L0.out.1 _ Tryz.underlying50 rfl (by rw[hk];exact size8') ?_)
 refine(SA.out _).mono ?_
 rintro e w1 ⟨rfl,g1⟩
 have M1:=hide (show Mem2 w w1 50 95 k (zeros 9)from Mem2.keep L0.out g1)
 have BN:=hide (Blk.new w1 95 (zeros 9))
 rw[z9']at BN
 obtain⟨L,hL⟩:∃L,L=one9:=⟨_,rfl⟩
 have hl:L.length=9:=by subst hL;rfl
 have OA:=hide (show arrI L=_ by subst hL;exact one9_arr)
 have MS:=hide (memD_start M1.out L hl)
 rw[z9']at MS
 have HL:=hide hL
 clear L0 g1 SA M1 hL
 go_wp2_with (first|(refine wpList_store_arr rfl 95 _ _ rfl _ (zeros 9) L rfl (by rw[OA.out];rfl) BN.out (by rw[hl,zeros_len]) (by rw[zeros_len];exact size9') ?_;generalize putArr _ w1.heap.size L=W0 at *)|refine wpList_load_arr rfl 50 _ rfl _ rfl _ MS.out.1 _ Tryz.underlying50 rfl (by rw[hk];exact size8') ?_)
 rw[HL.out,one9_tab]at MS
 clear BN OA HL
 generalize w1.heap.size=ba at *
 go_loopw [15] (fun i wr=>∃m:Nat,i=.int .i64 m∧m≤8∧Hid (MemD w wr k ba (tab 9 (prd (nth k) m)))) (fun i _=>8-(intOf i).toNat)
 case atStart=>exact⟨0,rfl,Nat.zero_le _,MS.out⟩
 case round=>
  obtain⟨m,rfl,hm,hM⟩:=hrel
  clear MS
  by_cases hm8:m<8
  ·have ix:=IX.out m (by omega)
   obtain⟨q1,q2⟩:=SK.out m hm8
   have hlen:=tab_len 9 (prd (nth k) m)
   have GR:=hide (grown_any (tab 9 (prd (nth k) m)) hlen (m+1) (by omega) (nth k m) q1 q2 (tab_wi ((prd_bd32 (nth k) SK.out m (by omega)).le (by decide)) (by decide) 9))
   rw[tab_gr _ _ (by omega)]at GR
   have EP:=hide (show tab 9 (gr (prd (nth k) m) (m+1) (nth k m))=tab 9 (prd (nth k) (m+1))from rfl)
   rw[EP.out]at GR
   have hlen2:=tab_len 9 (prd (nth k) (m+1))
   have BA:=hide hM.out.2.2.1
   clear EP IX EL EE SK
   obtain⟨A',hA'⟩:∃A',A'=tab 9 (prd (nth k) (m+1)):=⟨_,rfl⟩
   rw[←hA']at GR hlen2
   have HA:=hide hA'
   clear hA'
   generalize tab 9 (prd (nth k) m)=A at *
   generalize hq:nth k m=q at *
   clear hq
   rw[show((m+1:Nat):Int)=(m:Int)+1 from rfl]at GR
   go_wp2_with (refine wpList_load_arr rfl 95 _ rfl _ rfl _ BA.out _ Tryz.underlying95 rfl (by rw[hlen];exact size9') ?_)
   refine(GR.out _).mono ?_
   rintro e w2 ⟨rfl,g2⟩
   have M2:=hide (memD_keep hM.out g2)
   have B2:=hide M2.out.2.2.1
   clear hM g2 BA GR
   go_wp2_with (refine wpList_store_arr rfl 95 _ _ rfl _ A A' rfl rfl B2.out (by rw[hlen,hlen2]) (by rw[hlen];exact size9') ?_)
   have M3:=hide (memD_put M2.out A' (by rw[hlen,hlen2]))
   go_roundw
   case rel=>exact⟨m+1,by go_num,by omega,by rw[←HA.out];exact M3.out⟩
   case measure=>simp[intOf];omega
  ·obtain rfl:m=8:=by omega
   have hlen:=tab_len 9 (prd (nth k) 8)
   have NA:=hide (fun i hi=>tab_nth 9 (prd (nth k) 8) i hi)
   have PB:=hide (prd_bd32 (nth k) SK.out 8 (by omega))
   have DN:=hide (show ∀i,dirN (nth k) i=(prd (nth k) 8 i+2048) / 4096 from fun i=>rfl)
   have BA:=hide hM.out.2.2.1
   generalize dirN (nth k)=dn at *
   generalize prd (nth k) 8=pk at *
   generalize hA:tab 9 pk=A at *
   clear hA IX SK
   have IX:=hide (fun j hj=>index_arr A Tryz.underlying95 j hj hlen)
   go_wp2_with (refine wpList_load_arr rfl 95 _ rfl _ rfl _ BA.out _ Tryz.underlying95 rfl (by rw[hlen];exact size9') ?_)
   clear BA
   go_loopw [26] (fun i wr=>∃(m:Nat) (rs:List Int),i=.int .i64 m∧m≤9∧Hid (FillN 9 dn m rs)∧Hid (MemD w wr k ba rs)) (fun i _=>9-(intOf i).toNat)
   case atStart=>exact⟨0,A,rfl,Nat.zero_le _,⟨hlen,fun j hj=>by omega⟩,hM.out⟩
   case round=>
    obtain⟨m,rs,rfl,hm',hF,hM'⟩:=hrel
    clear hM
    by_cases hm9:m<9
    ·have ix:=IX.out m (by omega)
     rw[NA.out m hm9]at ix
     obtain⟨b1,b2⟩:=PB.out m
     have R:=hide (rounded12 (pk m) (by omega) (by omega))
     rw[←DN.out m]at R
     have hlr:rs.length=9:=hF.out.1
     have NF:=hide (fillN_step hF.out hm9)
     have NM:=hide (memD_set hM'.out m (dn m))
     have cd:=hM'.out.2.2.1.cell m (by omega)
     have fd:=hM'.out.2.2.1.free m
     clear hF hM' IX NA PB DN EL EE
     generalize dn m=z at *
     generalize pk m=x at *
     generalize nth rs m=y' at *
     have i1:(m:Int)<9:=by omega
     go_wp2_with fail
     refine(R.out _).mono ?_
     rintro e w3 ⟨rfl,rfl⟩
     clear R
     go_wp2_with fail
     go_roundw
     case rel=>exact⟨m+1,_,by go_num,by omega,NF.out,NM.out⟩
     case measure=>simp[intOf];omega
    ·obtain rfl:m=9:=by omega
     have hlr:rs.length=9:=hF.out.1
     have ER:=hide (show rs=tab 9 dn from fillN_all hF.out)
     have BA:=hide hM'.out.2.2.1
     have BB:=hide hM'.out.2.1
     have GM:=hide hM'.out.2.2.2.2
     clear hF hM' IX NA PB DN
     go_wp2_with (first|refine wpList_load_arr rfl 95 _ rfl _ rfl _ BA.out _ Tryz.underlying95 rfl (by rw[hlr];exact size9') ?_|refine wpList_store_arr rfl 95 _ _ rfl _ (zeros 9) rs rfl rfl BB.out (by rw[hlr,zeros_len]) (by rw[zeros_len];exact size9') ?_)
     have PU:=put_arr (rs':=rs) BB.out (by rw[hlr,zeros_len])
     have hlv:=loadVar_arr PU.1 _ Tryz.underlying95 rfl (by rw[hlr];exact size9')
     have GF:=hide (grown_own GM.out PU.2 (by omega))
     refine bodyPost_ret (v:=.tuple #[.agg (arrI rs),.int .i64 0]) ?_ rfl ?_
     ·simp[results,Tryz.results78,asAddr,Act.put,hlv]
     ·rw[EL.out,EE.out,←ER.out];exact⟨rfl,GF.out⟩
theorem direct_any (k:List Int)(hk:k.length=8)(w:World):Calls Tryz.prog 78 #[.agg (arrI k)] w (ArrE w (dirL k) (dirE k)):=by
 rcases sk:steadyB k with _|_
 ·rw[show dirL k=zeros 9 by simp[dirL,sk],show dirE k=2 by simp[dirE,sk]]
  exact direct_no k hk sk w
 ·exact direct_yes k hk sk w
end Go.Proofs.YtdejpongekicdaaGreatDoor

/- PitA -/
namespace Go.Proofs.YtdejpongekicdaaGreatDoor
open Go.RowKit
set_option linter.unusedVariables false
set_option linter.unusedSimpArgs false
set_option maxHeartbeats 1000000
theorem pitWithin_any (x a b:Int)(w:World):Calls Tryz.prog 223 #[.int .i64 x,.int .i64 a,.int .i64 b] w (Ans w (.bool (decide (a≤x∧x≤b)))):=by
 by_cases h1:a≤x
 ·by_cases h2:x≤b
  ·rw[decide_eq_true (show a≤x∧x≤b from⟨h1,h2⟩)]
   go_enter Tryz.func223,Tryz.ntmps223
   go_wp2_with fail
   go_ret
   exact⟨rfl,rfl⟩
  ·rw[decide_eq_false (show ¬(a≤x∧x≤b)from fun h=>h2 h.2)]
   go_enter Tryz.func223,Tryz.ntmps223
   go_wp2_with fail
   go_ret
   exact⟨rfl,rfl⟩
 ·rw[decide_eq_false (show ¬(a≤x∧x≤b)from fun h=>h1 h.1)]
  go_enter Tryz.func223,Tryz.ntmps223
  go_wp2_with fail
  go_ret
  exact⟨rfl,rfl⟩
theorem pitSamples_any (v:Value)(l:List Int)(w:World)(h:Ints w v l)(hl:l.length≤1000000000000000000) :
  Calls Tryz.prog 218 #[v] w (Ans w (.bool (rightB l))):=by
 obtain⟨ad,c,rfl,hc,hcell⟩:=h
 have Y:=hide (fun(hh:∀i,i<l.length→-32768≤nth l i∧nth l i≤32767)=>(show Ans w (.bool (rightB l)) (.returned (.bool true)) w from⟨by rw[(rightB_iff l).2 hh],rfl⟩))
 have N:=hide (fun i (hi':i<l.length) (hh:¬(-32768≤nth l i∧nth l i≤32767))=>(show Ans w (.bool (rightB l)) (.returned (.bool false)) w from⟨by
  rcases hb:rightB l with _|_
  ·rfl
  ·exact absurd ((rightB_iff l).1 hb i hi') hh,rfl⟩))
 generalize Ans w (.bool (rightB l))=T at *
 go_enter Tryz.func218,Tryz.ntmps218
 go_wp2_with fail
 go_loop [7] (fun i=>∃k:Nat,i=.int .i64 k∧k≤l.length∧Hid (∀i,i<k→-32768≤nth l i∧nth l i≤32767)) (fun i=>l.length-(intOf i).toNat)
 case atStart=>exact⟨0,rfl,Nat.zero_le _,fun i hi=>by omega⟩
 case round=>
  obtain⟨k,rfl,hk,hG⟩:=hrel
  by_cases hkl:k<l.length
  ·obtain⟨a,rfl,hv⟩:=hcell (by omega)
   have hck:=hv k hkl
   have NK:=hide (N.out k hkl)
   have GK:=hide (fun(hh:-32768≤nth l k∧nth l k≤32767)=>(show ∀i,i<k+1→-32768≤nth l i∧nth l i≤32767 from fun i hi=>by
    rcases Nat.lt_or_ge i k with g|g
    ·exact hG.out i g
    ·obtain rfl:i=k:=by omega
     exact hh))
   clear hcell hv Y N hG
   generalize nth l k=z at *
   have kl1:(k:Int)<l.length:=by omega
   have ST:=hide (pitWithin_any z (-32768) 32767 w)
   by_cases hz:-32768≤z∧z≤32767
   ·have F:=hide (GK.out hz)
    rw[decide_eq_true hz]at ST
    clear NK GK hz
    go_wp2_with fail
    refine ST.out.mono ?_
    rintro e w1 ⟨rfl,rfl⟩
    clear ST
    go_wp2_with fail
    go_round
    case rel=>exact⟨k+1,by go_num,by omega,F.out⟩
    case measure=>simp[intOf];omega
   ·have F:=hide (NK.out hz)
    rw[decide_eq_false hz]at ST
    clear NK GK hz
    go_wp2_with fail
    refine ST.out.mono ?_
    rintro e w1 ⟨rfl,rfl⟩
    clear ST
    go_wp2_with fail
    exact F.out
  ·obtain rfl:k=l.length:=by omega
   have F:=hide (Y.out hG.out)
   clear hcell Y N hG
   go_wp2_with fail
   exact F.out
theorem dotS_step (a b:List Int)(n:Nat):dotS a b (n+1)=dotS a b n+nth a n*nth b n:=rfl
theorem pitProduct_any (v u:Value)(a b:List Int)(w:World)(ha:Ints w v a)(hb:Ints w u b)(hl:a.length≤b.length)(hn:a.length≤100)(ra:rightB a=true)(rb:rightB b=true) :
  Calls Tryz.prog 252 #[v,u] w (Ans w (.int .i64 (dotS a b a.length))):=by
 have F:=hide (show Ans w (.int .i64 (dotS a b a.length)) (.returned (.int .i64 (dotS a b a.length))) w from⟨rfl,rfl⟩)
 have DB:=hide (dotS_bd a b ra rb)
 have RA:=hide (nth_in a (-32768) 32767 (by omega) (by omega) ((rightB_iff a).1 ra))
 have RB:=hide (nth_in b (-32768) 32767 (by omega) (by omega) ((rightB_iff b).1 rb))
 obtain⟨ad,c,rfl,hc,hva⟩:=ha
 obtain⟨bd,d,rfl,hd,hvb⟩:=hb
 have VA:=hide hva
 have VB:=hide hvb
 clear hva hvb ra rb
 generalize Ans w (.int .i64 (dotS a b a.length))=T at *
 go_enter Tryz.func252,Tryz.ntmps252
 go_wp2_with fail
 go_loop [5,10] (fun s i=>∃m:Nat,i=.int .i64 m∧s=.int .i64 (dotS a b m)∧m≤a.length) (fun _ i=>a.length-(intOf i).toNat)
 case atStart=>exact⟨0,rfl,rfl,Nat.zero_le _⟩
 case round=>
  obtain⟨m,rfl,rfl,hm⟩:=hrel
  by_cases hml:m<a.length
  ·obtain⟨pa,rfl,ca⟩:=VA.out (by omega)
   obtain⟨pb,rfl,cb⟩:=VB.out (by omega)
   have cx:=ca m hml
   have cy:=cb m (by omega)
   obtain⟨x1,x2⟩:=RA.out m
   obtain⟨y1,y2⟩:=RB.out m
   have pq:=p16_bd _ _ x1 x2 y1 y2
   have dd:=DB.out m
   have ST:=dotS_step a b m
   have i1:(m:Int)<a.length:=by omega
   have i2:(m:Int)<b.length:=by omega
   have HS:=hide ST
   clear ca cb DB RA RB VA VB ST F
   obtain⟨p1,p2⟩:=pq
   obtain⟨d1,d2⟩:=dd
   have d3:-107374182400≤dotS a b m:=by omega
   have d4:dotS a b m≤107374182400:=by omega
   clear d1 d2
   generalize dotS a b m=s at *
   generalize nth a m=x at *
   generalize nth b m=y at *
   go_wp2_with fail
   go_round
   case rel=>exact⟨m+1,by go_num,by rw[HS.out],by omega⟩
   case measure=>simp[intOf];omega
  ·obtain rfl:m=a.length:=by omega
   clear VA VB RA RB DB
   generalize dotS a b a.length=s at *
   go_wp2_with fail
   exact F.out
theorem ownP_any {w:World}{b base:Nat}{rs:List Int}(h:Blk w b 3 rs)(hb:base≤b)(hl:rs.length≤35184372088832):Own base w (.slice (some ⟨b,0,none⟩) rs.length rs.length) rs:=
 ⟨by simp,.inr ⟨b,rs.length,arrI rs,rfl,hb,h,Nat.le_refl _,by unfold maxLen;omega,by simp[arrI],by simp[arrI,List.take_of_length_le]⟩⟩
theorem size80p:(Tryz.prog.info? 51).map (·.size)=some 80:=by kernel_rfl
theorem slice80 (b J:Nat)(hJ:J≤79)(u:World):Sem.run Tryz.prog (Instr.sliceAt 51 (.pointer (some ⟨b,0,none⟩)) (some (.int .i64 (J:Int))) none none) u=.ok (.slice (some ⟨b,J,none⟩) (80-J) (80-J)) u:=by
 have e:Tryz.prog.arrayLen 51=80:=by kernel_rfl
 obtain⟨i0,hi,hz0,hz1,hz2⟩:=info_parts infoI64
 rw[run_sliceAt_array_l (P:=Tryz.prog) u 51 _ (by kernel_rfl) .i64 J (by omega) (by omega),e]
 simp[go_sem,slicedAt]
 omega
theorem Mem2.set2 {w wr:World}{T1 T2:TypeId}{a b:List Int}(h:Mem2 w wr T1 T2 a b)(k:Nat)(z:Int):Mem2 w (wr.setCell ⟨w.heap.size+1,k,none⟩ (.int .i64 z)) T1 T2 a (b.set k z):=
 ⟨h.1.keepBut (grown_setCell wr ⟨w.heap.size+1,k,none⟩ (.int .i64 z)) (by simp),h.2.1.set k z,grown_own h.2.2 (grown_setCell wr ⟨w.heap.size+1,k,none⟩ (.int .i64 z)) (by simp)⟩
theorem tmod_nat (m L:Nat):(m:Int).tmod (L:Int)=((m % L:Nat):Int):=by
 rw[Int.tmod_eq_emod_of_nonneg (by omega)];exact(Int.natCast_emod m L).symm
set_option maxRecDepth 100000 in
theorem pitPast_any (h:List Int)(hh:h.length=80)(lag:Int)(w:World) :
  Calls Tryz.prog 154 #[.agg (arrI h),.int .i64 lag] w (ListE w (pasL h lag) (pasE lag)):=by
 have WI:=hide (fun w'=>pitWithin_any lag 20 79 w')
 have G0:=hide (grown_alloc w (.cells (arrI h) 51) none)
 by_cases hlag:20≤lag∧lag≤79
 ·rw[decide_eq_true hlag]at WI
  obtain⟨L,rfl⟩:∃L:Nat,lag=(L:Int):=⟨lag.toNat,by omega⟩
  obtain⟨e1,e2⟩:=pasL_yes h L (by omega) (by omega)
  rw[e1,e2]
  obtain⟨l1,l2⟩:=hlag
  have M0:=hide (show Mem2 w ((w.alloc (.cells (arrI h) 51)).alloc (.cells (arrI (zeros 40)) 3)) 51 3 h (zeros 40)from laid2 w 51 3 h (zeros 40))
  have hsl:=slice80 w.heap.size (80-L) (by omega)
  have hJ:(80:Int)-(L:Int)=((80-L:Nat):Int):=by omega
  have hJ2:80-(80-L)=L:=by omega
  rw[hJ2]at hsl
  have hmk:=make_zeros 40 (by omega)
  rw[show((40:Nat):Int)=40 from rfl]at hmk
  have BJ:=hide (show ∀i,80-L+i=(80-L)+i from fun _=>rfl)
  clear e1 e2 G0
  generalize hj:80-L=J at *
  have HJ:=hide hj
  have jb:J+L=80:=by omega
  clear hj hJ2
  go_enter Tryz.func154,Tryz.ntmps154
  go_wp2_with fail
  refine(WI.out _).mono ?_
  rintro e w1 ⟨rfl,rfl⟩
  clear WI
  go_wp2_with fail
  clear hmk hsl
  generalize (w.alloc (.cells (arrI h) 51)).alloc _=W0 at *
  go_loopw [18] (fun i wr=>∃(m:Nat) (rs:List Int),i=.int .i64 m∧m≤40∧Hid (FillN 40 (pasN h L) m rs)∧Hid (Mem2 w wr 51 3 h rs)) (fun i _=>40-(intOf i).toNat)
  case atStart=>exact⟨0,zeros 40,rfl,Nat.zero_le _,fillN_start 40 _,M0.out⟩
  case round=>
   obtain⟨m,rs,rfl,hm,hF,hM⟩:=hrel
   clear M0
   by_cases hm40:m<40
   ·have hlen:rs.length=40:=hF.out.1
    have hq:m % L<L:=Nat.mod_lt m (by omega)
    have cx:=hM.out.1.cell (J+m % L) (by omega)
    rw[show nth h (J+m % L)=pasN h L m by unfold pasN;rw[HJ.out]]at cx
    have cd:=hM.out.2.1.cell m (by omega)
    have fd:=hM.out.2.1.free m
    have NF:=hide (fillN_step hF.out hm40)
    have NM:=hide (hM.out.set2 m (pasN h L m))
    have tm:=tmod_nat m L
    have i1:(m:Int)<40:=by omega
    have i2:¬(L:Int)=0:=by omega
    have i3:((m % L:Nat):Int)<L:=by omega
    clear hF hM hlen HJ BJ
    generalize pasN h L m=z at *
    generalize nth rs m=q at *
    generalize m % L=M at *
    go_wp2_with fail
    go_roundw
    case rel=>exact⟨m+1,_,by go_num,by omega,NF.out,NM.out⟩
    case measure=>simp[intOf];omega
   ·obtain rfl:m=40:=by omega
    have EL:=hide (show rs=pasV h L from fillN_all hF.out)
    have hlen:rs.length=40:=hF.out.1
    have OF:=ownP_any (base:=w.heap.size) hM.out.2.1 (by omega) (by omega)
    rw[hlen]at OF
    have GF:=hide hM.out.2.2
    have OO:=hide OF
    clear hF hM OF HJ BJ
    go_wp2_with fail
    go_ret2
    rw[EL.out]at OO
    exact⟨_,rfl,OO.out,GF.out⟩
 ·rw[show pasL h lag=[]from if_neg hlag,show pasE lag=2 from if_neg hlag]
  rw[decide_eq_false hlag]at WI
  clear hlag
  go_enter Tryz.func154,Tryz.ntmps154
  go_wp2_with fail
  refine(WI.out _).mono ?_
  rintro e w1 ⟨rfl,rfl⟩
  clear WI
  go_wp2_with fail
  go_ret2
  exact⟨_,rfl,Own_nil _ _,G0.out⟩
end Go.Proofs.YtdejpongekicdaaGreatDoor

/- PitG -/
namespace Go.Proofs.YtdejpongekicdaaGreatDoor
open Go.RowKit
set_option linter.unusedVariables false
set_option linter.unusedSimpArgs false
set_option maxHeartbeats 1000000
theorem pitGain_any (n:Int)(w:World)(ht:TabA w 2 gains 8):Calls Tryz.prog 161 #[.int .i64 n] w (Ans w (.tuple #[.int .i64 (gaV n),.int .i64 (gaE n)])):=by
 have WI:=hide (pitWithin_any n 0 7 w)
 by_cases h:0≤n∧n≤7
 ·rw[decide_eq_true h]at WI
  rw[show gaV n=gainN n.toNat from if_pos h,show gaE n=0 from if_pos h]
  obtain⟨k,rfl⟩:∃k:Nat,n=(k:Int):=⟨n.toNat,by omega⟩
  rw[Int.toNat_natCast]
  have ck:=ht k (by omega)
  rw[show gains.getD k 0=gainN k from rfl]at ck
  have i1:(k:Int)<8:=by omega
  clear ht h
  generalize gainN k=z at *
  go_enter Tryz.func161,Tryz.ntmps161
  go_wp2_with fail
  refine WI.out.mono ?_
  rintro e w1 ⟨rfl,rfl⟩
  clear WI
  go_wp2_with fail
  go_ret2
  exact⟨rfl,rfl⟩
 ·rw[decide_eq_false h]at WI
  rw[show gaV n=0 from if_neg h,show gaE n=2 from if_neg h]
  clear ht h
  go_enter Tryz.func161,Tryz.ntmps161
  go_wp2_with fail
  refine WI.out.mono ?_
  rintro e w1 ⟨rfl,rfl⟩
  clear WI
  go_wp2_with fail
  go_ret2
  exact⟨rfl,rfl⟩
theorem neN_yes (c e:Int)(m:Nat)(h8:m+1<8)(h:(gainN (m+1)+gainN m)*e<32768*c):neN c e (m+1)=m+1:=if_pos ⟨h8,by omega⟩
theorem neN_no (c e:Int)(m:Nat)(h:¬(gainN (m+1)+gainN m)*e<32768*c):neN c e (m+1)=neN c e m:=if_neg (fun x=>h (by have:=x.2;omega))
theorem pitNear_yes (c e:Int)(w:World)(ht:TabA w 2 gains 8)(c0:0<c)(c9:c≤9223372036854775807)(e0:0<e)(e9:e≤9223372036854775807) :
  Calls Tryz.prog 153 #[.int .i64 c,.int .i64 e] w (AnsG w (.int .i64 (neN (cap40 c) (cap40 e) 7:Int))):=by
 have HT:=hide ht
 have e1:min c 1099511627776=cap40 c:=by unfold cap40;split<;>omega
 have e2:min e 1099511627776=cap40 e:=by unfold cap40;split<;>omega
 have e3:(if 1099511627776<c then 1099511627776 else c)=cap40 c:=rfl
 have e4:(if 1099511627776<e then 1099511627776 else e)=cap40 e:=rfl
 obtain⟨b1,b2⟩:=cap40_bd c c0
 obtain⟨b3,b4⟩:=cap40_bd e e0
 clear ht
 go_enter Tryz.func153,Tryz.ntmps153
 go_upto_region 4 with fail
 clear e1 e2 e3 e4
 generalize cap40 c=C at *
 generalize cap40 e=E at *
 clear c0 c9 e0 e9
 go_wp2_with fail
 go_loopw [5,6] (fun s i wr=>∃m:Nat,i=.int .i64 ((m+1:Nat):Int)∧s=.int .i64 (neN C E m:Int)∧m≤7∧Hid (GrownW w wr)) (fun _ i _=>9-(intOf i).toNat)
 case atStart=>exact⟨0,rfl,rfl,by omega,grown_refl _ _⟩
 case round=>
  obtain⟨m,rfl,rfl,hm,hG⟩:=hrel
  by_cases hm7:m<7
  ·have tw:=TabA_keep HT.out hG.out
   have c1:=tw (m+1) (by omega)
   have c2:=tw m (by omega)
   rw[show gains.getD (m+1) 0=gainN (m+1)from rfl]at c1
   rw[show gains.getD m 0=gainN m from rfl]at c2
   have NY:=hide (neN_yes C E m (by omega))
   have NN:=hide (neN_no C E m)
   obtain⟨g1,g2⟩:=gainN_bd (m+1)
   obtain⟨g3,g4⟩:=gainN_bd m
   clear tw
   generalize neN C E m=s at *
   generalize gainN (m+1)=x at *
   generalize gainN m=y at *
   have q1:0≤(x+y)*E:=Int.mul_nonneg (by omega) (by omega)
   have q2:(x+y)*E≤36044*1099511627776:=Int.mul_le_mul (by omega) (by omega) (by omega) (by omega)
   have i1:((m+1:Nat):Int)<8:=by omega
   have i2:((m+1:Nat):Int)-1=(m:Int):=by omega
   have i3:(m:Int)<8:=by omega
   have w1:wrap64 (32768*C)=32768*C:=by simp only[wrap64];omega
   have w2:wrap64 ((x+y)*E)=(x+y)*E:=by simp only[wrap64];omega
   generalize hJ:m+1=J at *
   by_cases hd:(x+y)*E<32768*C
   ·have HEN:=hide (NY.out hd)
    clear NY NN
    go_wp2_with fail
    go_big_quiet (fail)
    go_wp2_with fail
    go_roundw
    case rel=>exact⟨J,by go_num,by rw[HEN.out],by omega,gw_trans hG.out (by first|exact grown_drewN' _ _ none|exact grown_drew (grown_refl _ none))⟩
    case measure=>simp[intOf];omega
   ·have HEN:=hide (NN.out hd)
    have hd':32768*C≤(x+y)*E:=by omega
    clear NY NN
    go_wp2_with fail
    go_big_quiet (fail)
    go_wp2_with fail
    go_roundw
    case rel=>exact⟨J,by go_num,by rw[HEN.out],by omega,gw_trans hG.out (by first|exact grown_drewN' _ _ none|exact grown_drew (grown_refl _ none))⟩
    case measure=>simp[intOf];omega
  ·obtain rfl:m=7:=by omega
   rw[show((7+1:Nat):Int)=8 from rfl]
   generalize neN C E 7=s at *
   go_wp2_with fail
   go_ret
   exact⟨rfl,hG.out⟩
theorem pitNear_any (c e:Int)(w:World)(ht:TabA w 2 gains 8)(c9:c≤9223372036854775807)(e9:e≤9223372036854775807) :
  Calls Tryz.prog 153 #[.int .i64 c,.int .i64 e] w (AnsG w (.int .i64 (neV c e))):=by
 by_cases hc:c≤0
 ·rw[show neV c e=0 from if_pos (.inl hc)]
  clear ht
  go_enter Tryz.func153,Tryz.ntmps153
  go_wp2_with fail
  go_ret
  exact⟨rfl,grown_refl _ _⟩
 ·by_cases he:e≤0
  ·rw[show neV c e=0 from if_pos (.inr he)]
   clear ht
   go_enter Tryz.func153,Tryz.ntmps153
   go_wp2_with fail
   go_ret
   exact⟨rfl,grown_refl _ _⟩
  ·rw[show neV c e=(neN (cap40 c) (cap40 e) 7:Int)from if_neg (fun x=>x.elim hc he)]
   exact pitNear_yes c e w ht (by omega) c9 (by omega) e9
end Go.Proofs.YtdejpongekicdaaGreatDoor

/- PartL -/
namespace Go.Proofs.YtdejpongekicdaaGreatDoor
open Go.RowKit
set_option linter.unusedVariables false
set_option linter.unusedSimpArgs false
set_option maxHeartbeats 1000000
def splI (L:List Int)(off:Nat)(M:List Int):List Int:=L.take off++M++L.drop (off+M.length)
theorem splI_len (L:List Int)(off:Nat)(M:List Int)(h:off+M.length≤L.length):(splI L off M).length=L.length:=by simp[splI];omega
theorem splI_nth (L:List Int)(off:Nat)(M:List Int)(h:off+M.length≤L.length)(k:Nat):nth (splI L off M) k=if k<off then nth L k else if k<off+M.length then nth M (k-off)else nth L k:=by
 unfold splI nth
 have e:min off L.length=off:=by omega
 by_cases h1:k<off
 ·rw[if_pos h1]
  simp[List.getD,List.getElem?_append,h1,e,show k<L.length by omega,show k<off+M.length by omega]
 ·rw[if_neg h1]
  by_cases h2:k<off+M.length
  ·rw[if_pos h2]
   simp[List.getD,List.getElem?_append,e,h1,h2]
   rw[if_pos (by omega)]
  ·rw[if_neg h2]
   simp[List.getD,List.getElem?_append,e,h1,h2]
   rw[if_neg (by omega),show off+M.length+(k-off-M.length)=k by omega]
theorem grown_setRowI (w:World)(g:Nat)(cs:Array Value):w.grownBy (w.setRow g cs) (some g):=
 ⟨rfl,rfl,rfl,by simp,fun k _ h=>setRow_other w g k cs (fun e=>h (by rw[e]))⟩
end Go.Proofs.YtdejpongekicdaaGreatDoor

/- GaiF -/
namespace Go.Proofs.YtdejpongekicdaaGreatDoor
open Go.RowKit
set_option linter.unusedVariables false
set_option linter.unusedSimpArgs false
set_option maxHeartbeats 1000000
theorem gaiFade_any (g k:Int)(w:World):Calls Tryz.prog 175 #[.int .i64 g,.int .i64 k] w fun x w'=>x=.returned (.int .i64 (fdV g k))∧w'=w:=by
 by_cases hg:g<0
 ·rw[show fdV g k=0 from if_pos (.inl hg)]
  go_enter Tryz.func175,Tryz.ntmps175
  go_wp2_with fail
  go_ret
  exact⟨rfl,rfl⟩
 ·by_cases hk:6≤k
  ·rw[show fdV g k=0 from if_pos (.inr hk)]
   go_enter Tryz.func175,Tryz.ntmps175
   go_wp2_with fail
   go_ret
   exact⟨rfl,rfl⟩
  ·rw[show fdV g k=fdN g k.toNat from if_neg (by omega)]
   have hk':k<6:=by omega
   have hg':0≤g:=by omega
   have e1:min g 32767=fdN g 0:=by show min g 32767=(if 32767<g then 32767 else g);split<;>omega
   have e2:(if 32767<g then 32767 else g)=fdN g 0:=rfl
   have B:=hide (fdN_bd g hg')
   have ES:=hide (show ∀n,fdN g (n+1)=fdN g n*26214 / 32768 from fun n=>rfl)
   clear hg hk
   go_enter Tryz.func175,Tryz.ntmps175
   go_upto_region 4 with fail
   have HM:∃z:Int,z=fdN g 0:=⟨_,rfl⟩
   clear e1 e2
   go_wp2_with fail
   go_loop [0,14] (fun s i=>∃m:Nat,i=.int .i64 (m:Int)∧s=.int .i64 (fdN g m)∧((m:Int)≤k∨m=0)) (fun _ i=>6-(intOf i).toNat)
   case atStart=>exact⟨0,rfl,rfl,.inr rfl⟩
   case round=>
    obtain⟨m,rfl,rfl,hm⟩:=hrel
    obtain⟨b1,b2⟩:=B.out m
    by_cases hmk:(m:Int)<k
    ·have E1:=hide (ES.out m)
     clear B ES hm HM
     generalize fdN g m=s at *
     go_wp2_with fail
     go_round
     case rel=>exact⟨m+1,by go_num,by rw[E1.out],.inl (by omega)⟩
     case measure=>simp[intOf];omega
    ·have HK:=hide (show k.toNat=m by omega)
     clear B ES HM
     generalize hS:fdN g m=s at *
     have HS:=hide hS
     clear hS
     go_wp2_with fail
     go_ret
     exact⟨by rw[HK.out,HS.out];rfl,rfl⟩
theorem gaiNoise_any (s x:Int)(w:World):Calls Tryz.prog 237 #[.int .i64 s,.int .i64 x] w fun e w'=>e=.returned (.tuple #[.int .i64 (noS s),.int .i64 (noX s x)])∧w'=w:=by
 have e2:bits .and .i64 (wrap64 (wrap64 (s*31821)+13849)) 65535=noS s:=wrap_and16 _ _ (by simp only[wrap64];omega)
 obtain⟨a1,a2⟩:=noS_bd s
 obtain⟨p1,p2⟩:=noP_bd s x
 rw[show noX s x=(noS s-32768)*noZ x / 32768 from rfl]
 generalize noS s=t at *
 by_cases h1:x<0
 ·rw[show noZ x=0 from if_pos h1,Int.mul_zero,show(0:Int) / 32768=0 from rfl]
  clear p1 p2
  have m1:max x 0=0:=by omega
  have m2:min (0:Int) 32767=0:=by omega
  go_enter Tryz.func237,Tryz.ntmps237
  go_wp2_with fail
  go_ret2
  exact⟨rfl,rfl⟩
 ·by_cases h2:32767<x
  ·rw[show noZ x=32767 from by unfold noZ;rw[if_neg h1,if_pos h2]]at *
   have m1:max x 0=x:=by omega
   have m2:min x 32767=32767:=by omega
   go_enter Tryz.func237,Tryz.ntmps237
   go_wp2_with fail
   go_ret2
   exact⟨rfl,rfl⟩
  ·rw[show noZ x=x from by unfold noZ;rw[if_neg h1,if_neg h2]]at *
   have m1:max x 0=x:=by omega
   have m2:min x 32767=x:=by omega
   have w1:wrap64 ((t-32768)*x)=(t-32768)*x:=by simp only[wrap64];omega
   go_enter Tryz.func237,Tryz.ntmps237
   go_wp2_with fail
   go_ret2
   exact⟨rfl,rfl⟩
end Go.Proofs.YtdejpongekicdaaGreatDoor

/- PulA -/
namespace Go.Proofs.YtdejpongekicdaaGreatDoor
open Go.RowKit
set_option linter.unusedVariables false
set_option linter.unusedSimpArgs false
set_option maxHeartbeats 1000000
theorem build4 (u:World):Sem.run Tryz.prog (Instr.build 77 #[]) u=.ok (.agg (arrI (zeros 4))) u:=run_build u 77 #[] (arrI (zeros 4)) (by kernel_rfl)
theorem size4:(Tryz.prog.info? 77).map (·.size)=some 4:=by kernel_rfl
theorem pulWithin_any (x a b:Int)(w:World):Calls Tryz.prog 231 #[.int .i64 x,.int .i64 a,.int .i64 b] w (Ans w (.bool (decide (a≤x∧x≤b)))):=by
 by_cases h1:a≤x
 ·by_cases h2:x≤b
  ·rw[decide_eq_true (show a≤x∧x≤b from⟨h1,h2⟩)]
   go_enter Tryz.func231,Tryz.ntmps231
   go_wp2_with fail
   go_ret
   exact⟨rfl,rfl⟩
  ·rw[decide_eq_false (show ¬(a≤x∧x≤b)from fun h=>h2 h.2)]
   go_enter Tryz.func231,Tryz.ntmps231
   go_wp2_with fail
   go_ret
   exact⟨rfl,rfl⟩
 ·rw[decide_eq_false (show ¬(a≤x∧x≤b)from fun h=>h1 h.1)]
  go_enter Tryz.func231,Tryz.ntmps231
  go_wp2_with fail
  go_ret
  exact⟨rfl,rfl⟩
theorem pulAt_any (t p:Int)(h1:0≤t)(h2:t≤3)(h3:0≤p)(h4:p≤9)(w:World):Calls Tryz.prog 233 #[.int .i64 t,.int .i64 p] w (Ans w (.int .i64 (t+4*p))):=by
 have F:=hide (show Ans w (.int .i64 (t+4*p)) (.returned (.int .i64 (t+4*p))) w from⟨rfl,rfl⟩)
 generalize Ans w (.int .i64 (t+4*p))=T at *
 go_enter Tryz.func233,Tryz.ntmps233
 go_wp2_with fail
 exact F.out
theorem pulSign_any (x:Int)(w:World):Calls Tryz.prog 256 #[.int .i64 x] w (Ans w (.int .i64 (sg x))):=by
 rcases sg_cases x with⟨h,e⟩|⟨h,e⟩
 ·rw[e];clear e
  go_enter Tryz.func256,Tryz.ntmps256
  go_wp2_with fail
  go_ret
  exact⟨rfl,rfl⟩
 ·rw[e];clear e
  go_enter Tryz.func256,Tryz.ntmps256
  go_wp2_with fail
  go_ret
  exact⟨rfl,rfl⟩
theorem pulPlaces_any (x:List Int)(hx:x.length=4)(w:World):Calls Tryz.prog 232 #[.agg (arrI x)] w (AnsG w (.bool (goodX x))):=by
 have B0:=hide (Blk.new w 77 x)
 have G0:=hide (grown_alloc w (.cells (arrI x) 77) none)
 have Y:=hide (fun(hh:∀i,i<4→0≤nth x i∧nth x i≤9)=>(show AnsG w (.bool (goodX x)) (.returned (.bool true)) (w.alloc (.cells (arrI x) 77))from⟨by rw[(goodX_iff x).2 (by rw[hx];exact hh)],G0.out⟩))
 have N:=hide (fun i (hi':i<4) (hh:¬(0≤nth x i∧nth x i≤9))=>(show AnsG w (.bool (goodX x)) (.returned (.bool false)) (w.alloc (.cells (arrI x) 77))from⟨by
  rcases hb:goodX x with _|_
  ·rfl
  ·exact absurd ((goodX_iff x).1 hb i (by omega)) hh,G0.out⟩))
 have IX:=hide (fun(k:Nat) (hk:k<4)=>index_arr x Tryz.underlying77 k (by omega) hx)
 generalize AnsG w (.bool (goodX x))=T at *
 clear G0
 go_enter Tryz.func232,Tryz.ntmps232
 go_wp2_with (first|refine wpList_load_arr rfl 77 _ rfl _ rfl _ B0.out _ Tryz.underlying77 rfl (by rw[hx];exact size4) ?_)
 clear B0
 generalize w.alloc (.cells (arrI x) 77)=W0 at *
 go_loop [4,6] (fun _ i=>∃k:Nat,i=.int .i64 k∧k≤4∧Hid (∀i,i<k→0≤nth x i∧nth x i≤9)) (fun _ i=>4-(intOf i).toNat)
 case atStart=>exact⟨0,rfl,Nat.zero_le _,fun i hi=>by omega⟩
 case round=>
  obtain⟨k,rfl,hk,hG⟩:=hrel
  by_cases hk4:k<4
  ·have hix:=IX.out k hk4
   have NK:=hide (N.out k hk4)
   have GK:=hide (fun(hh:0≤nth x k∧nth x k≤9)=>(show ∀i,i<k+1→0≤nth x i∧nth x i≤9 from fun i hi=>by
    rcases Nat.lt_or_ge i k with g|g
    ·exact hG.out i g
    ·obtain rfl:i=k:=by omega
     exact hh))
   clear Y N hG IX
   generalize nth x k=z at *
   have kl1:(k:Int)<4:=by omega
   have ST:=hide (pulWithin_any z 0 9 W0)
   by_cases hz:0≤z∧z≤9
   ·have F:=hide (GK.out hz)
    rw[decide_eq_true hz]at ST
    clear NK GK hz
    go_wp2_with fail
    refine ST.out.mono ?_
    rintro e w1 ⟨rfl,rfl⟩
    clear ST
    go_wp2_with fail
    go_round
    case rel=>exact⟨k+1,by go_num,by omega,F.out⟩
    case measure=>simp[intOf];omega
   ·have F:=hide (NK.out hz)
    rw[decide_eq_false hz]at ST
    clear NK GK hz
    go_wp2_with fail
    refine ST.out.mono ?_
    rintro e w1 ⟨rfl,rfl⟩
    clear ST
    go_wp2_with fail
    exact F.out
  ·obtain rfl:k=4:=by omega
   have F:=hide (Y.out hG.out)
   clear Y N hG IX
   go_wp2_with fail
   exact F.out
theorem pulSamples_any (v:Value)(l:List Int)(w:World)(h:Ints w v l)(hl:l.length≤1000000000000000000) :
  Calls Tryz.prog 224 #[v] w (Ans w (.bool (rightB l))):=by
 obtain⟨ad,c,rfl,hc,hcell⟩:=h
 have Y:=hide (fun(hh:∀i,i<l.length→-32768≤nth l i∧nth l i≤32767)=>(show Ans w (.bool (rightB l)) (.returned (.bool true)) w from⟨by rw[(rightB_iff l).2 hh],rfl⟩))
 have N:=hide (fun i (hi':i<l.length) (hh:¬(-32768≤nth l i∧nth l i≤32767))=>(show Ans w (.bool (rightB l)) (.returned (.bool false)) w from⟨by
  rcases hb:rightB l with _|_
  ·rfl
  ·exact absurd ((rightB_iff l).1 hb i hi') hh,rfl⟩))
 generalize Ans w (.bool (rightB l))=T at *
 go_enter Tryz.func224,Tryz.ntmps224
 go_wp2_with fail
 go_loop [7] (fun i=>∃k:Nat,i=.int .i64 k∧k≤l.length∧Hid (∀i,i<k→-32768≤nth l i∧nth l i≤32767)) (fun i=>l.length-(intOf i).toNat)
 case atStart=>exact⟨0,rfl,Nat.zero_le _,fun i hi=>by omega⟩
 case round=>
  obtain⟨k,rfl,hk,hG⟩:=hrel
  by_cases hkl:k<l.length
  ·obtain⟨a,rfl,hv⟩:=hcell (by omega)
   have hck:=hv k hkl
   have NK:=hide (N.out k hkl)
   have GK:=hide (fun(hh:-32768≤nth l k∧nth l k≤32767)=>(show ∀i,i<k+1→-32768≤nth l i∧nth l i≤32767 from fun i hi=>by
    rcases Nat.lt_or_ge i k with g|g
    ·exact hG.out i g
    ·obtain rfl:i=k:=by omega
     exact hh))
   clear hcell hv Y N hG
   generalize nth l k=z at *
   have kl1:(k:Int)<l.length:=by omega
   have ST:=hide (pulWithin_any z (-32768) 32767 w)
   by_cases hz:-32768≤z∧z≤32767
   ·have F:=hide (GK.out hz)
    rw[decide_eq_true hz]at ST
    clear NK GK hz
    go_wp2_with fail
    refine ST.out.mono ?_
    rintro e w1 ⟨rfl,rfl⟩
    clear ST
    go_wp2_with fail
    go_round
    case rel=>exact⟨k+1,by go_num,by omega,F.out⟩
    case measure=>simp[intOf];omega
   ·have F:=hide (NK.out hz)
    rw[decide_eq_false hz]at ST
    clear NK GK hz
    go_wp2_with fail
    refine ST.out.mono ?_
    rintro e w1 ⟨rfl,rfl⟩
    clear ST
    go_wp2_with fail
    exact F.out
  ·obtain rfl:k=l.length:=by omega
   have F:=hide (Y.out hG.out)
   clear hcell Y N hG
   go_wp2_with fail
   exact F.out
theorem dotS_stepP (a b:List Int)(n:Nat):dotS a b (n+1)=dotS a b n+nth a n*nth b n:=rfl
theorem pulProduct_any (v u:Value)(a b:List Int)(w:World)(ha:Ints w v a)(hb:Ints w u b)(hl:a.length≤b.length)(hn:a.length≤100)(ra:rightB a=true)(rb:rightB b=true) :
  Calls Tryz.prog 225 #[v,u] w (Ans w (.int .i64 (dotS a b a.length))):=by
 have F:=hide (show Ans w (.int .i64 (dotS a b a.length)) (.returned (.int .i64 (dotS a b a.length))) w from⟨rfl,rfl⟩)
 have DB:=hide (dotS_bd a b ra rb)
 have RA:=hide (nth_in a (-32768) 32767 (by omega) (by omega) ((rightB_iff a).1 ra))
 have RB:=hide (nth_in b (-32768) 32767 (by omega) (by omega) ((rightB_iff b).1 rb))
 obtain⟨ad,c,rfl,hc,hva⟩:=ha
 obtain⟨bd,d,rfl,hd,hvb⟩:=hb
 have VA:=hide hva
 have VB:=hide hvb
 clear hva hvb ra rb
 generalize Ans w (.int .i64 (dotS a b a.length))=T at *
 go_enter Tryz.func225,Tryz.ntmps225
 go_wp2_with fail
 go_loop [5,10] (fun s i=>∃m:Nat,i=.int .i64 m∧s=.int .i64 (dotS a b m)∧m≤a.length) (fun _ i=>a.length-(intOf i).toNat)
 case atStart=>exact⟨0,rfl,rfl,Nat.zero_le _⟩
 case round=>
  obtain⟨m,rfl,rfl,hm⟩:=hrel
  by_cases hml:m<a.length
  ·obtain⟨pa,rfl,ca⟩:=VA.out (by omega)
   obtain⟨pb,rfl,cb⟩:=VB.out (by omega)
   have cx:=ca m hml
   have cy:=cb m (by omega)
   obtain⟨x1,x2⟩:=RA.out m
   obtain⟨y1,y2⟩:=RB.out m
   have pq:=p16_bd _ _ x1 x2 y1 y2
   have dd:=DB.out m
   have ST:=dotS_stepP a b m
   have i1:(m:Int)<a.length:=by omega
   have i2:(m:Int)<b.length:=by omega
   have HS:=hide ST
   clear ca cb DB RA RB VA VB ST F
   obtain⟨p1,p2⟩:=pq
   obtain⟨d1,d2⟩:=dd
   have d3:-107374182400≤dotS a b m:=by omega
   have d4:dotS a b m≤107374182400:=by omega
   clear d1 d2
   generalize dotS a b m=s at *
   generalize nth a m=x at *
   generalize nth b m=y at *
   go_wp2_with fail
   go_round
   case rel=>exact⟨m+1,by go_num,by rw[HS.out],by omega⟩
   case measure=>simp[intOf];omega
  ·obtain rfl:m=a.length:=by omega
   clear VA VB RA RB DB
   generalize dotS a b a.length=s at *
   go_wp2_with fail
   exact F.out
end Go.Proofs.YtdejpongekicdaaGreatDoor
