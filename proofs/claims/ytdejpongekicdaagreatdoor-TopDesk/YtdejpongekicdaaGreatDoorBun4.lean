/- Texts put together: PitD, PulB, PulC, PulD, PulE, PulF, PulG, PulH, PkpD, Tabs. -/
import Derived.Test.YtdejpongekicdaaGreatDoorBun3
import Derived.Test.YtdejpongekicdaaGreatDoorBun1
import Derived.Defers
import Derived.Recover
import Derived.BigQuiet
import Derived.Deep.QuietTactic
import Derived.Test.YtdejpongekicdaaGreatDoorBun2
import Derived.ProofKit
import Derived.OpenShut
import Derived.LaidMore
import Derived.Stop.Joined
import Derived.Lib.LaidTab
/- PitD -/
namespace Go.Proofs.YtdejpongekicdaaGreatDoor
open Go.RowKit
set_option linter.unusedVariables false
set_option linter.unusedSimpArgs false
set_option maxHeartbeats 1000000
theorem pitCatch_idle (p q:Addr)(w:World) :
  CallsD Tryz.prog 254 #[.pointer (some p),.pointer (some q)] .returning w fun e u' w'=>e=.returned (.tuple #[])∧u'=.returning∧w'=w:=by
 refine callsD_of_wpS Tryz.func254 rfl fun c₀ cs hu=>?_
 apply wpS_seq
 apply wpS_region
 simp[wpOpsS,go_sem,recoverD,hu,Tryz.ntmps254,Exit.thenS]
 refine wpS_cond (t:=false) (by simp[Act.eval,Array.replicate]) ?_
 simp only[Bool.false_eq_true,if_false]
 refine wpS_of_wp (wp_skip ?_)
 cases c₀
 simp_all [bodyPostS,results,Tryz.results254]
theorem Ints_set {w:World}{v:Value}{l:List Int}{p:Addr}{x y:Value}(h:Ints w v l)(hc:w.cell? p=some x)(hx:(∀z,x≠.int .i64 z)∨x=y):Ints (w.setCell p y) v l:=by
 obtain⟨ad,c,rfl,h1,h2⟩:=h
 refine⟨ad,c,rfl,h1,fun h0=>?_⟩
 obtain⟨a,rfl,h3⟩:=h2 h0
 refine⟨a,rfl,fun i hi=>?_⟩
 have h4:=h3 i hi
 by_cases e:a.add i=p
 ·rw[e]at h4 ⊢
  rw[hc]at h4
  cases h4
  rcases hx with hx|hx
  ·exact absurd rfl (hx _)
  ·rw[←hx]
   exact World.cell?_setCell_same' w p _ (by rw[hc];rfl)
 ·rw[World.cell?_setCell_other (h:=fun x=>e x.symm)]
  exact h4
def FoldE (w:World)(f:List Int)(e:Ending)(w':World):Prop:=∃v',e=.returned (.tuple #[v',.int .i64 (if goodB f=true then 0 else 1)])∧w.grownBy w' none∧(goodB f=true→Ints w' v' f)
theorem pitFolded_any (n:Nat)(caps:Array Value)(F:List Int→List Int)(v:Value)(l:List Int)(w:World)(hen:∀args u,(callFunc n args).run Tryz.prog u=.ok (.enter n args) u)(HF:Folds w n caps F)(h:Ints w v l)(hsh:Shp v l)(hl:l.length=40)(hr:rightB l=true) :
  Calls Tryz.prog 222 #[.func (.func n) #[] caps,v] w (FoldE w (F l)):=by
 have hmf:∀(fn:Fn) (first cap:Array Value) (w:World),(Instr.makeFunc fn first cap).run Tryz.prog w=.ok (.func fn first cap) w:=fun _ _ _ _=>rfl
 have g0:w.grownBy ((w.alloc (.cells #[.slice none 0 0] 26)).alloc (.cells #[.int .i64 0] 31)) none:=grown_none (grown_alloc _ _ none) (grown_alloc _ _ none)
 have b4:((w.alloc (.cells #[.slice none 0 0] 26)).alloc (.cells #[.int .i64 0] 31)).heap[w.heap.size]?=some (.cells #[.slice none 0 0] 26 (0,0)):=((grown_alloc _ _ none).block _ (by simp) (by simp)).trans (heap_new w _)
 have b5:((w.alloc (.cells #[.slice none 0 0] 26)).alloc (.cells #[.int .i64 0] 31)).heap[w.heap.size+1]?=some (.cells #[.int .i64 0] 31 (0,0)):=by
  have:=heap_new (w.alloc (.cells #[.slice none 0 0] 26)) (.cells #[.int .i64 0] 31)
  simpa using this
 have F1:=hide (HF _ v l g0 (Ints_keep h g0) hsh hl hr)
 have G0:=hide g0
 have B4:=hide b4
 have B5:=hide b5
 clear g0 b4 b5 HF h hsh hl hr
 generalize F l=f at *
 have YB:=hide (fun(w':World) (v':Value) (g:goodB f=false) (gr:w.grownBy w' none)=>(show FoldE w f (.returned (.tuple #[v',.int .i64 1])) w' from⟨v',by rw[g];rfl,gr,fun x=>by rw[g]at x;cases x⟩))
 have YG:=hide (fun(w':World) (v':Value) (g:goodB f=true) (gr:w.grownBy w' none) (iv:Ints w' v' f)=>(show FoldE w f (.returned (.tuple #[v',.int .i64 0])) w' from⟨v',by rw[g];rfl,gr,fun _=>iv⟩))
 generalize FoldE w f=T at *
 go_enter_defers Tryz.func222,Tryz.ntmps222
 go_wp2_with fail
 generalize (w.alloc (.cells #[.slice none 0 0] 26)).alloc _=W0 at *
 refine F1.out.mono ?_
 rintro e w1 ⟨v1,rfl,i1,l1,g1⟩
 have b4:=(g1.block _ (lt_of_some B4.out) (by simp)).trans B4.out
 have b5:=(g1.block _ (lt_of_some B5.out) (by simp)).trans B5.out
 have c4:w1.cell? ⟨w.heap.size,0,none⟩=some (.slice none 0 0):=(cell_of_heap b4 0).trans rfl
 have z4:=frozen_of_heap b4 0
 have c5:w1.cell? ⟨w.heap.size+1,0,none⟩=some (.int .i64 0):=(cell_of_heap b5 0).trans rfl
 have z5:=frozen_of_heap b5 0
 have G1:=hide (grown_none G0.out g1)
 have I2:=hide (Ints_set (y:=v1) i1 c4 (.inl (fun z=>by simp)))
 have G2:=hide (grown_own G1.out (grown_setCell w1 ⟨w.heap.size,0,none⟩ v1) (Nat.le_refl _))
 have d4:(w1.setCell ⟨w.heap.size,0,none⟩ v1).cell? ⟨w.heap.size,0,none⟩=some v1:=World.cell?_setCell_same' w1 _ _ (by rw[c4];rfl)
 have d5:(w1.setCell ⟨w.heap.size,0,none⟩ v1).cell? ⟨w.heap.size+1,0,none⟩=some (.int .i64 0):=by rw[World.cell?_setCell_other (h:=by simp)];exact c5
 have y4:(w1.setCell ⟨w.heap.size,0,none⟩ v1).frozen? ⟨w.heap.size,0,none⟩=false:=by rw[World.frozen?_setCell];exact z4
 have y5:(w1.setCell ⟨w.heap.size,0,none⟩ v1).frozen? ⟨w.heap.size+1,0,none⟩=false:=by rw[World.frozen?_setCell];exact z5
 obtain⟨ad,c,rfl,hc,_⟩:=i1
 have SA:=hide (pitSamples_any _ f _ I2.out l1)
 clear F1 g1 b4 b5 B4 B5 G0 hen c5 z5
 go_upto_region 3 with fail
 generalize hw2:w1.setCell ⟨w.heap.size,0,none⟩ (.slice ad f.length c)=w2 at *
 clear hw2 c4 z4
 by_cases h40:f.length=40
 ·rw[h40]at SA I2 d4 ⊢
  rcases hr:rightB f with _|_
  ·rw[hr]at SA
   have YY:=hide (fun w' v' gr=>YB.out w' v' (by unfold goodB;rw[hr];simp) gr)
   clear YB YG
   clear hr h40 hmf
   have GF:=hide (grown_own (grown_own G2.out (grown_setCell w2 ⟨w.heap.size,0,none⟩ (.slice none 0 0)) (Nat.le_refl _)) (grown_setCell _ ⟨w.heap.size+1,0,none⟩ (.int .i64 1)) (by simp))
   go_wp2_with fail
   refine SA.out.mono ?_
   rintro e w3 ⟨rfl,rfl⟩
   clear SA
   go_wp2_with fail
   refine leaves_cons (f:=254) (args:=#[.pointer (some ⟨w.heap.size,0,none⟩),.pointer (some ⟨w.heap.size+1,0,none⟩)]) (by simp) (by simp[go_sem]) ?_
   refine(pitCatch_idle _ _ _).mono ?_
   rintro e u' w'' ⟨rfl,rfl,rfl⟩
   simp[Leaves,settle,results,Tryz.results222,go_sem,d4,d5,y4,y5]
   exact YY.out _ _ GF.out
  ·rw[hr]at SA
   have GA:=grown_own G2.out (grown_setCell w2 ⟨w.heap.size,0,none⟩ (.slice ad 40 c)) (Nat.le_refl _)
   have IA:=Ints_set (y:=.slice ad 40 c) I2.out d4 (.inr rfl)
   have d6:(w2.setCell ⟨w.heap.size,0,none⟩ (.slice ad 40 c)).cell? ⟨w.heap.size+1,0,none⟩=some (.int .i64 0):=by rw[World.cell?_setCell_other (h:=by simp)];exact d5
   have YY:=hide (YG.out _ _ (by unfold goodB;rw[hr,h40];rfl) (grown_own GA (grown_setCell _ ⟨w.heap.size+1,0,none⟩ (.int .i64 0)) (by simp)) (Ints_set (y:=.int .i64 0) IA d6 (.inr rfl)))
   clear hr h40 hmf YB YG GA IA d6 I2
   go_wp2_with fail
   refine SA.out.mono ?_
   rintro e w3 ⟨rfl,rfl⟩
   clear SA
   go_wp2_with fail
   refine leaves_cons (f:=254) (args:=#[.pointer (some ⟨w.heap.size,0,none⟩),.pointer (some ⟨w.heap.size+1,0,none⟩)]) (by simp) (by simp[go_sem]) ?_
   refine(pitCatch_idle _ _ _).mono ?_
   rintro e u' w'' ⟨rfl,rfl,rfl⟩
   simp[Leaves,settle,results,Tryz.results222,go_sem,d4,d5,y4,y5]
   exact YY.out
 ·have YY:=hide (fun w' v' gr=>YB.out w' v' (by unfold goodB;simp[h40]) gr)
  have hb:¬(f.length:Int)=40:=by omega
  have GF:=hide (grown_own (grown_own G2.out (grown_setCell w2 ⟨w.heap.size,0,none⟩ (.slice none 0 0)) (Nat.le_refl _)) (grown_setCell _ ⟨w.heap.size+1,0,none⟩ (.int .i64 1)) (by simp))
  clear YB YG h40 hmf SA I2
  go_wp2_with fail
  refine leaves_cons (f:=254) (args:=#[.pointer (some ⟨w.heap.size,0,none⟩),.pointer (some ⟨w.heap.size+1,0,none⟩)]) (by simp) (by simp[go_sem]) ?_
  refine(pitCatch_idle _ _ _).mono ?_
  rintro e u' w'' ⟨rfl,rfl,rfl⟩
  simp[Leaves,settle,results,Tryz.results222,go_sem,d4,d5,y4,y5]
  exact YY.out _ _ GF.out
theorem enters_pick1 (args:Array Value)(u:World):(callFunc 221 args).run Tryz.prog u=.ok (.enter 221 args) u:=by kernel_rfl
set_option maxRecDepth 100000 in
theorem pitPick1_any (bh bf:Nat)(h:List Int)(hh:h.length=80)(hr:rightB h=true)(n:Nat)(caps:Array Value)(F:List Int→List Int)(k:Nat)(h1:20≤k)(h2:k≤79)(w:World)(hB:Blk w bh 51 h)(hf:w.cell? ⟨bf,0,none⟩=some (.func (.func n) #[] caps))
  (hen:∀args u,(callFunc n args).run Tryz.prog u=.ok (.enter n args) u) (HF:Folds w n caps F) :
  Calls Tryz.prog 221 #[.int .i64 (k:Int),.pointer (some ⟨bh,0,none⟩),.pointer (some ⟨bf,0,none⟩)] w (FoldE w (F (pasV h k))):=by
 have P1:=hide (pitPast_any h hh (k:Int) w)
 rw[(pasL_yes h k h1 h2).1,(pasL_yes h k h1 h2).2]at P1
 have FD:=hide (fun(v:Value) (wr:World) (g:w.grownBy wr none) (iv:Ints wr v (pasV h k)) (sv:Shp v (pasV h k))=>pitFolded_any n caps F v (pasV h k) wr hen (fun wx vx lx gx=>HF wx vx lx (grown_none g gx)) iv sv (pasV_len h k) (pasV_right h k hr))
 have B0:=hide hB
 have KF:=hide (fun(wr:World) (g:w.grownBy wr none)=>grown_keep g hf)
 have hpl:=pasV_len h k
 have HPL:=hide hpl
 clear hen HF hB hr hpl hf
 generalize F (pasV h k)=f at *
 generalize pasV h k=P at *
 go_enter Tryz.func221,Tryz.ntmps221
 go_wp2_with (first|refine wpList_load_arr rfl 51 _ rfl _ rfl _ B0.out _ Tryz.underlying51 rfl (by rw[hh];exact size80p) ?_)
 refine P1.out.mono ?_
 rintro e w1 ⟨v1,rfl,o1,g1⟩
 have F1:=hide (FD.out v1 w1 g1 o1.ints o1.shp)
 have G1:=hide g1
 have kf:=KF.out w1 g1
 clear FD P1 B0 KF g1
 obtain⟨gb,cap,rfl,_,_,_⟩:=o1.form (by rw[HPL.out];omega)
 clear o1
 go_wp2_with fail
 refine F1.out.mono ?_
 rintro e w2 ⟨v2,rfl,g2,i2⟩
 have YY:=hide (show FoldE w f (.returned (.tuple #[v2,.int .i64 (if goodB f=true then 0 else 1)])) w2 from⟨v2,rfl,grown_none G1.out g2,i2⟩)
 clear F1 g2 i2 G1 kf
 generalize (if goodB f=true then(0:Int)else 1)=en at *
 generalize FoldE w f=T at *
 go_wp2_with fail
 exact YY.out
def PickM (w wr:World)(h:List Int)(vf:Value):Prop:=Blk wr w.heap.size 51 h∧wr.heap[w.heap.size+1]?=some (.cells #[vf] 63 (0,0))∧w.grownBy wr none
theorem pickM_new (w:World)(h:List Int)(vf:Value):PickM w ((w.alloc (.cells (arrI h) 51)).alloc (.cells #[vf] 63)) h vf:=
 ⟨(Blk.new w 51 h).keep (grown_alloc _ _ none),by
  have:=heap_new (w.alloc (.cells (arrI h) 51)) (.cells #[vf] 63)
  simpa using this,grown_none (grown_alloc _ _ none) (grown_alloc _ _ none)⟩
theorem PickM.keep {w wr wr':World}{h:List Int}{vf:Value}(x:PickM w wr h vf)(g:wr.grownBy wr' none):PickM w wr' h vf:=⟨x.1.keep g,(g.block _ (lt_of_some x.2.1) (by simp)).trans x.2.1,grown_none x.2.2 g⟩
theorem PickM.hist {w wr:World}{h:List Int}{vf:Value}(x:PickM w wr h vf)(hh:h.length=80):Ints wr (.slice (some ⟨w.heap.size,0,none⟩) 80 80) h:=by
 refine⟨some ⟨w.heap.size,0,none⟩,80,by rw[hh],by omega,fun _=>⟨_,rfl,fun i hi=>?_⟩⟩
 rw[Addr.add_mid,Nat.zero_add]
 exact x.1.cell i hi
set_option maxRecDepth 100000 in
theorem pitPick_size (h t:List Int)(vf vt:Value)(hv:vf=.nilFunc∨∃n caps,vf=.func (.func n) #[] caps)(w:World)(ht:Ints w vt t)(tb:t.length≤1000000000000000000)(h40:¬t.length=40) :
  Calls Tryz.prog 152 #[.agg (arrI h),vf,vt] w fun e w'=>e=.returned (.tuple #[.int .i64 0,.int .i64 0,.int .i64 0,.int .i64 1])∧w.grownBy w' none:=by
 have G0:=hide (pickM_new w h vf).2.2
 obtain⟨ad,c,rfl,hc,_⟩:=ht
 have hb:¬(t.length:Int)=40:=by omega
 clear h40
 rcases hv with rfl|⟨n,caps,rfl⟩<;>
 ·go_enter Tryz.func152,Tryz.ntmps152
  go_wp2_with fail
  (try simp only[Exit.inBlock,Exit.then])
  refine bodyPost_ret (results_tmp4 rfl _ _ _) rfl ?_
  exact⟨rfl,G0.out⟩
set_option maxRecDepth 100000 in
theorem pitPick_range (h t:List Int)(hh:h.length=80)(n:Nat)(caps:Array Value)(vt:Value)(w:World)(ht:Ints w vt t)(h40:t.length=40)(hr:(rightB t&&rightB h)=false) :
  Calls Tryz.prog 152 #[.agg (arrI h),.func (.func n) #[] caps,vt] w fun e w'=>e=.returned (.tuple #[.int .i64 0,.int .i64 0,.int .i64 0,.int .i64 2])∧w.grownBy w' none:=by
 have M0:=hide (pickM_new w h (.func (.func n) #[] caps))
 have RT:=hide (pitSamples_any vt t _ (Ints_keep ht M0.out.2.2) (by omega))
 have RH:=hide (pitSamples_any _ h _ (M0.out.hist hh) (by omega))
 have G0:=hide M0.out.2.2
 obtain⟨ad,c,rfl,hc,_⟩:=ht
 rw[h40]at RT ⊢
 have hnf:=func_nil (.func n) #[] caps
 clear M0 h40 hc
 rcases r1:rightB t with _|_
 ·rw[r1]at RT
  clear r1 hr RH
  go_enter Tryz.func152,Tryz.ntmps152
  go_wp2_with fail
  refine RT.out.mono ?_
  rintro e w1 ⟨rfl,rfl⟩
  go_wp2_with fail
  (try simp only[Exit.inBlock,Exit.then])
  refine bodyPost_ret (results_tmp4 rfl _ _ _) rfl ?_
  exact⟨rfl,G0.out⟩
 ·have r2:rightB h=false:=by rw[r1]at hr;simpa using hr
  rw[r1]at RT
  rw[r2]at RH
  clear r1 r2 hr
  go_enter Tryz.func152,Tryz.ntmps152
  go_wp2_with fail
  refine RT.out.mono ?_
  rintro e w1 ⟨rfl,rfl⟩
  go_wp2_with fail
  refine RH.out.mono ?_
  rintro e w1 ⟨rfl,rfl⟩
  go_wp2_with fail
  (try simp only[Exit.inBlock,Exit.then])
  refine bodyPost_ret (results_tmp4 rfl _ _ _) rfl ?_
  exact⟨rfl,G0.out⟩
set_option maxRecDepth 100000 in
theorem pitPick_yes (h t:List Int)(hh:h.length=80)(n:Nat)(caps:Array Value)(F:List Int→List Int)(vt:Value)(w:World)(hen:∀args u,(callFunc n args).run Tryz.prog u=.ok (.enter n args) u)(HF:Folds w n caps F)(ht:Ints w vt t)(h40:t.length=40)(r1:rightB t=true)(r2:rightB h=true) :
  Calls Tryz.prog 152 #[.agg (arrI h),.func (.func n) #[] caps,vt] w fun e w'=>e=.returned (if allGood F h=true then pickV (pkN (pkC t F h) (pkE F h) 60)else .tuple #[.int .i64 0,.int .i64 0,.int .i64 0,.int .i64 1])∧w.grownBy w' none:=by
 have hmf:∀(fn:Fn) (first cap:Array Value) (w:World),(Instr.makeFunc fn first cap).run Tryz.prog w=.ok (.func fn first cap) w:=fun _ _ _ _=>rfl
 have M0:=hide (pickM_new w h (.func (.func n) #[] caps))
 have i0:=Ints_keep ht M0.out.2.2
 have RT:=hide (pitSamples_any vt t _ i0 (by omega))
 have RH:=hide (pitSamples_any _ h _ (M0.out.hist hh) (by omega))
 rw[r1]at RT
 rw[r2]at RH
 have hnf:=func_nil (.func n) #[] caps
 obtain⟨ad,c,rfl,hc,hcell⟩:=ht
 obtain⟨a,rfl,_⟩:=hcell (by omega)
 have CL:=hide (pitClone_any a c t _ i0 (by omega))
 have BS:=hide (fun(v:Value) (wr:World) (g:((w.alloc (.cells (arrI h) 51)).alloc (.cells #[.func (.func n) #[] caps] 63)).grownBy wr none) (iv:Ints wr v t)=>
  pitBest_any t 40 h40 (by omega) r1 221 #[.pointer (some ⟨w.heap.size,0,none⟩),.pointer (some ⟨w.heap.size+1,0,none⟩)] (fun k=>goodB (F (pasV h k))) (fun k=>F (pasV h k)) (pkC t F h) (pkE F h)
   (fun k hb=>by unfold pkC;rw[r1,show goodB (F (pasV h k))=true from hb];rfl) (fun k hb=>by unfold pkE;rw[if_pos hb]) (fun k=>by have:=pkC_le t F h k;omega) (fun k=>by have:=pkE_le F h k;omega) v wr enters_pick1
   (fun k wx k1 k2 gx=>(pitPick1_any w.heap.size (w.heap.size+1) h hh r2 n caps F k k1 k2 wx ((M0.out.keep g).keep gx).1 ((cell_of_heap ((M0.out.keep g).keep gx).2.1 0).trans rfl) hen (fun wy vy ly gy=>HF wy vy ly (grown_none ((M0.out.keep g).keep gx).2.2 gy))).mono
    (fun e w' ⟨v',e1,e2,e3⟩=>⟨v',e1,e2,fun hb=>⟨e3 hb,(good_right hb).1,(good_right hb).2⟩⟩)) iv)
 have ER:(if allGood F h=true then pickV (pkN (pkC t F h) (pkE F h) 60)else .tuple #[.int .i64 0,.int .i64 0,.int .i64 0,.int .i64 1])=(if allGood F h=true then .tuple #[.int .i64 ((pkN (pkC t F h) (pkE F h) 60).1:Int),.int .i64 (pkN (pkC t F h) (pkE F h) 60).2.1,.int .i64 (pkN (pkC t F h) (pkE F h) 60).2.2,.int .i64 0]else .tuple #[.int .i64 0,.int .i64 0,.int .i64 0,.int .i64 1]:Value):=rfl
 rw[ER]
 obtain⟨p0,p1,p2,p3,hb,hq⟩:∃p0 p1 p2 p3:Int,bestT (fun k=>goodB (F (pasV h k))) (pkC t F h) (pkE F h)=matchV p0 p1 p2 p3∧(if allGood F h=true then .tuple #[.int .i64 ((pkN (pkC t F h) (pkE F h) 60).1:Int),.int .i64 (pkN (pkC t F h) (pkE F h) 60).2.1,.int .i64 (pkN (pkC t F h) (pkE F h) 60).2.2,.int .i64 0]else .tuple #[.int .i64 0,.int .i64 0,.int .i64 0,.int .i64 1]:Value)=.tuple #[.int .i64 p0,.int .i64 p1,.int .i64 p2,.int .i64 p3]:=by
  unfold bestT
  rw[show allOk (fun k=>goodB (F (pasV h k)))=allGood F h from rfl]
  by_cases hg:allGood F h=true
  ·rw[if_pos hg,if_pos hg];exact⟨_,_,_,_,rfl,rfl⟩
  ·rw[if_neg hg,if_neg hg];exact⟨_,_,_,_,rfl,rfl⟩
 rw[hq]
 rw[hb]at BS
 unfold matchV at BS
 rw[show arrI [p0,p1,p2]=#[.int .i64 p0,.int .i64 p1,.int .i64 p2]from rfl]at BS
 have G0:=hide M0.out.2.2
 rw[h40]at RT CL ⊢
 clear ER hb hq HF hen i0 hc hcell r1 r2 h40 M0
 go_enter Tryz.func152,Tryz.ntmps152
 go_wp2_with fail
 refine RT.out.mono ?_
 rintro e w1 ⟨rfl,rfl⟩
 go_wp2_with fail
 refine RH.out.mono ?_
 rintro e w1 ⟨rfl,rfl⟩
 clear RT RH hnf
 go_wp2_with fail
 refine CL.out.mono ?_
 rintro e w2 ⟨v2,rfl,i2,g2⟩
 have B2:=hide (BS.out v2 w2 g2 i2)
 have G2:=hide (grown_none G0.out g2)
 clear CL BS g2 G0
 obtain⟨ad2,c2,rfl,_,_⟩:=i2
 go_wp2_with fail
 refine B2.out.mono ?_
 rintro e w3 ⟨rfl,g3⟩
 have G3:=hide (grown_none G2.out g3)
 clear B2 G2 g3 hmf
 go_wp2_with fail
 go_quiet (fail)
 go_wp2_with fail
 (try simp only[Exit.inBlock,Exit.then])
 refine bodyPost_ret (results_tmp4 rfl _ _ _) rfl ?_
 exact⟨rfl,grown_none (grown_none G3.out (grown_alloc _ _ none)) (grown_drewN' _ _ none)⟩
theorem pitPick_any (h t:List Int)(hh:h.length=80)(n:Nat)(caps:Array Value)(F:List Int→List Int)(vt:Value)(w:World)(hen:∀args u,(callFunc n args).run Tryz.prog u=.ok (.enter n args) u)(HF:Folds w n caps F)(ht:Ints w vt t)(tb:t.length≤1000000000000000000) :
  Calls Tryz.prog 152 #[.agg (arrI h),.func (.func n) #[] caps,vt] w fun e w'=>e=.returned (pickT h t F)∧w.grownBy w' none:=by
 by_cases h40:t.length=40
 ·rcases hr:(rightB t&&rightB h)with _|_
  ·rw[show pickT h t F=.tuple #[.int .i64 0,.int .i64 0,.int .i64 0,.int .i64 2] by unfold pickT;rw[if_pos h40,hr];rfl]
   exact pitPick_range h t hh n caps vt w ht h40 hr
  ·rw[show pickT h t F=if allGood F h=true then pickV (pkN (pkC t F h) (pkE F h) 60)else .tuple #[.int .i64 0,.int .i64 0,.int .i64 0,.int .i64 1] by unfold pickT;rw[if_pos h40,hr];rfl]
   simp only[Bool.and_eq_true]at hr
   exact pitPick_yes h t hh n caps F vt w hen HF ht h40 hr.1 hr.2
 ·rw[show pickT h t F=.tuple #[.int .i64 0,.int .i64 0,.int .i64 0,.int .i64 1] by unfold pickT;rw[if_neg h40]]
  exact pitPick_size h t _ vt (.inr ⟨_,_,rfl⟩) w ht tb h40
end Go.Proofs.YtdejpongekicdaaGreatDoor

/- PulB -/
namespace Go.Proofs.YtdejpongekicdaaGreatDoor
open Go.RowKit
set_option linter.unusedVariables false
set_option linter.unusedSimpArgs false
set_option maxHeartbeats 1000000
def stpL (l:List Int):List Int:=tab 40 (fun i=>c16 (nth l i))
theorem stpL_len (l:List Int):(stpL l).length=40:=tab_len _ _
set_option maxRecDepth 100000 in
theorem pulStopped_any (v:Value)(l:List Int)(w:World)(h:Ints w v l)(hl:l.length=40) :
  Calls Tryz.prog 267 #[v] w fun e w'=>e=.returned (.slice (some ⟨w.heap.size,0,none⟩) 40 40)∧Blk w' w.heap.size 3 (stpL l)∧w.grownBy w' none:=by
 have IV:=hide (fun wr (g:w.grownBy wr none)=>Ints_keep h g)
 have M0:=hide (show Blk (w.alloc (.cells (arrI (zeros 40)) 3)) w.heap.size 3 (zeros 40)∧w.grownBy (w.alloc (.cells (arrI (zeros 40)) 3)) none from⟨Blk.new w 3 (zeros 40),grown_alloc _ _ none⟩)
 obtain⟨ad,c,rfl,hc,_⟩:=h
 rw[hl]at IV ⊢
 have hmk:=make_zeros 40 (by omega)
 rw[show((40:Nat):Int)=40 from rfl]at hmk
 have HL:=hide hl
 clear hc hl
 go_enter Tryz.func267,Tryz.ntmps267
 go_wp2_with fail
 clear hmk
 generalize w.alloc (.cells (arrI (zeros 40)) 3)=W0 at *
 go_loopw [11] (fun i wr=>∃(m:Nat) (rs:List Int),i=.int .i64 m∧m≤40∧Hid (FillN 40 (fun i=>c16 (nth l i)) m rs)∧Hid (Blk wr w.heap.size 3 rs∧w.grownBy wr none)) (fun i _=>40-(intOf i).toNat)
 case atStart=>exact⟨0,zeros 40,rfl,Nat.zero_le _,fillN_start 40 _,M0.out⟩
 case round=>
  obtain⟨m,rs,rfl,hm,hF,hM⟩:=hrel
  clear M0
  by_cases hm40:m<40
  ·have hlen:rs.length=40:=hF.out.1
   have iv:=IV.out wr hM.out.2
   obtain⟨ad',c',e',h1,h2⟩:=iv
   simp only[Value.slice.injEq]at e'
   obtain⟨rfl,e2,rfl⟩:=e'
   clear e2
   obtain⟨a,rfl,h3⟩:=h2 (by rw[HL.out];omega)
   have cx:=h3 m (by rw[HL.out];omega)
   have cd:=hM.out.1.cell m (by omega)
   have fd:=hM.out.1.free m
   have NF:=hide (fillN_step hF.out hm40)
   have NM:=hide (show Blk (wr.setCell ⟨w.heap.size,m,none⟩ (.int .i64 (c16 (nth l m)))) w.heap.size 3 (rs.set m (c16 (nth l m)))∧w.grownBy (wr.setCell ⟨w.heap.size,m,none⟩ (.int .i64 (c16 (nth l m)))) none from⟨hM.out.1.set m _,grown_own hM.out.2 (grown_setCell wr ⟨w.heap.size,m,none⟩ _) (Nat.le_refl _)⟩)
   have i1:(m:Int)<40:=by omega
   have SA:=hide (sat16_any (nth l m) wr)
   clear hF hM hlen h1 h2 h3 IV
   generalize c16 (nth l m)=z at *
   generalize o16 (nth l m)=oo at *
   generalize nth l m=x at *
   generalize nth rs m=q at *
   go_wp2_with fail
   refine SA.out.mono ?_
   rintro e w1 ⟨rfl,rfl⟩
   clear SA
   go_wp2_with fail
   go_roundw
   case rel=>exact⟨m+1,_,by go_num,by omega,NF.out,NM.out⟩
   case measure=>simp[intOf];omega
  ·obtain rfl:m=40:=by omega
   have EL:=hide (show rs=stpL l from fillN_all hF.out)
   have GF:=hide hM.out
   clear hF hM IV
   go_wp2_with fail
   go_ret
   rw[EL.out]at GF
   exact⟨rfl,GF.out.1,GF.out.2⟩
def EnM (w wr:World)(l:List Int)(B:Nat)(rs:List Int):Prop:=Blk wr w.heap.size 3 l∧Blk wr B 264 rs∧w.heap.size<B∧w.grownBy wr none
theorem EnM.set {w wr:World}{l:List Int}{B:Nat}{rs:List Int}(h:EnM w wr l B rs)(k:Nat)(z:Int):EnM w (wr.setCell ⟨B,k,none⟩ (.int .i64 z)) l B (rs.set k z):=
 ⟨h.1.keepBut (grown_setCell wr ⟨B,k,none⟩ _) (by have:=h.2.2.1;simp;omega),h.2.1.set k z,h.2.2.1,grown_own h.2.2.2 (grown_setCell wr ⟨B,k,none⟩ _) (by have:=h.2.2.1;simp;omega)⟩
theorem EnM.keep {w wr wr':World}{l:List Int}{B:Nat}{rs:List Int}(h:EnM w wr l B rs)(g:wr.grownBy wr' none):EnM w wr' l B rs:=⟨h.1.keep g,h.2.1.keep g,h.2.2.1,grown_none h.2.2.2 g⟩
theorem zTab:(Tryz.prog.info? 264).bind (·.zero)=some (.agg (arrI (zeros 1600))):=by kernel_rfl
set_option maxRecDepth 100000 in
theorem pulEnergies_any (v:Value)(r:List Int)(w:World)(h:Ints w v r)(hl:r.length=40) :
  Calls Tryz.prog 255 #[v] w fun e w'=>∃B,e=.returned (.pointer (some ⟨B,0,none⟩))∧Blk w' B 264 (tbl r)∧w.heap.size≤B∧w.grownBy w' none:=by
 have ST:=hide (pulStopped_any v r w h hl)
 have RB:=hide (fun i=>c16_bd (nth r i))
 have hz:=zero_arr zTab
 clear h hl
 go_enter Tryz.func255,Tryz.ntmps255
 go_wp2_with fail
 refine ST.out.mono ?_
 rintro e w1 ⟨rfl,b1,g1⟩
 have M0:=hide (show EnM w (w1.alloc (.cells (arrI (zeros 1600)) 264)) (stpL r) w1.heap.size (zeros 1600)from⟨b1.keep (grown_alloc _ _ none),Blk.new w1 _ _,b1.lt,grown_none g1 (grown_alloc _ _ none)⟩)
 clear ST b1 g1
 go_wp2_with fail
 clear hz
 generalize w1.alloc _=W0 at *
 generalize w1.heap.size=B at *
 go_loopw [5,6] (fun i _ wr=>∃(n:Nat) (rs:List Int),i=.int .i64 ((n:Int)-1)∧n≤40∧Hid (TbF r n 0 rs)∧Hid (EnM w wr (stpL r) B rs)) (fun i _ _=>(intOf i+1).toNat)
 case atStart=>exact⟨40,zeros 1600,rfl,Nat.le_refl _,tbF_start r,M0.out⟩
 case round=>
  obtain⟨n,rs,rfl,hn,hF,hM⟩:=hrel
  clear M0
  by_cases hn0:0<n
  ·obtain⟨A,rfl⟩:∃A,n=A+1:=⟨n-1,by omega⟩
   rw[show(((A+1:Nat):Int)-1)=(A:Int) by omega]
   have hA:A≤39:=by omega
   have F0:=hide (tbF_next hF.out)
   clear hF hn hn0
   go_wp2_with fail
   go_loopw [6] (fun i wr=>∃(m:Nat) (rs:List Int),i=.int .i64 ((m:Int)-1)∧m≤40∧Hid (TbF r A m rs)∧Hid (EnM w wr (stpL r) B rs)) (fun i _=>(intOf i+1).toNat)
   case atStart=>exact⟨40,rs,rfl,Nat.le_refl _,F0.out,hM.out⟩
   case round=>
    obtain⟨m,rs,rfl,hm,hF,hM⟩:=hrel
    clear F0
    by_cases hm0:0<m
    ·obtain⟨D,rfl⟩:∃D,m=D+1:=⟨m-1,by omega⟩
     rw[show(((D+1:Nat):Int)-1)=(D:Int) by omega]
     have hD:D≤39:=by omega
     clear hm hm0
     have cx:=hM.out.1.cell (39-A) (by rw[stpL_len];omega)
     have cy:=hM.out.1.cell (39-D) (by rw[stpL_len];omega)
     rw[show nth (stpL r) (39-A)=c16 (nth r (39-A))from tab_nth _ _ _ (by omega)]at cx
     rw[show nth (stpL r) (39-D)=c16 (nth r (39-D))from tab_nth _ _ _ (by omega)]at cy
     have rl:=hF.out.1
     have ct:=hM.out.2.1.cell (A*40+D) (by omega)
     have ft:=hM.out.2.1.free (A*40+D)
     obtain⟨x1,x2⟩:=RB.out (39-A)
     obtain⟨y1,y2⟩:=RB.out (39-D)
     obtain⟨p1,p2⟩:=p16_bd _ _ x1 x2 y1 y2
     have LAST:=hide (enN_last r A D hA hD)
     have STEP:=hide (enN_step r A D)
     have NM:=hide (hM.out.set (A*40+D) (c16 (nth r (39-A))*c16 (nth r (39-D))))
     have OTH:=hide (tbF_other (by omega) (by omega) hF.out (c16 (nth r (39-A))*c16 (nth r (39-D))))
     have NOW:=hide (fun z hz=>tbF_set (by omega) (by omega) hF.out z hz)
     have NXT:=hide (fun(h:A<39) (h':D<39)=>hF.out.2 (A+1) (D+1) (by omega) (by omega) (.inl (by omega)))
     have J1:(39:Int)-(A:Int)=((39-A:Nat):Int):=by omega
     have K1:(39:Int)-(D:Int)=((39-D:Nat):Int):=by omega
     have jb:((39-A:Nat):Int)<40:=by omega
     have kb:((39-D:Nat):Int)<40:=by omega
     have ab:(A:Int)<40:=by omega
     have db:(D:Int)<40:=by omega
     clear hF hM RB
     generalize c16 (nth r (39-A))=x at *
     generalize c16 (nth r (39-D))=y at *
     generalize 39-A=J at *
     generalize 39-D=K' at *
     generalize nth rs (A*40+D)=q at *
     have WJ:=wrapI (J:Int) (by omega) (by omega)
     have WK:=wrapI (K':Int) (by omega) (by omega)
     have WP:=wrapI (x*y) (by omega) (by omega)
     go_upto_region 9 with fail
     generalize hwy:wr=wy at *
     clear hwy
     refine wp_region_G 17 (fun w'=>w'=wy.drew) 18 (by rfl) #[false,false,false,false,false,false,false,false,false,false,false,false,false,false,false,false,false,false] (by rfl) (by kernel_rfl) (fun hcl=>?_)
     refine wpAnyG_take (i:=0) (v:=?vea0) rfl (by kernel_rfl) hcl (fun _ _ _ h=>h) (Or.inl ⟨by rfl,?yea0⟩) rfl (fun hcl=>?rea0)
     case yea0=>(intro w' hSw;subst hSw;go_simp;try with_reducible rfl)
     (try simp only[Act.put,sL])
     refine wpAnyG_take (i:=1) (v:=?vea1) rfl (by kernel_rfl) hcl (fun _ _ _ h=>h) (Or.inl ⟨by rfl,?yea1⟩) rfl (fun hcl=>?rea1)
     case yea1=>(intro w' hSw;subst hSw;go_simp;try with_reducible rfl)
     (try simp only[Act.put,sL])
     refine wpAnyG_take (i:=2) (v:=?vea2) rfl (by kernel_rfl) hcl (fun _ _ _ h=>h) (Or.inl ⟨by rfl,?yea2⟩) rfl (fun hcl=>?rea2)
     case yea2=>(intro w' hSw;subst hSw;go_simp;try with_reducible rfl)
     (try simp only[Act.put,sL])
     refine wpAnyG_take (i:=3) (v:=?vea3) rfl (by kernel_rfl) hcl (fun _ _ _ h=>h) (Or.inl ⟨by rfl,?yea3⟩) rfl (fun hcl=>?rea3)
     case yea3=>(intro w' hSw;subst hSw;go_simp;try with_reducible rfl)
     (try simp only[Act.put,sL])
     refine wpAnyG_take (i:=4) (v:=?vea4) rfl (by kernel_rfl) hcl (fun _ _ _ h=>h) (Or.inl ⟨by rfl,?yea4⟩) rfl (fun hcl=>?rea4)
     case yea4=>(intro w' hSw;subst hSw;go_simp;try with_reducible rfl)
     (try simp only[Act.put,sL])
     refine wpAnyG_take (i:=5) (v:=.int .i64 (J:Int)) rfl (by kernel_rfl) hcl (fun _ _ _ h=>h) (Or.inl ⟨by rfl,?yea5⟩) rfl (fun hcl=>?rea5)
     case yea5=>(intro w' hSw;subst hSw;go_simp;try simp only[WJ])
     (try simp only[Act.put,sL])
     refine wpAnyG_take (i:=6) (v:=?vea6) rfl (by kernel_rfl) hcl (fun _ _ _ h=>h) (Or.inl ⟨by rfl,?yea6⟩) rfl (fun hcl=>?rea6)
     case yea6=>(intro w' hSw;subst hSw;go_simp;try with_reducible rfl)
     (try simp only[Act.put,sL])
     refine wpAnyG_take (i:=7) (v:=.int .i64 x) rfl (by kernel_rfl) hcl (fun _ _ _ h=>h) (Or.inl ⟨by rfl,?yea7⟩) rfl (fun hcl=>?rea7)
     case yea7=>(intro w' hSw;subst hSw;go_simp;try with_reducible rfl)
     (try simp only[Act.put,sL])
     refine wpAnyG_take (i:=8) (v:=?vea8) rfl (by kernel_rfl) hcl (fun _ _ _ h=>h) (Or.inl ⟨by rfl,?yea8⟩) rfl (fun hcl=>?rea8)
     case yea8=>(intro w' hSw;subst hSw;go_simp;try with_reducible rfl)
     (try simp only[Act.put,sL])
     refine wpAnyG_take (i:=9) (v:=?vea9) rfl (by kernel_rfl) hcl (fun _ _ _ h=>h) (Or.inl ⟨by rfl,?yea9⟩) rfl (fun hcl=>?rea9)
     case yea9=>(intro w' hSw;subst hSw;go_simp;try with_reducible rfl)
     (try simp only[Act.put,sL])
     refine wpAnyG_take (i:=10) (v:=.int .i64 (K':Int)) rfl (by kernel_rfl) hcl (fun _ _ _ h=>h) (Or.inl ⟨by rfl,?yea10⟩) rfl (fun hcl=>?rea10)
     case yea10=>(intro w' hSw;subst hSw;go_simp;try simp only[WK])
     (try simp only[Act.put,sL])
     refine wpAnyG_take (i:=11) (v:=?vea11) rfl (by kernel_rfl) hcl (fun _ _ _ h=>h) (Or.inl ⟨by rfl,?yea11⟩) rfl (fun hcl=>?rea11)
     case yea11=>(intro w' hSw;subst hSw;go_simp;try with_reducible rfl)
     (try simp only[Act.put,sL])
     refine wpAnyG_take (i:=12) (v:=.int .i64 y) rfl (by kernel_rfl) hcl (fun _ _ _ h=>h) (Or.inl ⟨by rfl,?yea12⟩) rfl (fun hcl=>?rea12)
     case yea12=>(intro w' hSw;subst hSw;go_simp;try with_reducible rfl)
     (try simp only[Act.put,sL])
     refine wpAnyG_take (i:=13) (v:=.int .i64 (x*y)) rfl (by kernel_rfl) hcl (fun _ _ _ h=>h) (Or.inl ⟨by rfl,?yea13⟩) rfl (fun hcl=>?rea13)
     case yea13=>(intro w' hSw;subst hSw;go_simp;try simp only[WP])
     (try simp only[Act.put,sL])
     refine wpAnyG_take (i:=14) (v:=?vea14) rfl (by kernel_rfl) hcl (fun _ _ _ h=>h) (Or.inl ⟨by rfl,?yea14⟩) rfl (fun hcl=>?rea14)
     case yea14=>(intro w' hSw;subst hSw;go_simp;try with_reducible rfl)
     (try simp only[Act.put,sL])
     refine wpAnyG_take (i:=15) (v:=?vea15) rfl (by kernel_rfl) hcl (fun _ _ _ h=>h) (Or.inl ⟨by rfl,?yea15⟩) rfl (fun hcl=>?rea15)
     case yea15=>(intro w' hSw;subst hSw;go_simp;try with_reducible rfl)
     (try simp only[Act.put,sL])
     refine wpAnyG_take (i:=16) (v:=?vea16) rfl (by kernel_rfl) hcl (fun _ _ _ h=>h) (Or.inl ⟨by rfl,?yea16⟩) rfl (fun hcl=>?rea16)
     case yea16=>(intro w' hSw;subst hSw;go_simp;try with_reducible rfl)
     (try simp only[Act.put,sL])
     refine wpAnyG_exec (i:=17) rfl (by kernel_rfl) hcl (fun K hK=>?_)
     (try simp only[Act.put,sL])
     go_simp
     go_wp2_with fail
     refine hK.out _ _ (fun h=>by cases h) (fun hcl=>?_)
     clear hK
     (try simp only[Act.put,sL])
     refine wpAnyG_of_any _ _ _ _ (by rfl) ?_
     refine wpAny_done (by kernel_rfl) ?_ _
     have NM1:=hide (NM.out.keep (gw_start _))
     have nk:=nth_set_eq rs (A*40+D) (x*y) (by omega)
     have nn:=nth_set_ne rs (A*40+D) (x*y) ((A+1)*40+(D+1)) (by omega)
     generalize (wy.setCell ⟨B,A*40+D,none⟩ (.int .i64 (x*y))).drew=wz at *
     clear NM cx cy ct ft J1 K1 jb kb WJ WK WP
     by_cases h1:A<39
     ·by_cases h2:D<39
      ·have ct:=NM1.out.2.1.cell (A*40+D) (by rw[List.length_set];omega)
       have ft:=NM1.out.2.1.free (A*40+D)
       have cn:=NM1.out.2.1.cell ((A+1)*40+(D+1)) (by rw[List.length_set];omega)
       rw[nk]at ct
       rw[nn,NXT.out h1 h2]at cn
       have SE:=hide (STEP.out h1 h2)
       obtain⟨s1,s2⟩:=enN_bd r (A+1) (D+1)
       have N2:=hide (NM1.out.set (A*40+D) (x*y+enN r (A+1) (D+1)))
       have F2:=hide (tbF_set (by omega) (by omega) OTH.out (x*y+enN r (A+1) (D+1)) SE.out.symm)
       clear NXT LAST STEP NM1 SE NOW OTH nk nn
       generalize enN r (A+1) (D+1)=s at *
       have i1:(A:Int)<39:=by omega
       have i2:(D:Int)<39:=by omega
       have ab1:(A:Int)+1<40:=by omega
       have db1:(D:Int)+1<40:=by omega
       have ab0:(0:Int)≤(A:Int)+1:=by omega
       have db0:(0:Int)≤(D:Int)+1:=by omega
       have at1:((A:Int)+1).toNat=A+1:=by omega
       have dt1:((D:Int)+1).toNat=D+1:=by omega
       have WA:=wrapI ((A:Int)+1) (by omega) (by omega)
       have WD:=wrapI ((D:Int)+1) (by omega) (by omega)
       have WS:=wrapI (x*y+s) (by omega) (by omega)
       go_upto_region 11 with fail
       refine wp_region_G 20 (fun w'=>w'=wz.drew) 21 (by rfl) #[false,false,false,false,false,false,false,false,false,false,false,false,false,false,false,false,false,false,false,false,false] (by rfl) (by kernel_rfl) (fun hcl=>?_)
       refine wpAnyG_take (i:=0) (v:=?veb0) rfl (by kernel_rfl) hcl (fun _ _ _ h=>h) (Or.inl ⟨by rfl,?yeb0⟩) rfl (fun hcl=>?reb0)
       case yeb0=>(intro w' hSw;subst hSw;go_simp;try with_reducible rfl)
       (try simp only[Act.put,sL])
       refine wpAnyG_take (i:=1) (v:=?veb1) rfl (by kernel_rfl) hcl (fun _ _ _ h=>h) (Or.inl ⟨by rfl,?yeb1⟩) rfl (fun hcl=>?reb1)
       case yeb1=>(intro w' hSw;subst hSw;go_simp;try with_reducible rfl)
       (try simp only[Act.put,sL])
       refine wpAnyG_take (i:=2) (v:=?veb2) rfl (by kernel_rfl) hcl (fun _ _ _ h=>h) (Or.inl ⟨by rfl,?yeb2⟩) rfl (fun hcl=>?reb2)
       case yeb2=>(intro w' hSw;subst hSw;go_simp;try with_reducible rfl)
       (try simp only[Act.put,sL])
       refine wpAnyG_take (i:=3) (v:=?veb3) rfl (by kernel_rfl) hcl (fun _ _ _ h=>h) (Or.inl ⟨by rfl,?yeb3⟩) rfl (fun hcl=>?reb3)
       case yeb3=>(intro w' hSw;subst hSw;go_simp;try with_reducible rfl)
       (try simp only[Act.put,sL])
       refine wpAnyG_take (i:=4) (v:=?veb4) rfl (by kernel_rfl) hcl (fun _ _ _ h=>h) (Or.inl ⟨by rfl,?yeb4⟩) rfl (fun hcl=>?reb4)
       case yeb4=>(intro w' hSw;subst hSw;go_simp;try with_reducible rfl)
       (try simp only[Act.put,sL])
       refine wpAnyG_take (i:=5) (v:=?veb5) rfl (by kernel_rfl) hcl (fun _ _ _ h=>h) (Or.inl ⟨by rfl,?yeb5⟩) rfl (fun hcl=>?reb5)
       case yeb5=>(intro w' hSw;subst hSw;go_simp;try with_reducible rfl)
       (try simp only[Act.put,sL])
       refine wpAnyG_take (i:=6) (v:=.int .i64 (x*y)) rfl (by kernel_rfl) hcl (fun _ _ _ h=>h) (Or.inl ⟨by rfl,?yeb6⟩) rfl (fun hcl=>?reb6)
       case yeb6=>(intro w' hSw;subst hSw;go_simp;try with_reducible rfl)
       (try simp only[Act.put,sL])
       refine wpAnyG_take (i:=7) (v:=?veb7) rfl (by kernel_rfl) hcl (fun _ _ _ h=>h) (Or.inl ⟨by rfl,?yeb7⟩) rfl (fun hcl=>?reb7)
       case yeb7=>(intro w' hSw;subst hSw;go_simp;try with_reducible rfl)
       (try simp only[Act.put,sL])
       refine wpAnyG_take (i:=8) (v:=?veb8) rfl (by kernel_rfl) hcl (fun _ _ _ h=>h) (Or.inl ⟨by rfl,?yeb8⟩) rfl (fun hcl=>?reb8)
       case yeb8=>(intro w' hSw;subst hSw;go_simp;try with_reducible rfl)
       (try simp only[Act.put,sL])
       refine wpAnyG_take (i:=9) (v:=.int .i64 ((A:Int)+1)) rfl (by kernel_rfl) hcl (fun _ _ _ h=>h) (Or.inl ⟨by rfl,?yeb9⟩) rfl (fun hcl=>?reb9)
       case yeb9=>(intro w' hSw;subst hSw;go_simp;try simp only[WA])
       (try simp only[Act.put,sL])
       refine wpAnyG_take (i:=10) (v:=?veb10) rfl (by kernel_rfl) hcl (fun _ _ _ h=>h) (Or.inl ⟨by rfl,?yeb10⟩) rfl (fun hcl=>?reb10)
       case yeb10=>(intro w' hSw;subst hSw;go_simp;try with_reducible rfl)
       (try simp only[Act.put,sL])
       refine wpAnyG_take (i:=11) (v:=.int .i64 ((D:Int)+1)) rfl (by kernel_rfl) hcl (fun _ _ _ h=>h) (Or.inl ⟨by rfl,?yeb11⟩) rfl (fun hcl=>?reb11)
       case yeb11=>(intro w' hSw;subst hSw;go_simp;try simp only[WD])
       (try simp only[Act.put,sL])
       refine wpAnyG_take (i:=12) (v:=?veb12) rfl (by kernel_rfl) hcl (fun _ _ _ h=>h) (Or.inl ⟨by rfl,?yeb12⟩) rfl (fun hcl=>?reb12)
       case yeb12=>(intro w' hSw;subst hSw;go_simp;try with_reducible rfl)
       (try simp only[Act.put,sL])
       refine wpAnyG_take (i:=13) (v:=?veb13) rfl (by kernel_rfl) hcl (fun _ _ _ h=>h) (Or.inl ⟨by rfl,?yeb13⟩) rfl (fun hcl=>?reb13)
       case yeb13=>(intro w' hSw;subst hSw;go_simp;try with_reducible rfl)
       (try simp only[Act.put,sL])
       refine wpAnyG_take (i:=14) (v:=?veb14) rfl (by kernel_rfl) hcl (fun _ _ _ h=>h) (Or.inl ⟨by rfl,?yeb14⟩) rfl (fun hcl=>?reb14)
       case yeb14=>(intro w' hSw;subst hSw;go_simp;try with_reducible rfl)
       (try simp only[Act.put,sL])
       refine wpAnyG_take (i:=15) (v:=.int .i64 s) rfl (by kernel_rfl) hcl (fun _ _ _ h=>h) (Or.inl ⟨by rfl,?yeb15⟩) rfl (fun hcl=>?reb15)
       case yeb15=>(intro w' hSw;subst hSw;go_simp;try with_reducible rfl)
       (try simp only[Act.put,sL])
       refine wpAnyG_take (i:=16) (v:=.int .i64 (x*y+s)) rfl (by kernel_rfl) hcl (fun _ _ _ h=>h) (Or.inl ⟨by rfl,?yeb16⟩) rfl (fun hcl=>?reb16)
       case yeb16=>(intro w' hSw;subst hSw;go_simp;try simp only[WS])
       (try simp only[Act.put,sL])
       refine wpAnyG_take (i:=17) (v:=?veb17) rfl (by kernel_rfl) hcl (fun _ _ _ h=>h) (Or.inl ⟨by rfl,?yeb17⟩) rfl (fun hcl=>?reb17)
       case yeb17=>(intro w' hSw;subst hSw;go_simp;try with_reducible rfl)
       (try simp only[Act.put,sL])
       refine wpAnyG_take (i:=18) (v:=?veb18) rfl (by kernel_rfl) hcl (fun _ _ _ h=>h) (Or.inl ⟨by rfl,?yeb18⟩) rfl (fun hcl=>?reb18)
       case yeb18=>(intro w' hSw;subst hSw;go_simp;try with_reducible rfl)
       (try simp only[Act.put,sL])
       refine wpAnyG_take (i:=19) (v:=?veb19) rfl (by kernel_rfl) hcl (fun _ _ _ h=>h) (Or.inl ⟨by rfl,?yeb19⟩) rfl (fun hcl=>?reb19)
       case yeb19=>(intro w' hSw;subst hSw;go_simp;try with_reducible rfl)
       (try simp only[Act.put,sL])
       refine wpAnyG_exec (i:=20) rfl (by kernel_rfl) hcl (fun K hK=>?_)
       (try simp only[Act.put,sL])
       go_simp
       go_wp2_with fail
       refine hK.out _ _ (fun h=>by cases h) (fun hcl=>?_)
       clear hK
       (try simp only[Act.put,sL])
       refine wpAnyG_of_any _ _ _ _ (by rfl) ?_
       refine wpAny_done (by kernel_rfl) ?_ _
       have N3:=hide (N2.out.keep (gw_start _))
       clear N2 cn ct ft WA WD WS at1 dt1 ab1 db1 ab0 db0
       generalize (wz.setCell ⟨B,A*40+D,none⟩ (.int .i64 (x*y+s))).drew=wu at *
       go_wp2_with fail
       go_roundw
       case rel=>exact⟨D,_,rfl,by omega,F2.out,N3.out⟩
       case measure=>simp[intOf]
      ·have EZ:=hide (NOW.out _ (LAST.out (.inr (by omega))).symm)
       clear NXT LAST STEP NOW OTH nk nn
       have i1:(A:Int)<39:=by omega
       have i2:¬(D:Int)<39:=by omega
       go_wp2_with fail
       go_roundw
       case rel=>exact⟨D,_,rfl,by omega,EZ.out,NM1.out⟩
       case measure=>simp[intOf]
     ·have EZ:=hide (NOW.out _ (LAST.out (.inl (by omega))).symm)
      clear NXT LAST STEP NOW OTH nk nn
      have i1:¬(A:Int)<39:=by omega
      go_wp2_with fail
      go_roundw
      case rel=>exact⟨D,_,rfl,by omega,EZ.out,NM1.out⟩
      case measure=>simp[intOf]
    ·obtain rfl:m=0:=by omega
     have NF:=hF
     have NM:=hM
     clear hF hM hm hm0
     rw[show(((0:Nat):Int)-1)=-1 from rfl]
     go_wp2_with fail
     go_roundw
     case rel=>exact⟨A,rs,rfl,by omega,NF.out,NM.out⟩
     case measure=>simp[intOf]
  ·obtain rfl:n=0:=by omega
   have EL:=hide (tbF_all hF.out)
   have NM:=hM
   clear hF hM hn hn0
   rw[show(((0:Nat):Int)-1)=-1 from rfl]
   go_wp2_with fail
   go_ret
   rw[EL.out]at NM
   exact⟨B,rfl,NM.out.2.1,Nat.le_of_lt NM.out.2.2.1,NM.out.2.2.2⟩
end Go.Proofs.YtdejpongekicdaaGreatDoor

/- PulC -/
namespace Go.Proofs.YtdejpongekicdaaGreatDoor
open Go.RowKit
set_option linter.unusedVariables false
set_option linter.unusedSimpArgs false
set_option maxHeartbeats 1000000
theorem wpList_build1 {ops:Array Oper}{rest:List Oper}{op:Oper}{a:Act}{w:World}{Q:Exit→Act→World→Prop}(hgd:op.guard=none)(T:TypeId)(i:Nat)(y:Operand)(ho:op.op=.build T #[(i,y)])(v0 v:Value)(hy:a.eval y=v0)
  (hrun:Sem.run Tryz.prog (Instr.build T #[(i,v0)]) w=.ok v w) (k:wpList Tryz.prog ops Q rest (a.put op.dst v) w):wpList Tryz.prog ops Q (op::rest) a w:=by
 refine wpList_plain hgd fun _ hK=>?_
 unfold Oper.wp execOp
 have e:(#[(i,y)]:Array (Nat×Operand)).map (fun(i,x)=>(i,a.eval x))=#[(i,v0)]:=by simp[hy]
 simp only[ho,e,Sem.run_bind,hrun,Result.andThen_ok,Sem.run_pure]
 exact hK _ _ k
theorem zCho:(Tryz.prog.info? 253).bind (·.zero)=some (.agg (arrI (zeros 6))):=by kernel_rfl
theorem sCho:(Tryz.prog.info? 253).map (·.size)=some 6:=by kernel_rfl
theorem list4 (x:List Int)(hx:x.length=4):∃a b c d,x=[a,b,c,d]:=by
 match x,hx with
 | [a,b,c,d],_=>exact⟨a,b,c,d,rfl⟩
theorem builtCho (x:List Int)(hx:x.length=4)(u:World):Sem.run Tryz.prog (Instr.build 253 #[(0,.agg (arrI x))]) u=.ok (.agg (arrI (x++[0,0]))) u:=by
 obtain⟨a,b,c,d,rfl⟩:=list4 x hx
 exact run_build u 253 _ _ (by kernel_rfl)
theorem cho_c (x:List Int)(hx:x.length=4)(c e z:Int):(x++[c,e]).set 4 z=x++[z,e]∧(x++[c,e]).set 5 z=x++[c,z]∧nth (x++[c,e]) 4=c∧nth (x++[c,e]) 5=e∧(x++[c,e]).length=6:=by
 obtain⟨a,b,c,d,rfl⟩:=list4 x hx
 exact⟨rfl,rfl,rfl,rfl,rfl⟩
def ScM (w wr:World)(x:List Int)(B7:Nat)(rs:List Int):Prop:=Blk wr w.heap.size 77 x∧Blk wr (w.heap.size+1) 253 (zeros 6)∧Blk wr B7 253 rs∧w.heap.size+1<B7∧w.grownBy wr none
theorem ScM.keep {w wr wr':World}{x rs:List Int}{B7:Nat}(h:ScM w wr x B7 rs)(g:wr.grownBy wr' none):ScM w wr' x B7 rs:=⟨h.1.keep g,h.2.1.keep g,h.2.2.1.keep g,h.2.2.2.1,grown_none h.2.2.2.2 g⟩
theorem ScM.set {w wr:World}{x rs:List Int}{B7:Nat}(h:ScM w wr x B7 rs)(k:Nat)(z:Int):ScM w (wr.setCell ⟨B7,k,none⟩ (.int .i64 z)) x B7 (rs.set k z):=by
 have hB:=h.2.2.2.1
 have g:=grown_setCell wr ⟨B7,k,none⟩ (.int .i64 z)
 exact⟨h.1.keepBut g (by simp;omega),h.2.1.keepBut g (by simp;omega),h.2.2.1.set k z,hB,grown_own h.2.2.2.2 g (by simp;omega)⟩
theorem ScM.put {w wr:World}{x rs rs':List Int}{B7:Nat}(h:ScM w wr x B7 rs)(hl:rs'.length=rs.length):ScM w (putArr wr B7 rs') x B7 rs':=by
 have hB:=h.2.2.2.1
 have PU:=put_arr (rs':=rs') h.2.2.1 hl
 exact⟨h.1.keepBut PU.2 (by omega),h.2.1.keepBut PU.2 (by omega),PU.1,hB,grown_own h.2.2.2.2 PU.2 (by omega)⟩
set_option maxRecDepth 100000 in
theorem pulScored_any (vd:Value)(d r x:List Int)(B:Nat)(w:World)(hd:Ints w vd d)(hdl:d.length=40)(hB:Blk w B 264 (tbl r))(hx:x.length=4)(hg:goodX x=true) :
  Calls Tryz.prog 258 #[vd,.pointer (some ⟨B,0,none⟩),.agg (arrI x)] w (AnsG w (.agg (arrI (x++[cS d x,eS d r x])))):=by
 have L2:=hide (laid2 w 77 253 x (zeros 6))
 have IX:=hide (fun(k:Nat) (hk:k<4)=>index_arr x Tryz.underlying77 k (by omega) hx)
 have PL:=hide (psN_lt hg hx)
 have GX:=hide ((goodX_iff x).1 hg)
 have DV:=hide (fun wr (g:w.grownBy wr none)=>Ints_keep hd g)
 have TB:=hide (fun wr (g:w.grownBy wr none)=>hB.keep g)
 have CH:=hide (fun(c e z:Int)=>cho_c x hx c e z)
 have BC:=builtCho x hx
 obtain⟨ad,cp,rfl,hcp,_⟩:=hd
 have hz:=zero_arr zCho
 have HDL:=hide hdl
 rw[hdl]
 clear hB hg hcp hdl
 go_enter Tryz.func258,Tryz.ntmps258
 go_upto_region 1 with fail
 have L0:=hide (show w.heap.size+1<((w.alloc (.cells (arrI x) 77)).alloc (.cells (arrI (zeros 6)) 253)).heap.size by simp)
 generalize (w.alloc (.cells (arrI x) 77)).alloc (.cells (arrI (zeros 6)) 253)=W1 at *
 have M1:=hide (show ScM w (W1.alloc (.cells (arrI (zeros 6)) 253)) x W1.heap.size (zeros 6)from⟨L2.out.1.keep (grown_alloc _ _ none),L2.out.2.1.keep (grown_alloc _ _ none),Blk.new W1 _ _,L0.out,grown_none L2.out.2.2 (grown_alloc _ _ none)⟩)
 have M2:=hide (M1.out.put (rs':=x++[0,0]) (by rw[(CH.out 0 0 0).2.2.2.2];rfl))
 have BB:=hide L2.out.1
 clear L2 L0
 go_upto_region 2 with(first|refine wpList_load_arr rfl 77 _ rfl _ rfl _ BB.out _ Tryz.underlying77 rfl (by rw[hx];exact size4) ?_|refine wpList_build1 rfl 253 0 _ rfl (.agg (arrI x)) (.agg (arrI (x++[0,0]))) rfl (BC _) ?_|refine wpList_store_arr rfl 253 _ _ rfl _ (zeros 6) (x++[0,0]) rfl rfl M1.out.2.2.1 (by rw[(CH.out 0 0 0).2.2.2.2];rfl) (by rw[zeros_len];exact sCho) ?_)
 clear M1 BB BC hz
 (try simp only[Act.put])
 generalize putArr (W1.alloc _) W1.heap.size (x++[0,0])=W2 at *
 generalize W1.heap.size=B7 at *
 have BB:=hide M2.out.1
 go_wp2_with (first|refine wpList_load_arr rfl 77 _ rfl _ rfl _ BB.out _ Tryz.underlying77 rfl (by rw[hx];exact size4) ?_)
 clear BB
 go_loopw [17] (fun i wr=>∃m:Nat,i=.int .i64 m∧m≤4∧Hid (ScM w wr x B7 (x++[scC d x m,scE d r x m 0]))) (fun i _=>4-(intOf i).toNat)
 case atStart=>exact⟨0,rfl,Nat.zero_le _,M2.out⟩
 case round=>
  obtain⟨m,rfl,hm,hM⟩:=hrel
  clear M2
  by_cases hm4:m<4
  ·have hix:=IX.out m hm4
   have hPL:=PL.out m hm4
   obtain⟨g1,g2⟩:=GX.out m (by omega)
   have AT:=hide (pulAt_any (m:Int) (nth x m) (by omega) (by omega) g1 g2 wr)
   rw[show(m:Int)+4*nth x m=((psN x m:Nat):Int) by unfold psN;omega]at AT
   obtain⟨ad',c',e',h1,h2⟩:=DV.out wr hM.out.2.2.2.2
   simp only[Value.slice.injEq]at e'
   obtain⟨rfl,e2,rfl⟩:=e'
   obtain⟨a,rfl,h3⟩:=h2 (by rw[HDL.out];omega)
   have cz:=h3 (psN x m) (by rw[HDL.out];omega)
   have CC:=CH.out (scC d x m) (scE d r x m 0) (scC d x (m+1))
   have c4:=hM.out.2.2.1.cell 4 (by omega)
   rw[CC.2.2.1]at c4
   have f4:=hM.out.2.2.1.free 4
   have NM:=hide (hM.out.set 4 (scC d x (m+1)))
   rw[CC.1]at NM
   have i1:(m:Int)<4:=by omega
   have i2:((psN x m:Nat):Int)<40:=by omega
   rw[show scC d x (m+1)=wrap64 (scC d x m+wrap64 (sg (nth d (psN x m))*nth d (psN x m)))from rfl]at NM
   have EC:=hide (show scC d x (m+1)=wrap64 (scC d x m+wrap64 (sg (nth d (psN x m))*nth d (psN x m)))from rfl)
   have ZE:=hide (show nth d (psN x m)=nth d (psN x m)from rfl)
   clear e2 h1 h2 h3 hM CC
   generalize hz:nth d (psN x m)=z at cz NM EC
   generalize scC d x m=C at *
   have PE:=hide (rfl:psN x m=psN x m)
   generalize hP:psN x m=P at *
   have HP:=hide hP
   have HZ:=hide hz
   clear hP hz PE ZE
   generalize nth x m=pl at *
   go_wp2_with fail
   refine AT.out.mono ?_
   rintro e wy ⟨rfl,rfl⟩
   clear AT
   go_upto_region 6 with fail
   refine wp_region_G 14 (fun w'=>w'=wy.drew) 15 (by rfl) #[false,false,false,false,false,false,false,false,false,false,false,false,false,false,false] (by rfl) (by kernel_rfl) (fun hcl=>?_)
   refine wpAnyG_take (i:=0) (v:=?vsa0) rfl (by kernel_rfl) hcl (fun _ _ _ h=>h) (Or.inl ⟨by rfl,?ysa0⟩) rfl (fun hcl=>?rsa0)
   case ysa0=>(intro w' hSw;subst hSw;go_simp;try with_reducible rfl)
   (try simp only[Act.put,sL])
   refine wpAnyG_take (i:=1) (v:=.int .i64 C) rfl (by kernel_rfl) hcl (fun _ _ _ h=>h) (Or.inl ⟨by rfl,?ysa1⟩) rfl (fun hcl=>?rsa1)
   case ysa1=>(intro w' hSw;subst hSw;go_simp;try with_reducible rfl)
   (try simp only[Act.put,sL])
   refine wpAnyG_take (i:=2) (v:=?vsa2) rfl (by kernel_rfl) hcl (fun _ _ _ h=>h) (Or.inl ⟨by rfl,?ysa2⟩) rfl (fun hcl=>?rsa2)
   case ysa2=>(intro w' hSw;subst hSw;go_simp;try with_reducible rfl)
   (try simp only[Act.put,sL])
   refine wpAnyG_take (i:=3) (v:=?vsa3) rfl (by kernel_rfl) hcl (fun _ _ _ h=>h) (Or.inl ⟨by rfl,?ysa3⟩) rfl (fun hcl=>?rsa3)
   case ysa3=>(intro w' hSw;subst hSw;go_simp;try with_reducible rfl)
   (try simp only[Act.put,sL])
   refine wpAnyG_take (i:=4) (v:=?vsa4) rfl (by kernel_rfl) hcl (fun _ _ _ h=>h) (Or.inl ⟨by rfl,?ysa4⟩) rfl (fun hcl=>?rsa4)
   case ysa4=>(intro w' hSw;subst hSw;go_simp;try with_reducible rfl)
   (try simp only[Act.put,sL])
   refine wpAnyG_take (i:=5) (v:=.int .i64 z) rfl (by kernel_rfl) hcl (fun _ _ _ h=>h) (Or.inl ⟨by rfl,?ysa5⟩) rfl (fun hcl=>?rsa5)
   case ysa5=>(intro w' hSw;subst hSw;go_simp;try with_reducible rfl)
   (try simp only[Act.put,sL])
   refine wpAnyG_take (i:=7) (v:=?vsa7) rfl (by kernel_rfl) hcl (fun _ _ _ h=>h) (Or.inl ⟨by rfl,?ysa7⟩) rfl (fun hcl=>?rsa7)
   case ysa7=>(intro w' hSw;subst hSw;go_simp;try with_reducible rfl)
   (try simp only[Act.put,sL])
   refine wpAnyG_take (i:=8) (v:=?vsa8) rfl (by kernel_rfl) hcl (fun _ _ _ h=>h) (Or.inl ⟨by rfl,?ysa8⟩) rfl (fun hcl=>?rsa8)
   case ysa8=>(intro w' hSw;subst hSw;go_simp;try with_reducible rfl)
   (try simp only[Act.put,sL])
   refine wpAnyG_take (i:=9) (v:=?vsa9) rfl (by kernel_rfl) hcl (fun _ _ _ h=>h) (Or.inl ⟨by rfl,?ysa9⟩) rfl (fun hcl=>?rsa9)
   case ysa9=>(intro w' hSw;subst hSw;go_simp;try with_reducible rfl)
   (try simp only[Act.put,sL])
   refine wpAnyG_take (i:=10) (v:=.int .i64 z) rfl (by kernel_rfl) hcl (fun _ _ _ h=>h) (Or.inl ⟨by rfl,?ysa10⟩) rfl (fun hcl=>?rsa10)
   case ysa10=>(intro w' hSw;subst hSw;go_simp;try with_reducible rfl)
   (try simp only[Act.put,sL])
   refine wpAnyG_exec (i:=6) rfl (by kernel_rfl) hcl (fun K hK=>?_)
   (try simp only[Act.put,sL])
   go_simp
   refine(pulSign_any z _).mono ?_
   rintro e wc ⟨rfl,rfl⟩
   go_wp2_with fail
   refine hK.out _ _ (fun _=>rfl) (fun hcl=>?_)
   clear hK
   (try simp only[Act.put,sL])
   refine wpAnyG_take (i:=11) (v:=.int .i64 (wrap64 (sg z*z))) rfl (by kernel_rfl) hcl (fun _ _ _ h=>h) (Or.inl ⟨by rfl,?ysa11⟩) rfl (fun hcl=>?rsa11)
   case ysa11=>(intro w' hSw;subst hSw;go_simp;rw[IntKind.wrap_i64];simp only[wrap64])
   (try simp only[Act.put,sL])
   refine wpAnyG_take (i:=12) (v:=.int .i64 (wrap64 (C+wrap64 (sg z*z)))) rfl (by kernel_rfl) hcl (fun _ _ _ h=>h) (Or.inl ⟨by rfl,?ysa12⟩) rfl (fun hcl=>?rsa12)
   case ysa12=>(intro w' hSw;subst hSw;go_simp;rw[IntKind.wrap_i64];simp only[wrap64])
   (try simp only[Act.put,sL])
   refine wpAnyG_take (i:=13) (v:=?vsa13) rfl (by kernel_rfl) hcl (fun _ _ _ h=>h) (Or.inl ⟨by rfl,?ysa13⟩) rfl (fun hcl=>?rsa13)
   case ysa13=>(intro w' hSw;subst hSw;go_simp;try with_reducible rfl)
   (try simp only[Act.put,sL])
   refine wpAnyG_exec (i:=14) rfl (by kernel_rfl) hcl (fun K hK=>?_)
   (try simp only[Act.put,sL])
   go_simp
   go_wp2_with fail
   refine hK.out _ _ (fun h=>by cases h) (fun hcl=>?_)
   clear hK
   (try simp only[Act.put,sL])
   refine wpAnyG_of_any _ _ _ _ (by rfl) ?_
   refine wpAny_done (by kernel_rfl) ?_ _
   have NM1:=hide (NM.out.keep (gw_start _))
   generalize (wy.setCell ⟨B7,4,none⟩ (.int .i64 (wrap64 (C+wrap64 (sg z*z))))).drew=wz at *
   rw[←EC.out]at NM1
   clear NM EC c4 f4 cz hix g1 g2
   have BB:=hide NM1.out.1
   go_wp2_with (first|refine wpList_load_arr rfl 77 _ rfl _ rfl _ BB.out _ Tryz.underlying77 rfl (by rw[hx];exact size4) ?_)
   clear BB
   go_loopw [39] (fun i wr=>∃u:Nat,i=.int .i64 u∧u≤4∧Hid (ScM w wr x B7 (x++[scC d x (m+1),scE d r x m u]))) (fun i _=>4-(intOf i).toNat)
   case atStart=>exact⟨0,rfl,Nat.zero_le _,NM1.out⟩
   case round=>
    obtain⟨u,rfl,hu,hM⟩:=hrel
    clear NM1
    by_cases hu4:u<4
    ·have hix:=IX.out u hu4
     have hPL2:=PL.out u hu4
     obtain⟨g1,g2⟩:=GX.out u (by omega)
     have AT:=hide (pulAt_any (u:Int) (nth x u) (by omega) (by omega) g1 g2 wr)
     rw[show(u:Int)+4*nth x u=((psN x u:Nat):Int) by unfold psN;omega]at AT
     obtain⟨ad',c',e',h1,h2⟩:=DV.out wr hM.out.2.2.2.2
     simp only[Value.slice.injEq]at e'
     obtain⟨e1,e2,rfl⟩:=e'
     obtain⟨a',rfl,h3⟩:=h2 (by rw[HDL.out];omega)
     obtain rfl:a=a':=by simpa using e1
     have cz:=h3 P (by rw[HDL.out];omega)
     have cy:=h3 (psN x u) (by rw[HDL.out];omega)
     rw[HZ.out]at cz
     have ct:=(TB.out wr hM.out.2.2.2.2).cell (P*40+psN x u) (by rw[tbl_len];omega)
     rw[tbl_at r P (psN x u) hPL hPL2]at ct
     have CC:=CH.out (scC d x (m+1)) (scE d r x m u) (scE d r x m (u+1))
     have c5:=hM.out.2.2.1.cell 5 (by omega)
     rw[CC.2.2.2.1]at c5
     have f5:=hM.out.2.2.1.free 5
     have NM:=hide (hM.out.set 5 (scE d r x m (u+1)))
     rw[CC.2.1]at NM
     have ES:=hide (show scE d r x m (u+1)=scE d r x m u+sg z*sg (nth d (psN x u))*enN r P (psN x u) by
      rw[scE_step];unfold scT ssN;rw[HP.out,HZ.out])
     have b1:=scT_bd d r x m u
     rw[show scT d r x m u=sg z*sg (nth d (psN x u))*enN r P (psN x u) by unfold scT ssN;rw[HP.out,HZ.out]]at b1
     have b2:=scE_bd d r x m (u+1) (by omega) (by omega)
     rw[ES.out]at b2 NM
     have b3:-1≤sg z*sg (nth d (psN x u))∧sg z*sg (nth d (psN x u))≤1:=by
      rcases sg_cases z with⟨_,h⟩|⟨_,h⟩<;>rcases sg_cases (nth d (psN x u))with⟨_,g⟩|⟨_,g⟩<;>rw[h,g]<;>omega
     have i3:(u:Int)<4:=by omega
     have i4:((psN x u:Nat):Int)<40:=by omega
     clear e1 e2 h1 h2 h3 hM CC
     generalize scE d r x m u=E at *
     generalize enN r P (psN x u)=n at *
     generalize nth d (psN x u)=y at *
     generalize psN x u=Q at *
     generalize nth x u=ql at *
     have W1:=wrapI (sg z*sg y) (by omega) (by omega)
     have W2:=wrapI (sg z*sg y*n) (by omega) (by omega)
     have W3:=wrapI (E+sg z*sg y*n) (by omega) (by omega)
     go_wp2_with fail
     refine AT.out.mono ?_
     rintro e wy ⟨rfl,rfl⟩
     clear AT
     go_upto_region 11 with fail
     refine wp_region_G 23 (fun w'=>w'=wy.drew) 24 (by rfl) #[false,false,false,false,false,false,false,false,false,false,false,false,false,false,false,false,false,false,false,false,false,false,false,false] (by rfl) (by kernel_rfl) (fun hcl=>?_)
     refine wpAnyG_take (i:=0) (v:=?vsb0) rfl (by kernel_rfl) hcl (fun _ _ _ h=>h) (Or.inl ⟨by rfl,?ysb0⟩) rfl (fun hcl=>?rsb0)
     case ysb0=>(intro w' hSw;subst hSw;go_simp;try with_reducible rfl)
     (try simp only[Act.put,sL])
     refine wpAnyG_take (i:=1) (v:=.int .i64 E) rfl (by kernel_rfl) hcl (fun _ _ _ h=>h) (Or.inl ⟨by rfl,?ysb1⟩) rfl (fun hcl=>?rsb1)
     case ysb1=>(intro w' hSw;subst hSw;go_simp;try with_reducible rfl)
     (try simp only[Act.put,sL])
     refine wpAnyG_take (i:=2) (v:=?vsb2) rfl (by kernel_rfl) hcl (fun _ _ _ h=>h) (Or.inl ⟨by rfl,?ysb2⟩) rfl (fun hcl=>?rsb2)
     case ysb2=>(intro w' hSw;subst hSw;go_simp;try with_reducible rfl)
     (try simp only[Act.put,sL])
     refine wpAnyG_take (i:=3) (v:=?vsb3) rfl (by kernel_rfl) hcl (fun _ _ _ h=>h) (Or.inl ⟨by rfl,?ysb3⟩) rfl (fun hcl=>?rsb3)
     case ysb3=>(intro w' hSw;subst hSw;go_simp;try with_reducible rfl)
     (try simp only[Act.put,sL])
     refine wpAnyG_take (i:=4) (v:=?vsb4) rfl (by kernel_rfl) hcl (fun _ _ _ h=>h) (Or.inl ⟨by rfl,?ysb4⟩) rfl (fun hcl=>?rsb4)
     case ysb4=>(intro w' hSw;subst hSw;go_simp;try with_reducible rfl)
     (try simp only[Act.put,sL])
     refine wpAnyG_take (i:=5) (v:=.int .i64 z) rfl (by kernel_rfl) hcl (fun _ _ _ h=>h) (Or.inl ⟨by rfl,?ysb5⟩) rfl (fun hcl=>?rsb5)
     case ysb5=>(intro w' hSw;subst hSw;go_simp;try with_reducible rfl)
     (try simp only[Act.put,sL])
     refine wpAnyG_take (i:=7) (v:=?vsb7) rfl (by kernel_rfl) hcl (fun _ _ _ h=>h) (Or.inl ⟨by rfl,?ysb7⟩) rfl (fun hcl=>?rsb7)
     case ysb7=>(intro w' hSw;subst hSw;go_simp;try with_reducible rfl)
     (try simp only[Act.put,sL])
     refine wpAnyG_take (i:=8) (v:=?vsb8) rfl (by kernel_rfl) hcl (fun _ _ _ h=>h) (Or.inl ⟨by rfl,?ysb8⟩) rfl (fun hcl=>?rsb8)
     case ysb8=>(intro w' hSw;subst hSw;go_simp;try with_reducible rfl)
     (try simp only[Act.put,sL])
     refine wpAnyG_take (i:=9) (v:=?vsb9) rfl (by kernel_rfl) hcl (fun _ _ _ h=>h) (Or.inl ⟨by rfl,?ysb9⟩) rfl (fun hcl=>?rsb9)
     case ysb9=>(intro w' hSw;subst hSw;go_simp;try with_reducible rfl)
     (try simp only[Act.put,sL])
     refine wpAnyG_take (i:=10) (v:=.int .i64 y) rfl (by kernel_rfl) hcl (fun _ _ _ h=>h) (Or.inl ⟨by rfl,?ysb10⟩) rfl (fun hcl=>?rsb10)
     case ysb10=>(intro w' hSw;subst hSw;go_simp;try with_reducible rfl)
     (try simp only[Act.put,sL])
     refine wpAnyG_take (i:=13) (v:=?vsb13) rfl (by kernel_rfl) hcl (fun _ _ _ h=>h) (Or.inl ⟨by rfl,?ysb13⟩) rfl (fun hcl=>?rsb13)
     case ysb13=>(intro w' hSw;subst hSw;go_simp;try with_reducible rfl)
     (try simp only[Act.put,sL])
     refine wpAnyG_take (i:=14) (v:=?vsb14) rfl (by kernel_rfl) hcl (fun _ _ _ h=>h) (Or.inl ⟨by rfl,?ysb14⟩) rfl (fun hcl=>?rsb14)
     case ysb14=>(intro w' hSw;subst hSw;go_simp;try with_reducible rfl)
     (try simp only[Act.put,sL])
     refine wpAnyG_take (i:=15) (v:=?vsb15) rfl (by kernel_rfl) hcl (fun _ _ _ h=>h) (Or.inl ⟨by rfl,?ysb15⟩) rfl (fun hcl=>?rsb15)
     case ysb15=>(intro w' hSw;subst hSw;go_simp;try with_reducible rfl)
     (try simp only[Act.put,sL])
     refine wpAnyG_take (i:=16) (v:=?vsb16) rfl (by kernel_rfl) hcl (fun _ _ _ h=>h) (Or.inl ⟨by rfl,?ysb16⟩) rfl (fun hcl=>?rsb16)
     case ysb16=>(intro w' hSw;subst hSw;go_simp;try with_reducible rfl)
     (try simp only[Act.put,sL])
     refine wpAnyG_take (i:=17) (v:=?vsb17) rfl (by kernel_rfl) hcl (fun _ _ _ h=>h) (Or.inl ⟨by rfl,?ysb17⟩) rfl (fun hcl=>?rsb17)
     case ysb17=>(intro w' hSw;subst hSw;go_simp;try with_reducible rfl)
     (try simp only[Act.put,sL])
     refine wpAnyG_take (i:=18) (v:=?vsb18) rfl (by kernel_rfl) hcl (fun _ _ _ h=>h) (Or.inl ⟨by rfl,?ysb18⟩) rfl (fun hcl=>?rsb18)
     case ysb18=>(intro w' hSw;subst hSw;go_simp;try with_reducible rfl)
     (try simp only[Act.put,sL])
     refine wpAnyG_take (i:=19) (v:=.int .i64 n) rfl (by kernel_rfl) hcl (fun _ _ _ h=>h) (Or.inl ⟨by rfl,?ysb19⟩) rfl (fun hcl=>?rsb19)
     case ysb19=>(intro w' hSw;subst hSw;go_simp;try with_reducible rfl)
     (try simp only[Act.put,sL])
     refine wpAnyG_exec (i:=6) rfl (by kernel_rfl) hcl (fun K hK=>?_)
     (try simp only[Act.put,sL])
     go_simp
     refine(pulSign_any z _).mono ?_
     rintro e wc ⟨rfl,rfl⟩
     go_wp2_with fail
     refine hK.out _ _ (fun _=>rfl) (fun hcl=>?_)
     clear hK
     (try simp only[Act.put,sL])
     refine wpAnyG_exec (i:=11) rfl (by kernel_rfl) hcl (fun K hK=>?_)
     (try simp only[Act.put,sL])
     go_simp
     refine(pulSign_any y _).mono ?_
     rintro e wc ⟨rfl,rfl⟩
     go_wp2_with fail
     refine hK.out _ _ (fun _=>rfl) (fun hcl=>?_)
     clear hK
     (try simp only[Act.put,sL])
     refine wpAnyG_take (i:=12) (v:=.int .i64 (sg z*sg y)) rfl (by kernel_rfl) hcl (fun _ _ _ h=>h) (Or.inl ⟨by rfl,?ysb12⟩) rfl (fun hcl=>?rsb12)
     case ysb12=>(intro w' hSw;subst hSw;go_simp;try simp only[W1])
     (try simp only[Act.put,sL])
     refine wpAnyG_take (i:=20) (v:=.int .i64 (sg z*sg y*n)) rfl (by kernel_rfl) hcl (fun _ _ _ h=>h) (Or.inl ⟨by rfl,?ysb20⟩) rfl (fun hcl=>?rsb20)
     case ysb20=>(intro w' hSw;subst hSw;go_simp;try simp only[W2])
     (try simp only[Act.put,sL])
     refine wpAnyG_take (i:=21) (v:=.int .i64 (E+sg z*sg y*n)) rfl (by kernel_rfl) hcl (fun _ _ _ h=>h) (Or.inl ⟨by rfl,?ysb21⟩) rfl (fun hcl=>?rsb21)
     case ysb21=>(intro w' hSw;subst hSw;go_simp;try simp only[W3])
     (try simp only[Act.put,sL])
     refine wpAnyG_take (i:=22) (v:=?vsb22) rfl (by kernel_rfl) hcl (fun _ _ _ h=>h) (Or.inl ⟨by rfl,?ysb22⟩) rfl (fun hcl=>?rsb22)
     case ysb22=>(intro w' hSw;subst hSw;go_simp;try with_reducible rfl)
     (try simp only[Act.put,sL])
     refine wpAnyG_exec (i:=23) rfl (by kernel_rfl) hcl (fun K hK=>?_)
     (try simp only[Act.put,sL])
     go_simp
     go_wp2_with fail
     refine hK.out _ _ (fun h=>by cases h) (fun hcl=>?_)
     clear hK
     (try simp only[Act.put,sL])
     refine wpAnyG_of_any _ _ _ _ (by rfl) ?_
     refine wpAny_done (by kernel_rfl) ?_ _
     have NM1:=hide (NM.out.keep (gw_start _))
     generalize (wy.setCell ⟨B7,5,none⟩ (.int .i64 (E+sg z*sg y*n))).drew=wz at *
     rw[←ES.out]at NM1
     clear NM ES c5 f5 cz cy ct hix g1 g2 W1 W2 W3 b1 b2 b3
     go_wp2_with fail
     go_roundw
     case rel=>exact⟨u+1,by go_num,by omega,NM1.out⟩
     case measure=>simp[intOf];omega
    ·obtain rfl:u=4:=by omega
     have NM:=hM
     rw[scE_next]at NM
     clear hM
     rw[show((4:Nat):Int)=4 from rfl]
     go_wp2_with fail
     go_roundw
     case rel=>exact⟨m+1,by go_num,by omega,NM.out⟩
     case measure=>simp[intOf];omega
  ·obtain rfl:m=4:=by omega
   have BA:=hide hM.out.2.2.1
   have BZ:=hide hM.out.2.1
   have GG:=hide hM.out.2.2.2.2
   have L6:=(CH.out (scC d x 4) (scE d r x 4 0) 0).2.2.2.2
   rw[show scC d x 4=cS d x from rfl,show scE d r x 4 0=eS d r x from rfl]at BA L6
   clear hM
   generalize x++[cS d x,eS d r x]=X at *
   have HL6:=hide L6
   clear L6
   rw[show((4:Nat):Int)=4 from rfl]
   go_wp2_with (first|refine wpList_load_arr rfl 253 _ rfl _ rfl _ BA.out _ Tryz.underlying253 rfl (by rw[HL6.out];exact sCho) ?_|refine wpList_store_arr rfl 253 _ _ rfl _ (zeros 6) X rfl rfl BZ.out (by rw[HL6.out,zeros_len]) (by rw[zeros_len];exact sCho) ?_)
   have PU:=put_arr (rs':=X) BZ.out (by rw[HL6.out,zeros_len])
   have hlv:=loadVar_arr PU.1 _ Tryz.underlying253 rfl (by rw[HL6.out];exact sCho)
   have GF:=hide (grown_own GG.out PU.2 (by omega))
   refine bodyPost_ret (v:=.agg (arrI X)) ?_ rfl ⟨rfl,GF.out⟩
   simp[results,Tryz.results258,asAddr,Act.put,hlv]
end Go.Proofs.YtdejpongekicdaaGreatDoor

/- PulD -/
namespace Go.Proofs.YtdejpongekicdaaGreatDoor
open Go.RowKit
set_option linter.unusedVariables false
set_option linter.unusedSimpArgs false
set_option maxHeartbeats 1000000
structure Frm (base:Nat) (w w':World):Prop where
 os:w'.os=w.os
 tape:w'.tape=w.tape
 output:w'.output=w.output
 size:w.heap.size≤w'.heap.size
 block:∀k,base≤k→k<w.heap.size→w'.heap[k]?=w.heap[k]?
theorem Frm.refl (base:Nat)(w:World):Frm base w w:=⟨rfl,rfl,rfl,Nat.le_refl _,fun _ _ _=>rfl⟩
theorem Frm.trans {base:Nat}{a b c:World}(h:Frm base a b)(k:Frm base b c):Frm base a c:=
 ⟨k.os.trans h.os,k.tape.trans h.tape,k.output.trans h.output,Nat.le_trans h.size k.size,fun i hi hs=>(k.block i hi (Nat.lt_of_lt_of_le hs h.size)).trans (h.block i hi hs)⟩
theorem Frm.of {base:Nat}{a b:World}(h:a.grownBy b none):Frm base a b:=⟨h.os,h.tape,h.output,h.size,fun i _ hs=>h.block i hs (by simp)⟩
theorem Frm.more {base:Nat}{a b c:World}{r:Option Nat}(h:Frm base a b)(k:b.grownBy c r)(hr:∀i,r=some i→a.heap.size≤i):Frm base a c:=
 ⟨k.os.trans h.os,k.tape.trans h.tape,k.output.trans h.output,Nat.le_trans h.size k.size,fun i hi hs=>(k.block i (Nat.lt_of_lt_of_le hs h.size) (fun e=>by have:=hr i e.symm;omega)).trans (h.block i hi hs)⟩
theorem Blk.frm {base:Nat}{w w':World}{b:Nat}{T:TypeId}{rs:List Int}(h:Blk w b T rs)(g:Frm base w w')(hb:base≤b):Blk w' b T rs:=(g.block b hb h.lt).trans h
theorem heap_grown {w w':World}{b:Nat}{o:Obj}{r:Option Nat}(h:w.heap[b]?=some o)(g:w.grownBy w' r)(hb:some b≠r):w'.heap[b]?=some o:=(g.block b (lt_of_some h) hb).trans h
def Stab (base:Nat)(Inv:Nat→World→Prop):Prop:=∀m wr wr' r,Inv m wr→wr.grownBy wr' r→(∀b,r=some b→base≤b)→Inv m wr'
def Vis (base n:Nat)(caps:Array Value)(Inv:Nat→World→Prop)(ix:Nat→List Int)(N:Nat):Prop:=
 ∀m wr,m<N→base≤wr.heap.size→Inv m wr→Calls Tryz.prog n (#[.agg (arrI (ix m))]++caps) wr fun e w'=>e=.returned (.tuple #[])∧Inv (m+1) w'∧Frm base wr w'
set_option maxRecDepth 100000 in
theorem pulWalkTrack_any (n:Nat)(caps:Array Value)(hen:∀args u,(callFunc n args).run Tryz.prog u=.ok (.enter n args) u)(base:Nat)(Inv:Nat→World→Prop)(hst:Stab base Inv)(x:List Int)(hx:x.length=4)(t:Nat)(ht:t<4)
  (hV:Vis base n caps Inv (fun p=>x.set t (p:Int)) 10) (w:World) (hb:base≤w.heap.size) (hI:Inv 0 w) :
  Calls Tryz.prog 230 #[.agg (arrI x),.int .i64 (t:Int),.func (.func n) #[] caps] w fun e w'=>e=.returned (.tuple #[])∧Inv 10 w'∧Frm base w w':=by
 have HST:=hide hst
 have HV:=hide hV
 have HB:=hide hb
 have W0:=hide (show Blk (w.alloc (.cells (arrI x) 77)) w.heap.size 77 x∧Inv 0 (w.alloc (.cells (arrI x) 77))∧Frm base w (w.alloc (.cells (arrI x) 77))from⟨Blk.new w _ _,hst 0 w _ none hI (grown_alloc _ _ none) (fun b e=>by cases e),Frm.of (grown_alloc _ _ none)⟩)
 clear hst hV hb hI
 go_enter Tryz.func230,Tryz.ntmps230
 go_wp2_with fail
 generalize w.alloc (.cells (arrI x) 77)=W1 at *
 go_loopw [7] (fun i wr=>∃(p:Nat) (y:List Int),i=.int .i64 p∧p≤10∧Hid (y.length=4∧∀z:Int,y.set t z=x.set t z)∧Hid (Blk wr w.heap.size 77 y∧Inv p wr∧Frm base w wr)) (fun i _=>10-(intOf i).toNat)
 case atStart=>exact⟨0,x,rfl,Nat.zero_le _,⟨hx,fun _=>rfl⟩,W0.out⟩
 case round=>
  obtain⟨p,y,rfl,hp,hy,hM⟩:=hrel
  clear W0
  by_cases hp10:p<10
  ·have ct:=hM.out.1.cell t (by have:=hy.out.1;omega)
   have ft:=hM.out.1.free t
   have gs:=grown_setCell wr ⟨w.heap.size,t,none⟩ (.int .i64 (p:Int))
   have NM:=hide (show Blk (wr.setCell ⟨w.heap.size,t,none⟩ (.int .i64 (p:Int))) w.heap.size 77 (x.set t (p:Int))∧Inv p (wr.setCell ⟨w.heap.size,t,none⟩ (.int .i64 (p:Int)))∧Frm base w (wr.setCell ⟨w.heap.size,t,none⟩ (.int .i64 (p:Int)))from
    ⟨by have:=hM.out.1.set t (p:Int);rw[hy.out.2]at this;exact this,HST.out p wr _ _ hM.out.2.1 gs (fun b e=>by have:=HB.out;cases e;exact this),hM.out.2.2.more gs (fun b e=>by cases e;exact Nat.le_refl _)⟩)
   have NY:=hide (show(x.set t (p:Int)).length=4∧∀z:Int,(x.set t (p:Int)).set t z=x.set t z from⟨by simpa using hx,fun z=>by rw[List.set_set]⟩)
   have i1:(p:Int)<10:=by omega
   have i2:(t:Int)<4:=by omega
   clear hy hM gs
   generalize nth y t=q at *
   go_upto_region 5 with fail
   generalize wr.setCell ⟨w.heap.size,t,none⟩ (.int .i64 (p:Int))=W2 at *
   have BB:=hide NM.out.1
   have V1:=hide (HV.out p W2 hp10 (Nat.le_trans HB.out NM.out.2.2.size) NM.out.2.1)
   go_wp2_with (first|refine wpList_load_arr rfl 77 _ rfl _ rfl _ BB.out _ Tryz.underlying77 rfl (by rw[NY.out.1];exact size4) ?_)
   refine V1.out.mono ?_
   rintro e w3 ⟨rfl,j3,f3⟩
   have N3:=hide (show Blk w3 w.heap.size 77 (x.set t (p:Int))∧Inv (p+1) w3∧Frm base w w3 from⟨NM.out.1.frm f3 HB.out,j3,NM.out.2.2.trans f3⟩)
   clear V1 BB NM j3 f3
   go_wp2_with fail
   go_roundw
   case rel=>exact⟨p+1,_,by go_num,by omega,NY.out,N3.out⟩
   case measure=>simp[intOf];omega
  ·obtain rfl:p=10:=by omega
   have F:=hide hM.out.2
   clear hM hy HV
   rw[show((10:Nat):Int)=10 from rfl]
   go_wp2_with fail
   go_end0
   exact⟨rfl,F.out⟩
end Go.Proofs.YtdejpongekicdaaGreatDoor

/- PulE -/
namespace Go.Proofs.YtdejpongekicdaaGreatDoor
open Go.RowKit
set_option linter.unusedVariables false
set_option linter.unusedSimpArgs false
set_option maxHeartbeats 1000000
theorem Frm.low {base:Nat}{a b c:World}{i:Nat}(h:Frm base a b)(k:b.grownBy c (some i))(hi:i<base):Frm base a c:=
 ⟨k.os.trans h.os,k.tape.trans h.tape,k.output.trans h.output,Nat.le_trans h.size k.size,fun j hj hs=>(k.block j (Nat.lt_of_lt_of_le hs h.size) (fun e=>by cases e;omega)).trans (h.block j hj hs)⟩
def kepL (s:List Int×Int×Int):List Int:=s.1++[s.2.1,s.2.2]
def BsM (w0:World)(vd:Value)(B:Nat)(s:List Int)(f:Bool)(wr:World):Prop:=
 w0.grownBy wr none∧wr.heap[w0.heap.size]?=some (.cells #[vd] 26 (0,0))∧wr.heap[w0.heap.size+1]?=some (.cells #[.pointer (some ⟨B,0,none⟩)] 231 (0,0))∧Blk wr (w0.heap.size+1+1) 77 (zeros 4)∧Blk wr (w0.heap.size+1+1+1) 253 s∧wr.heap[w0.heap.size+1+1+1+1]?=some (.cells #[.bool f] 4 (0,0))
theorem BsM.more {w0:World}{vd:Value}{B:Nat}{s:List Int}{f:Bool}{wr wr':World}{r:Option Nat}(h:BsM w0 vd B s f wr)(g:wr.grownBy wr' r)(hr:∀b,r=some b→w0.heap.size+5≤b):BsM w0 vd B s f wr':=by
 obtain⟨h1,h2,h3,h4,h5,h6⟩:=h
 exact⟨grown_own' h1 g (fun b e=>by have:=hr b e;omega),heap_grown h2 g (fun e=>by have:=hr _ e.symm;omega),heap_grown h3 g (fun e=>by have:=hr _ e.symm;omega),heap_grown h4 g (fun e=>by have:=hr _ e.symm;omega),heap_grown h5 g (fun e=>by have:=hr _ e.symm;omega),heap_grown h6 g (fun e=>by have:=hr _ e.symm;omega)⟩
theorem BsM.keep {w0:World}{vd:Value}{B:Nat}{s:List Int}{f:Bool}{wr wr':World}(h:BsM w0 vd B s f wr)(g:wr.grownBy wr' none):BsM w0 vd B s f wr':=h.more g (fun b e=>by cases e)
theorem BsM.put {w0:World}{vd:Value}{B:Nat}{s s':List Int}{f:Bool}{wr:World}(h:BsM w0 vd B s f wr)(hl:s'.length=s.length):BsM w0 vd B s' f (putArr wr (w0.heap.size+1+1+1) s'):=by
 obtain⟨h1,h2,h3,h4,h5,h6⟩:=h
 have PU:=put_arr (rs':=s') h5 hl
 exact⟨grown_own h1 PU.2 (by omega),heap_grown h2 PU.2 (fun e=>by have:=Option.some.inj e;(try dsimp only at this);omega),heap_grown h3 PU.2 (fun e=>by have:=Option.some.inj e;(try dsimp only at this);omega),heap_grown h4 PU.2 (fun e=>by have:=Option.some.inj e;(try dsimp only at this);omega),PU.1,heap_grown h6 PU.2 (fun e=>by have:=Option.some.inj e;(try dsimp only at this);omega)⟩
theorem BsM.flag {w0:World}{vd:Value}{B:Nat}{s:List Int}{f:Bool}{wr:World}(h:BsM w0 vd B s f wr)(v:Bool):BsM w0 vd B s v (wr.setCell ⟨w0.heap.size+1+1+1+1,0,none⟩ (.bool v)):=by
 obtain⟨h1,h2,h3,h4,h5,h6⟩:=h
 have g:=grown_setCell wr ⟨w0.heap.size+1+1+1+1,0,none⟩ (.bool v)
 refine⟨grown_own h1 g (by simp;omega),heap_grown h2 g (fun e=>by have:=Option.some.inj e;(try dsimp only at this);omega),heap_grown h3 g (fun e=>by have:=Option.some.inj e;(try dsimp only at this);omega),heap_grown h4 g (fun e=>by have:=Option.some.inj e;(try dsimp only at this);omega),heap_grown h5 g (fun e=>by have:=Option.some.inj e;(try dsimp only at this);omega),?_⟩
 rw[heap_setCell h6]
 rfl
def BsI (w0:World)(vd:Value)(B:Nat)(C E:List Int→Int)(ix:Nat→List Int)(m:Nat)(wr:World):Prop:=BsM w0 vd B (kepL (bsS C E ix m)) (decide (m=0)) wr
theorem cS_bd (d x:List Int):cS d x≤9223372036854775807:=by
 show wrap64 _≤_
 unfold wrap64
 omega
theorem eS_bd (d r x:List Int):eS d r x≤9223372036854775807:=by
 have:=scE_bd d r x 4 0 (by omega) (by omega)
 unfold eS
 omega
theorem bsS_len (C E:List Int→Int)(ix:Nat→List Int)(N:Nat)(hix:∀m,m<N→(ix m).length=4):∀m,m≤N→(bsS C E ix m).1.length=4
 | 0,_=>rfl
 | m+1,hm=>by
  obtain⟨j,hj,e⟩:=bsS_own C E ix (m+1) (by omega)
  rw[e]
  exact hix j (by omega)
set_option maxRecDepth 100000 in
theorem pulBest1_any (w0:World)(vd:Value)(B:Nat)(d r:List Int)(ix:Nat→List Int)(N:Nat)(hd:Ints w0 vd d)(hdl:d.length=40)(hB:Blk w0 B 264 (tbl r))(hix:∀m,m<N→(ix m).length=4∧goodX (ix m)=true)
  (m:Nat) (wr:World) (hm:m<N) (hsz:w0.heap.size+5≤wr.heap.size) (hI:BsI w0 vd B (cS d) (eS d r) ix m wr) :
  Calls Tryz.prog 257 #[.agg (arrI (ix m)),.pointer (some ⟨w0.heap.size,0,none⟩),.pointer (some ⟨w0.heap.size+1,0,none⟩),.pointer (some ⟨w0.heap.size+1+1+1+1,0,none⟩),.pointer (some ⟨w0.heap.size+1+1+1,0,none⟩)] wr fun e w'=>e=.returned (.tuple #[])∧BsI w0 vd B (cS d) (eS d r) ix (m+1) w'∧Frm (w0.heap.size+5) wr w':=by
 obtain⟨hx,hg⟩:=hix m hm
 have ga:=grown_alloc wr (.cells (arrI (ix m)) 77) none
 have M1:=hide (BsM.keep hI ga)
 have F1:=hide (Frm.of (base:=w0.heap.size+5) ga)
 have BX:=hide (Blk.new wr 77 (ix m))
 have SC:=hide (fun W (g:w0.grownBy W none)=>pulScored_any vd d r (ix m) B W (Ints_keep hd g) hdl (hB.keep g) hx hg)
 have LK:=hide (bsS_len (cS d) (eS d r) ix N (fun j hj=>(hix j hj).1) m (by omega))
 have NX:=hide (show m=0∨btr (cS d (ix m)) (eS d r (ix m)) (bsS (cS d) (eS d r) ix m).2.1 (bsS (cS d) (eS d r) ix m).2.2=true→bsS (cS d) (eS d r) ix (m+1)=(ix m,cS d (ix m),eS d r (ix m))from bsS_yes _ _ _ _)
 have NN:=hide (show ¬(m=0∨btr (cS d (ix m)) (eS d r (ix m)) (bsS (cS d) (eS d r) ix m).2.1 (bsS (cS d) (eS d r) ix m).2.2=true)→bsS (cS d) (eS d r) ix (m+1)=bsS (cS d) (eS d r) ix m from bsS_no _ _ _ _)
 have KB:=hide (show 0<m→(bsS (cS d) (eS d r) ix m).2.1≤9223372036854775807∧(bsS (cS d) (eS d r) ix m).2.2≤9223372036854775807 from fun h=>by
  obtain⟨j,_,e⟩:=bsS_own (cS d) (eS d r) ix m h
  rw[e]
  exact⟨cS_bd _ _,eS_bd _ _ _⟩)
 have hcb:=cS_bd d (ix m)
 have heb:=eS_bd d r (ix m)
 have FIN:=hide (show ∀w' v,bsS (cS d) (eS d r) ix (m+1)=v→BsM w0 vd B (kepL v) false w'→BsI w0 vd B (cS d) (eS d r) ix (m+1) w' from fun w' v e h=>by unfold BsI;rw[e];simpa using h)
 have hz:=zero_arr zCho
 obtain⟨ad,cp,rfl,hcp,_⟩:=hd
 have CL:=hide (fun c e z=>cho_c (ix m) hx c e z)
 unfold BsI at hI
 clear hB hix hg hcp hdl hI ga
 generalize BsI w0 _ B (cS d) (eS d r) ix (m+1)=Fin at *
 generalize bsS (cS d) (eS d r) ix m=ks at *
 generalize bsS (cS d) (eS d r) ix (m+1)=ks' at *
 generalize cS d (ix m)=C at *
 generalize eS d r (ix m)=E at *
 generalize ix m=x at *
 obtain⟨kx,kc,ke⟩:=ks
 dsimp only at NX NN KB LK
 have CK:=hide (fun c e z=>cho_c kx LK.out c e z)
 go_enter Tryz.func257,Tryz.ntmps257
 go_upto_region 1 with fail
 generalize wr.alloc (.cells (arrI x) 77)=W1 at *
 have cd:W1.cell? ⟨w0.heap.size,0,none⟩=some (.slice ad d.length cp):=(cell_of_heap M1.out.2.1 0).trans rfl
 have cb:W1.cell? ⟨w0.heap.size+1,0,none⟩=some (.pointer (some ⟨B,0,none⟩)):=(cell_of_heap M1.out.2.2.1 0).trans rfl
 have SS:=hide (SC.out W1 M1.out.1)
 go_wp2_with (first|refine wpList_load_arr rfl 77 _ rfl _ rfl _ BX.out _ Tryz.underlying77 rfl (by rw[hx];exact size4) ?_)
 refine SS.out.mono ?_
 rintro e w2 ⟨rfl,g2⟩
 have hX:=(CL.out C E 0).2.2.2.2
 have x4:=(CL.out C E 0).2.2.1
 have x5:=(CL.out C E 0).2.2.2.1
 have FA:=fresh_arr w2 253 6 (x++[C,E]) hX
 have BZ:=hide FA.1
 have M3:=hide ((M1.out.keep g2).keep FA.2.2)
 have F3:=hide ((F1.out.trans (Frm.of g2)).trans (Frm.of FA.2.2))
 have BA:=hide FA.2.1
 have EX:=hide (show x++[C,E]=kepL (x,C,E)from rfl)
 clear SS SC g2 FA cd cb M1 F1 BX
 have HX:=hide hX
 clear hX
 go_upto_region 2 with(first|refine wpList_store_arr rfl 253 _ _ rfl _ (zeros 6) (x++[C,E]) rfl rfl BZ.out (by rw[HX.out,zeros_len]) (by rw[zeros_len];exact sCho) ?_)
 (try simp only[Act.put])
 clear BZ hz
 generalize putArr (w2.alloc _) w2.heap.size (x++[C,E])=W3 at *
 generalize w2.heap.size=b6 at *
 have q4:=BA.out.cell 4 (by rw[HX.out];omega)
 have q5:=BA.out.cell 5 (by rw[HX.out];omega)
 rw[x4]at q4
 rw[x5]at q5
 clear x4 x5
 have cf:=(cell_of_heap M3.out.2.2.2.2.2 0).trans (show(#[Value.bool (decide (m=0))]:Array Value)[0]?=some (.bool (decide (m=0)))from rfl)
 have ff:=frozen_of_heap M3.out.2.2.2.2.2 0
 have BK:=hide M3.out.2.2.2.2.1
 have hK6:=(CK.out kc ke 0).2.2.2.2
 rw[show kepL (kx,kc,ke)=kx++[kc,ke]from rfl]at BK M3
 have MP:=hide (M3.out.put (s':=x++[C,E]) (by rw[HX.out,hK6]))
 have FP:=hide (F3.out.low (put_arr (rs':=x++[C,E]) BK.out (by rw[HX.out,hK6])).2 (by omega))
 have HK6:=hide hK6
 by_cases h0:m=0
 ·rw[decide_eq_true h0]at cf M3 MP
  have EN:=hide (NX.out (.inl h0))
  clear NX NN KB CK h0 hK6
  go_upto_region 3 with fail
  go_upto_region 4 with(first|refine wpList_load_arr rfl 253 _ rfl _ rfl _ BA.out _ Tryz.underlying253 rfl (by rw[HX.out];exact sCho) ?_|refine wpList_store_arr rfl 253 _ _ rfl _ (kx++[kc,ke]) (x++[C,E]) rfl rfl BK.out (by rw[HX.out,HK6.out]) (by rw[HK6.out];exact sCho) ?_)
  (try simp only[Act.put])
  clear BA BK q4 q5 cf ff M3 F3
  generalize putArr W3 _ (x++[C,E])=W4 at *
  have cf:=(cell_of_heap MP.out.2.2.2.2.2 0).trans (show(#[Value.bool true]:Array Value)[0]?=some (.bool true)from rfl)
  have ff:=frozen_of_heap MP.out.2.2.2.2.2 0
  have MF:=hide (MP.out.flag false)
  have FF:=hide (FP.out.low (grown_setCell W4 ⟨w0.heap.size+1+1+1+1,0,none⟩ (.bool false)) (by simp<;>omega))
  clear MP FP
  go_wp2_with fail
  go_end0
  exact⟨rfl,FIN.out _ _ EN.out MF.out,FF.out⟩
 ·rw[decide_eq_false h0]at cf M3 MP
  obtain⟨kb1,kb2⟩:=KB.out (by omega)
  have r4:=BK.out.cell 4 (by omega)
  have r5:=BK.out.cell 5 (by omega)
  rw[(CK.out kc ke 0).2.2.1]at r4
  rw[(CK.out kc ke 0).2.2.2.1]at r5
  have BT:=hide (betterG_any C E kc ke hcb heb kb1 kb2 W3)
  rcases hb:btr C E kc ke with _|_
  ·rw[hb]at BT
   have EN:=hide (NN.out (fun h=>by rcases h with h|h;exact h0 h;rw[hb]at h;cases h))
   clear NX NN KB CK h0 hK6 hb MP FP
   go_wp2_with fail
   refine BT.out.mono ?_
   rintro e w7 ⟨rfl,g7⟩
   have M7:=hide (M3.out.keep g7)
   have F7:=hide (F3.out.trans (Frm.of g7))
   clear g7 BT M3 F3 BA BK q4 q5 r4 r5 cf ff
   have cf:=(cell_of_heap M7.out.2.2.2.2.2 0).trans (show(#[Value.bool false]:Array Value)[0]?=some (.bool false)from rfl)
   have ff:=frozen_of_heap M7.out.2.2.2.2.2 0
   have MF:=hide (M7.out.flag false)
   have FF:=hide (F7.out.low (grown_setCell w7 ⟨w0.heap.size+1+1+1+1,0,none⟩ (.bool false)) (by simp<;>omega))
   clear M7 F7
   go_wp2_with fail
   go_end0
   exact⟨rfl,FIN.out _ _ EN.out MF.out,FF.out⟩
  ·rw[hb]at BT
   have EN:=hide (NX.out (.inr hb))
   clear NX NN KB CK h0 hK6 hb MP FP
   go_wp2_with fail
   refine BT.out.mono ?_
   rintro e w7 ⟨rfl,g7⟩
   have M7:=hide (M3.out.keep g7)
   have F7:=hide (F3.out.trans (Frm.of g7))
   have BA7:=hide (BA.out.keep g7)
   have BK7:=hide (BK.out.keep g7)
   have MP:=hide (M7.out.put (s':=x++[C,E]) (by rw[HX.out,HK6.out]))
   have FP:=hide (F7.out.low (put_arr (rs':=x++[C,E]) BK7.out (by rw[HX.out,HK6.out])).2 (by omega))
   clear g7 BT M3 F3 BA BK q4 q5 r4 r5 cf ff M7 F7
   go_upto_region 3 with fail
   go_upto_region 4 with(first|refine wpList_load_arr rfl 253 _ rfl _ rfl _ BA7.out _ Tryz.underlying253 rfl (by rw[HX.out];exact sCho) ?_|refine wpList_store_arr rfl 253 _ _ rfl _ (kx++[kc,ke]) (x++[C,E]) rfl rfl BK7.out (by rw[HX.out,HK6.out]) (by rw[HK6.out];exact sCho) ?_)
   (try simp only[Act.put])
   clear BA7 BK7
   generalize putArr w7 _ (x++[C,E])=W4 at *
   have cf:=(cell_of_heap MP.out.2.2.2.2.2 0).trans (show(#[Value.bool false]:Array Value)[0]?=some (.bool false)from rfl)
   have ff:=frozen_of_heap MP.out.2.2.2.2.2 0
   have MF:=hide (MP.out.flag false)
   have FF:=hide (FP.out.low (grown_setCell W4 ⟨w0.heap.size+1+1+1+1,0,none⟩ (.bool false)) (by simp<;>omega))
   clear MP FP
   go_wp2_with fail
   go_end0
   exact⟨rfl,FIN.out _ _ EN.out MF.out,FF.out⟩
theorem enters_best1 (args:Array Value)(u:World):(callFunc 257 args).run Tryz.prog u=.ok (.enter 257 args) u:=by kernel_rfl
def Walks (w0:World)(nW:Nat)(capsW:Array Value)(ix:Nat→List Int)(N:Nat):Prop:=
 ∀(wr:World) (base nV:Nat) (capsV:Array Value) (Inv:Nat→World→Prop),w0.grownBy wr none→(∀args u,(callFunc nV args).run Tryz.prog u=.ok (.enter nV args) u)→Stab base Inv→Vis base nV capsV Inv ix N→base≤wr.heap.size→Inv 0 wr→
  Calls Tryz.prog nW (#[.func (.func nV) #[] capsV]++capsW) wr fun e w'=>e=.returned (.tuple #[])∧Inv N w'∧Frm base wr w'
theorem wpList_load_pre {ops:Array Oper}{rest:List Oper}{op:Oper}{a:Act}{w:World}{Q:Exit→Act→World→Prop}(hgd:op.guard=none)(T T':TypeId)(x:Operand)(ho:op.op=.load T x)
  (b:Nat) (hx:a.eval x=.pointer (some ⟨b,0,none⟩)) (rs qs:List Int) (h:Blk w b T' (rs++qs)) (d:TypeDesc) (hu:Tryz.prog.underlying T=some d) (hd:d.isRow=true) (hi:(Tryz.prog.info? T).map (·.size)=some rs.length)
  (k:wpList Tryz.prog ops Q rest (a.put op.dst (.agg (arrI rs))) w):wpList Tryz.prog ops Q (op::rest) a w:=by
 refine wpList_load_mid hgd T x ho b 0 hx (rs.map (Value.int .i64)) d (fun j v hv=>h.range j v ?_) hu hd (by simpa using hi) k
 rw[List.map_append,List.getElem?_append_left]
 ·exact hv
 ·by_cases hj:j<(rs.map (Value.int .i64)).length
  ·exact hj
  ·rw[List.getElem?_eq_none (by omega)]at hv;cases hv
theorem zArr4:(Tryz.prog.info? 77).bind (·.zero)=some (.agg (arrI (zeros 4))):=by kernel_rfl
set_option maxRecDepth 100000 in
theorem pulBest_any (vd:Value)(B:Nat)(d r:List Int)(ix:Nat→List Int)(N:Nat)(w:World)(hd:Ints w vd d)(hdl:d.length=40)(hB:Blk w B 264 (tbl r))(hix:∀m,m<N→(ix m).length=4∧goodX (ix m)=true)
  (nW:Nat) (capsW:Array Value) (hen:∀args u,(callFunc nW args).run Tryz.prog u=.ok (.enter nW args) u) (hW:Walks w nW capsW ix N) :
  Calls Tryz.prog 228 #[vd,.pointer (some ⟨B,0,none⟩),.func (.func nW) #[] capsW] w (AnsG w (.agg (arrI (bsS (cS d) (eS d r) ix N).1))):=by
 have hmf:∀(fn:Fn) (first cap:Array Value) (w:World),(Instr.makeFunc fn first cap).run Tryz.prog w=.ok (.func fn first cap) w:=fun _ _ _ _=>rfl
 have hz4:=zero_arr zArr4
 have hz6:=zero_arr zCho
 have LEN:=hide (bsS_len (cS d) (eS d r) ix N (fun j hj=>(hix j hj).1) N (Nat.le_refl _))
 have VIS:=hide (show Vis (w.heap.size+5) 257 #[.pointer (some ⟨w.heap.size,0,none⟩),.pointer (some ⟨w.heap.size+1,0,none⟩),.pointer (some ⟨w.heap.size+1+1+1+1,0,none⟩),.pointer (some ⟨w.heap.size+1+1+1,0,none⟩)] (BsI w vd B (cS d) (eS d r) ix) ix N from
  fun m wr hm hs hI=>pulBest1_any w vd B d r ix N hd hdl hB hix m wr hm hs hI)
 have STB:=hide (show Stab (w.heap.size+5) (BsI w vd B (cS d) (eS d r) ix)from fun m wr wr' r h g hr=>BsM.more h g hr)
 have WK:=hide (fun wr (g:w.grownBy wr none) (hs:w.heap.size+5≤wr.heap.size) (hI:BsI w vd B (cS d) (eS d r) ix 0 wr)=>hW wr (w.heap.size+5) 257 _ _ g enters_best1 STB.out VIS.out hs hI)
 obtain⟨ad,cp,rfl,hcp,_⟩:=hd
 have L:=hide (show BsI w (.slice ad d.length cp) B (cS d) (eS d r) ix 0 (((((w.alloc (.cells #[.slice ad d.length cp] 26)).alloc (.cells #[.pointer (some ⟨B,0,none⟩)] 231)).alloc (.cells (arrI (zeros 4)) 77)).alloc (.cells (arrI (zeros 6)) 253)).alloc (.cells #[.bool true] 4))∧w.heap.size+5≤(((((w.alloc (.cells #[.slice ad d.length cp] 26)).alloc (.cells #[.pointer (some ⟨B,0,none⟩)] 231)).alloc (.cells (arrI (zeros 4)) 77)).alloc (.cells (arrI (zeros 6)) 253)).alloc (.cells #[.bool true] 4)).heap.size from by
  have g1:=grown_alloc w (.cells #[.slice ad d.length cp] 26) none
  have h1:=heap_new w (.cells #[.slice ad d.length cp] 26)
  generalize hw1:w.alloc (.cells #[.slice ad d.length cp] 26)=w1 at *
  have s1:w1.heap.size=w.heap.size+1:=by rw[←hw1];simp
  have g2:=grown_alloc w1 (.cells #[.pointer (some ⟨B,0,none⟩)] 231) none
  have h2:=heap_new w1 (.cells #[.pointer (some ⟨B,0,none⟩)] 231)
  generalize hw2:w1.alloc (.cells #[.pointer (some ⟨B,0,none⟩)] 231)=w2 at *
  have s2:w2.heap.size=w.heap.size+1+1:=by rw[←hw2];simp[s1]
  have g3:=grown_alloc w2 (.cells (arrI (zeros 4)) 77) none
  have h3:=Blk.new w2 77 (zeros 4)
  generalize hw3:w2.alloc (.cells (arrI (zeros 4)) 77)=w3 at *
  have s3:w3.heap.size=w.heap.size+1+1+1:=by rw[←hw3];simp[s2]
  have g4:=grown_alloc w3 (.cells (arrI (zeros 6)) 253) none
  have h4:=Blk.new w3 253 (zeros 6)
  generalize hw4:w3.alloc (.cells (arrI (zeros 6)) 253)=w4 at *
  have s4:w4.heap.size=w.heap.size+1+1+1+1:=by rw[←hw4];simp[s3]
  have g5:=grown_alloc w4 (.cells #[.bool true] 4) none
  have h5:=heap_new w4 (.cells #[.bool true] 4)
  have s5:(w4.alloc (.cells #[.bool true] 4)).heap.size=w.heap.size+1+1+1+1+1:=by simp[s4]
  rw[s1]at h2
  rw[s2]at h3
  rw[s3]at h4
  rw[s4]at h5
  refine⟨⟨grown_none (grown_none (grown_none (grown_none g1 g2) g3) g4) g5,?_,?_,?_,h4.keep g5,h5⟩,by omega⟩
  ·exact heap_grown (heap_grown (heap_grown (heap_grown h1 g2 (by simp)) g3 (by simp)) g4 (by simp)) g5 (by simp)
  ·exact heap_grown (heap_grown (heap_grown h2 g3 (by simp)) g4 (by simp)) g5 (by simp)
  ·exact(h3.keep g4).keep g5)
 clear VIS STB hW hix hcp hB hdl
 go_enter Tryz.func228,Tryz.ntmps228
 go_upto_region 3 with fail
 generalize ((((w.alloc _).alloc _).alloc _).alloc _).alloc _=W1 at *
 go_wp2_with fail
 refine(WK.out W1 L.out.1.1 L.out.2 L.out.1).mono ?_
 rintro e w2 ⟨rfl,j2,f2⟩
 have M2:=hide j2
 unfold BsI at M2
 clear j2 f2 WK L hmf hz4 hz6 hen
 generalize bsS (cS d) (eS d r) ix N=ks at *
 obtain⟨kx,kc,ke⟩:=ks
 dsimp only at LEN ⊢
 have BK:=hide M2.out.2.2.2.2.1
 rw[show kepL (kx,kc,ke)=kx++[kc,ke]from rfl]at BK
 have BZ:=hide M2.out.2.2.2.1
 have GG:=hide M2.out.1
 clear M2
 go_wp2_with (first|refine wpList_load_pre rfl 77 253 _ rfl _ rfl kx [kc,ke] BK.out _ Tryz.underlying77 rfl (by rw[LEN.out];exact size4) ?_|refine wpList_store_arr rfl 77 _ _ rfl _ (zeros 4) kx rfl rfl BZ.out (by rw[LEN.out,zeros_len]) (by rw[zeros_len];exact size4) ?_)
 have PU:=put_arr (rs':=kx) BZ.out (by rw[LEN.out,zeros_len])
 have hlv:=loadVar_arr PU.1 _ Tryz.underlying77 rfl (by rw[LEN.out];exact size4)
 have GF:=hide (grown_own GG.out PU.2 (by omega))
 refine bodyPost_ret (v:=.agg (arrI kx)) ?_ rfl ⟨rfl,GF.out⟩
 simp[results,Tryz.results228,asAddr,Act.put,hlv]
end Go.Proofs.YtdejpongekicdaaGreatDoor

/- PulF -/
namespace Go.Proofs.YtdejpongekicdaaGreatDoor
open Go.RowKit
set_option linter.unusedVariables false
set_option linter.unusedSimpArgs false
set_option maxHeartbeats 1000000
def Finds (w0:World)(nF:Nat)(capsF:Array Value)(r X:List Int):Prop:=
 ∀(wr:World) (B:Nat),w0.grownBy wr none→Blk wr B 264 (tbl r)→Calls Tryz.prog nF (#[.pointer (some ⟨B,0,none⟩)]++capsF) wr (AnsG wr (.agg (arrI X)))
theorem enters_Few11 (args:Array Value)(u:World):(callFunc 229 args).run Tryz.prog u=.ok (.enter 229 args) u:=by kernel_rfl
set_option maxRecDepth 100000 in
theorem pulFew11_walks (w0:World)(x:List Int)(hx:x.length=4)(t:Nat)(ht:t<4)(bi bt:Nat)(hb1:Blk w0 bi 77 x)(hc:w0.cell? ⟨bt,0,none⟩=some (.int .i64 (t:Int))):Walks w0 229 #[.pointer (some ⟨bi,0,none⟩),.pointer (some ⟨bt,0,none⟩)] (fun p=>x.set t (p:Int)) 10:=by
 intro wr base nV capsV Inv g hen hst hV hb hI
 have CA:=hide (pulWalkTrack_any nV capsV hen base Inv hst x hx t ht hV wr hb hI)
 have ct:=grown_keep g hc
 have BB:=hide (hb1.keep g)
 clear hst hV hI hb hc hb1 g
 show Calls Tryz.prog 229 #[.func (.func nV) #[] capsV,.pointer (some ⟨bi,0,none⟩),.pointer (some ⟨bt,0,none⟩)] wr _
 go_enter Tryz.func229,Tryz.ntmps229
 go_wp2_with (first|refine wpList_load_arr rfl 77 _ rfl _ rfl _ BB.out _ Tryz.underlying77 rfl (by rw[hx];exact size4) ?_)
 refine CA.out.mono ?_
 rintro e w2 ⟨rfl,j2,f2⟩
 have F:=hide (And.intro j2 f2)
 clear CA j2 f2 ct BB
 go_wp2_with fail
 first|go_end0|refine bodyPost_ret (results_none rfl _ _ _) rfl ?_
 exact⟨rfl,F.out⟩
theorem enters_Few1 (args:Array Value)(u:World):(callFunc 227 args).run Tryz.prog u=.ok (.enter 227 args) u:=by kernel_rfl
def FwM (w wr:World)(x:List Int):Prop:=Mem2 w wr 77 77 (zeros 4) x
theorem FwM.put {w wr:World}{x x':List Int}(h:FwM w wr x)(hl:x'.length=x.length):FwM w (putArr wr (w.heap.size+1) x') x':=by
 have PU:=put_arr (rs':=x') h.2.1 hl
 exact⟨h.1.keepBut PU.2 (by omega),PU.1,grown_own h.2.2 PU.2 (by omega)⟩
set_option maxRecDepth 100000 in
theorem pulFew1_finds (w0:World)(vd:Value)(d r:List Int)(bd:Nat)(hd:Ints w0 vd d)(hdl:d.length=40)(hc:w0.cell? ⟨bd,0,none⟩=some vd):Finds w0 227 #[.pointer (some ⟨bd,0,none⟩)] r (fewX d r):=by
 intro wE B g hB
 have hmf:∀(fn:Fn) (first cap:Array Value) (w:World),(Instr.makeFunc fn first cap).run Tryz.prog w=.ok (.func fn first cap) w:=fun _ _ _ _=>rfl
 have hz4:=zero_arr zArr4
 have M0:=hide (show FwM wE ((wE.alloc (.cells (arrI (zeros 4)) 77)).alloc (.cells (arrI (zeros 4)) 77)) (zeros 4)from laid2 wE 77 77 (zeros 4) (zeros 4))
 have BE:=hide (fun W (gW:wE.grownBy W none) (x:List Int) (hx:x.length=4) (gx:goodX x=true) (t:Nat) (ht:t<4) (bi bt:Nat) (hb1:Blk W bi 77 x) (hc':W.cell? ⟨bt,0,none⟩=some (.int .i64 (t:Int)))=>
  pulBest_any vd B d r (fun p=>x.set t (p:Int)) 10 W (Ints_keep hd (grown_none g gW)) hdl (hB.keep gW) (fun m hm=>⟨by simpa using hx,goodX_set gx _ _ (by omega) (by omega)⟩) 229 #[.pointer (some ⟨bi,0,none⟩),.pointer (some ⟨bt,0,none⟩)] enters_Few11 (pulFew11_walks W x hx t ht bi bt hb1 hc'))
 have CD:=hide (fun W (gW:wE.grownBy W none)=>grown_keep (grown_none g gW) hc)
 have GD:=hide (fewN_good (cS d) (eS d r))
 have STEP:=hide (fun k=>(show fewN (cS d) (eS d r) (k+1)=(bsS (cS d) (eS d r) (fun p=>(fewN (cS d) (eS d r) k).set (k % 4) (p:Int)) 10).1 from rfl))
 obtain⟨ad,cp,rfl,_,_⟩:=hd
 rw[show fewX d r=fewN (cS d) (eS d r) 8 from rfl]
 clear hB g hc hdl
 go_enter Tryz.func227,Tryz.ntmps227
 go_wp2_with fail
 generalize (wE.alloc _).alloc _=W0 at *
 clear hz4
 go_loopw [6,8] (fun i _ W=>∃n:Nat,i=.int .i64 n∧n≤2∧Hid (FwM wE W (fewN (cS d) (eS d r) (4*n)))) (fun i _ _=>2-(intOf i).toNat)
 case atStart=>exact⟨0,rfl,Nat.zero_le _,M0.out⟩
 case round=>
  obtain⟨n,rfl,hn,hM⟩:=hrel
  clear M0
  by_cases hn2:n<2
  ·have i1:(n:Int)<2:=by omega
   go_wp2_with fail
   go_loopw [8] (fun i W=>∃t:Nat,i=.int .i64 t∧t≤4∧Hid (FwM wE W (fewN (cS d) (eS d r) (4*n+t)))) (fun i _=>4-(intOf i).toNat)
   case atStart=>exact⟨0,rfl,Nat.zero_le _,hM.out⟩
   case round=>
    obtain⟨t,rfl,ht,hM⟩:=hrel
    by_cases ht4:t<4
    ·have i2:(t:Int)<4:=by omega
     have ga:=grown_alloc wr (.cells #[.int .i64 (t:Int)] 3) none
     have M1:=hide (show FwM wE (wr.alloc (.cells #[.int .i64 (t:Int)] 3)) (fewN (cS d) (eS d r) (4*n+t))from Mem2.keep hM.out ga)
     have ct:=(cell_of_heap (heap_new wr (.cells #[.int .i64 (t:Int)] 3)) 0).trans (show(#[Value.int .i64 (t:Int)]:Array Value)[0]?=some (.int .i64 (t:Int))from rfl)
     have BB:=hide (BE.out _ M1.out.2.2 _ (GD.out (4*n+t)).1 (GD.out (4*n+t)).2 t ht4 (wE.heap.size+1) wr.heap.size M1.out.2.1 ct)
     have cd:=CD.out _ M1.out.2.2
     have EN:=STEP.out (4*n+t)
     rw[show(4*n+t) % 4=t by omega]at EN
     rw[←EN]at BB
     have L1:=hide (GD.out (4*n+t)).1
     have L2:=hide (GD.out (4*n+t+1)).1
     clear EN ct hM BE CD GD STEP ga
     generalize fewN (cS d) (eS d r) (4*n+t)=X at *
     generalize hY:fewN (cS d) (eS d r) (4*n+t+1)=Y at *
     have EY:=hide hY
     clear hY
     go_upto_region 7 with fail
     generalize wr.alloc (.cells #[.int .i64 (t:Int)] 3)=W1 at *
     go_wp2_with fail
     refine BB.out.mono ?_
     rintro e w2 ⟨rfl,g2⟩
     have M2:=hide (show FwM wE w2 X from Mem2.keep M1.out g2)
     have BI:=hide M2.out.2.1
     have M3:=hide (M2.out.put (x':=Y) (by rw[L1.out,L2.out]))
     clear g2 M1 M2 BB cd
     go_upto_region 8 with(first|refine wpList_store_arr rfl 77 _ _ rfl _ X Y rfl rfl BI.out (by rw[L1.out,L2.out]) (by rw[L1.out];exact size4) ?_)
     (try simp only[Act.put])
     clear BI
     generalize putArr w2 _ Y=W3 at *
     go_wp2_with fail
     go_roundw
     case rel=>exact⟨t+1,by go_num,by omega,by rw[show 4*n+(t+1)=4*n+t+1 from rfl,EY.out];exact M3.out⟩
     case measure=>simp[intOf];omega
    ·obtain rfl:t=4:=by omega
     have NM:=hM
     rw[show 4*n+4=4*(n+1) by omega]at NM
     clear hM
     rw[show((4:Nat):Int)=4 from rfl]
     go_wp2_with fail
     go_roundw
     case rel=>exact⟨n+1,by go_num,by omega,NM.out⟩
     case measure=>simp[intOf];omega
  ·obtain rfl:n=2:=by omega
   have BA:=hide hM.out.2.1
   have BZ:=hide hM.out.1
   have GG:=hide hM.out.2.2
   have HX:=hide (GD.out (4*2)).1
   clear hM BE CD GD STEP hmf
   rw[show 4*2=8 from rfl]at *
   generalize fewN (cS d) (eS d r) 8=X at *
   rw[show((2:Nat):Int)=2 from rfl]
   go_wp2_with (first|refine wpList_load_arr rfl 77 _ rfl _ rfl _ BA.out _ Tryz.underlying77 rfl (by rw[HX.out];exact size4) ?_|refine wpList_store_arr rfl 77 _ _ rfl _ (zeros 4) X rfl rfl BZ.out (by rw[HX.out,zeros_len]) (by rw[zeros_len];exact size4) ?_)
   have PU:=put_arr (rs':=X) BZ.out (by rw[HX.out,zeros_len])
   have hlv:=loadVar_arr PU.1 _ Tryz.underlying77 rfl (by rw[HX.out];exact size4)
   have GF:=hide (grown_own GG.out PU.2 (Nat.le_refl _))
   refine bodyPost_ret (v:=.agg (arrI X)) ?_ rfl ⟨rfl,GF.out⟩
   simp[results,Tryz.results227,asAddr,Act.put,hlv]
end Go.Proofs.YtdejpongekicdaaGreatDoor

/- PulG -/
namespace Go.Proofs.YtdejpongekicdaaGreatDoor
open Go.RowKit
set_option linter.unusedVariables false
set_option linter.unusedSimpArgs false
set_option maxHeartbeats 1000000
def SrchE (w:World)(X:List Int)(g en:Int)(e:Ending)(w':World):Prop:=e=.returned (.tuple #[.agg (arrI X),.int .i64 g,.int .i64 en])∧w.grownBy w' none
theorem seE_size {d r:List Int}(h:¬(d.length=40∧r.length=40))(X:List Int):seE d r=1∧seX d r X=zeros 4∧seG d r X=0:=by
 have e:seE d r=1:=if_neg h
 refine⟨e,?_,?_⟩
 ·unfold seX;rw[e];rfl
 ·unfold seG;rw[e];rfl
theorem seE_no {d r:List Int}(h:d.length=40∧r.length=40)(ho:ok40 d=false)(X:List Int):seE d r=2∧seX d r X=zeros 4∧seG d r X=0:=by
 have e:seE d r=2:=by unfold seE;rw[if_pos h,ho];rfl
 refine⟨e,?_,?_⟩
 ·unfold seX;rw[e];rfl
 ·unfold seG;rw[e];rfl
theorem seE_yes {d r:List Int}(h:d.length=40∧r.length=40)(ho:ok40 d=true)(X:List Int):seE d r=0∧seX d r X=X∧seG d r X=sgS d X 4:=by
 have e:seE d r=0:=by unfold seE;rw[if_pos h,ho];rfl
 refine⟨e,?_,?_⟩
 ·unfold seX;rw[e];rfl
 ·unfold seG;rw[e];rfl
theorem sgS_part (d x:List Int)(m:Nat):sgS d x (m+1)=sgS d x m+sgB d x m:=rfl
theorem sgS_small (d x:List Int):∀m:Nat,0≤sgS d x m∧sgS d x m<2^m
 | 0=>by show(0:Int)≤0∧(0:Int)<1;omega
 | m+1=>by
  have h1:=sgS_small d x m
  have h2:=sgB_bd d x m
  rw[sgS_part,Int.pow_succ]
  omega
theorem or_powF:∀m:Fin 4,∀s:Fin 8,s.val<2^m.val→bits BinOp.or IntKind.i64 (s.val:Int) (wrap64 ((2:Int)^m.val))=(s.val:Int)+2^m.val:=by decide +kernel
theorem or_pow (m:Nat)(hm:m<4)(s:Int)(h0:0≤s)(h1:s<2^m):bits BinOp.or IntKind.i64 s (wrap64 ((2:Int)^m))=s+2^m:=by
 have hp:(2:Nat)^m≤2^3:=Nat.pow_le_pow_right (by omega) (by omega)
 have e:((2^m:Nat):Int)=(2:Int)^m:=by simp
 have h2:s.toNat<2^m:=by omega
 have:=or_powF ⟨m,hm⟩ ⟨s.toNat,by omega⟩ h2
 simp only at this
 rw[show((s.toNat:Nat):Int)=s by omega]at this
 exact this
set_option maxRecDepth 100000 in
theorem pulSearch_size (vd vr:Value)(d r:List Int)(w:World)(hd:Ints w vd d)(hr:Ints w vr r)(fv:Value)(h:¬(d.length=40∧r.length=40))(hl:d.length≤1000000000000000000)(hl2:r.length≤1000000000000000000) :
  Calls Tryz.prog 226 #[vd,vr,fv] w (SrchE w (zeros 4) 0 1):=by
 have hz4:=zero_arr zArr4
 have hbd:=build4
 have BZ:=hide (Blk.new w 77 (zeros 4))
 have GG:=hide (grown_alloc w (.cells (arrI (zeros 4)) 77) none)
 obtain⟨ad,cp,rfl,_,_⟩:=hd
 obtain⟨ar,cr,rfl,_,_⟩:=hr
 generalize d.length=nd at *
 generalize r.length=nr at *
 by_cases h1:nd=40
 ·have h2:¬nr=40:=fun e=>h ⟨h1,e⟩
  have b2:((nr:Int) != 40)=true:=by simp;omega
  subst h1
  clear h h2
  go_enter Tryz.func226,Tryz.ntmps226
  go_upto_region 1 with fail
  generalize w.alloc (.cells (arrI (zeros 4)) 77)=W1 at *
  go_wp2_with (first|refine wpList_store_arr rfl 77 _ _ rfl _ (zeros 4) (zeros 4) rfl rfl BZ.out rfl (by rw[zeros_len];exact size4) ?_)
  have PU:=put_arr (rs':=zeros 4) BZ.out rfl
  have hlv:=loadVar_arr PU.1 _ Tryz.underlying77 rfl (by rw[zeros_len];exact size4)
  have GF:=hide (grown_own GG.out PU.2 (Nat.le_refl _))
  refine bodyPost_ret (v:=.tuple #[.agg (arrI (zeros 4)),.int .i64 0,.int .i64 1]) ?_ rfl ⟨rfl,GF.out⟩
  simp[results,Tryz.results226,asAddr,Act.put,hlv]
 ·have b1:((nd:Int) != 40)=true:=by simp;omega
  clear h h1
  go_enter Tryz.func226,Tryz.ntmps226
  go_upto_region 1 with fail
  generalize w.alloc (.cells (arrI (zeros 4)) 77)=W1 at *
  go_wp2_with (first|refine wpList_store_arr rfl 77 _ _ rfl _ (zeros 4) (zeros 4) rfl rfl BZ.out rfl (by rw[zeros_len];exact size4) ?_)
  have PU:=put_arr (rs':=zeros 4) BZ.out rfl
  have hlv:=loadVar_arr PU.1 _ Tryz.underlying77 rfl (by rw[zeros_len];exact size4)
  have GF:=hide (grown_own GG.out PU.2 (Nat.le_refl _))
  refine bodyPost_ret (v:=.tuple #[.agg (arrI (zeros 4)),.int .i64 0,.int .i64 1]) ?_ rfl ⟨rfl,GF.out⟩
  simp[results,Tryz.results226,asAddr,Act.put,hlv]
set_option maxRecDepth 100000 in
theorem pulSearch_right (vd vr:Value)(d r:List Int)(w:World)(hd:Ints w vd d)(hr:Ints w vr r)(nF:Nat)(capsF:Array Value)(hen:∀args u,(callFunc nF args).run Tryz.prog u=.ok (.enter nF args) u)(X:List Int)(hX:X.length=4)(gX:goodX X=true)(HF:ok40 d=true→Finds w nF capsF r X)(h1:d.length=40)(h2:r.length=40) :
  Calls Tryz.prog 226 #[vd,vr,.func (.func nF) #[] capsF] w (SrchE w (seX d r X) (seG d r X) (seE d r)):=by
 have hz4:=zero_arr zArr4
 have hbd:=build4
 have BZ:=hide (Blk.new w 77 (zeros 4))
 have GG:=hide (grown_alloc w (.cells (arrI (zeros 4)) 77) none)
 have NO:=hide (fun i (hi:i<40) (hb:¬(-1099511627776≤nth d i∧nth d i≤1099511627776))=>seE_no ⟨h1,h2⟩ (by
  rcases ho:ok40 d with _|_
  ·rfl
  ·exact absurd ((ok40_iff d).1 ho i (by omega)) hb) X)
 have YES:=hide (fun(hh:∀i,i<40→-1099511627776≤nth d i∧nth d i≤1099511627776)=>(show ok40 d=true from(ok40_iff d).2 (fun i hi=>hh i (by omega))))
 have SY:=hide (fun ho=>seE_yes ⟨h1,h2⟩ ho X)
 have DV:=hide (fun wr (g:w.grownBy wr none)=>Ints_keep hd g)
 have EN:=hide (fun wr (g:w.grownBy wr none)=>pulEnergies_any vr r wr (Ints_keep hr g) h2)
 have HFF:=hide HF
 have HGX:=hide gX
 have HX:=hide hX
 obtain⟨ad,cp,rfl,_,_⟩:=hd
 obtain⟨ar,cr,rfl,_,_⟩:=hr
 have HDL:=hide h1
 rw[h2]at EN
 rw[h1,h2]
 clear h1 h2 HF gX hX
 have FNO:=hide (fun i (hi:i<40) (hb:¬(-1099511627776≤nth d i∧nth d i≤1099511627776)) w' (g:w.grownBy w' none)=>(show SrchE w (seX d r X) (seG d r X) (seE d r) (.returned (.tuple #[.agg (arrI (zeros 4)),.int .i64 0,.int .i64 2])) w' from by
  obtain⟨e1,e2,e3⟩:=NO.out i hi hb
  rw[e1,e2,e3]
  exact⟨rfl,g⟩))
 have FYES:=hide (fun(ho:ok40 d=true) w' (g:w.grownBy w' none)=>(show SrchE w (seX d r X) (seG d r X) (seE d r) (.returned (.tuple #[.agg (arrI X),.int .i64 (sgS d X 4),.int .i64 0])) w' from by
  obtain⟨e1,e2,e3⟩:=SY.out ho
  rw[e1,e2,e3]
  exact⟨rfl,g⟩))
 clear NO SY
 generalize SrchE w (seX d r X) (seG d r X) (seE d r)=T at *
 go_enter Tryz.func226,Tryz.ntmps226
 go_upto_region 1 with fail
 generalize w.alloc (.cells (arrI (zeros 4)) 77)=W1 at *
 go_wp2_with fail
 go_loop [26] (fun i=>∃k:Nat,i=.int .i64 k∧k≤40∧Hid (∀i,i<k→-1099511627776≤nth d i∧nth d i≤1099511627776)) (fun i=>40-(intOf i).toNat)
 case atStart=>exact⟨0,rfl,Nat.zero_le _,fun i hi=>by omega⟩
 case round=>
  obtain⟨k,rfl,hk,hG⟩:=hrel
  by_cases hkl:k<40
  ·obtain⟨ad',c',e',h1,h2⟩:=DV.out W1 GG.out
   simp only[Value.slice.injEq]at e'
   obtain⟨rfl,e2,rfl⟩:=e'
   obtain⟨a,rfl,h3⟩:=h2 (by rw[HDL.out];omega)
   have hck:=h3 k (by rw[HDL.out];omega)
   have NK:=hide (FNO.out k hkl)
   have GK:=hide (fun(hh:-1099511627776≤nth d k∧nth d k≤1099511627776)=>(show ∀i,i<k+1→-1099511627776≤nth d i∧nth d i≤1099511627776 from fun i hi=>by
    rcases Nat.lt_or_ge i k with g|g
    ·exact hG.out i g
    ·obtain rfl:i=k:=by omega
     exact hh))
   clear e2 h1 h2 h3 FNO FYES YES hG HFF EN DV
   generalize nth d k=z at *
   have kl1:(k:Int)<40:=by omega
   have ST:=hide (pulWithin_any z (-1099511627776) 1099511627776 W1)
   by_cases hz:-1099511627776≤z∧z≤1099511627776
   ·have F:=hide (GK.out hz)
    rw[decide_eq_true hz]at ST
    clear NK GK hz
    go_wp2_with fail
    refine ST.out.mono ?_
    rintro e w1 ⟨rfl,rfl⟩
    clear ST
    go_wp2_with fail
    go_round
    case rel=>exact⟨k+1,by go_num,by omega,F.out⟩
    case measure=>simp[intOf];omega
   ·rw[decide_eq_false hz]at ST
    have PU:=put_arr (rs':=zeros 4) BZ.out rfl
    have F:=hide (NK.out hz _ (grown_own GG.out PU.2 (Nat.le_refl _)))
    clear NK GK hz
    go_wp2_with fail
    refine ST.out.mono ?_
    rintro e w1 ⟨rfl,rfl⟩
    clear ST
    have hlv:=hide (loadVar_arr PU.1 _ Tryz.underlying77 rfl (by rw[zeros_len];exact size4))
    clear PU
    go_wp2_with (first|refine wpList_store_arr rfl 77 _ _ rfl _ (zeros 4) (zeros 4) rfl rfl BZ.out rfl (by rw[zeros_len];exact size4) ?_)
    (try simp only[Exit.inBlock,Exit.then])
    refine bodyPost_ret (v:=.tuple #[.agg (arrI (zeros 4)),.int .i64 0,.int .i64 2]) ?_ rfl F.out
    simp[results,Tryz.results226,asAddr,Act.put,hlv.out]
  ·obtain rfl:k=40:=by omega
   have ho:=YES.out hG.out
   have HFN:=hide (HFF.out ho)
   have FY:=hide (FYES.out ho)
   clear YES FYES HFF FNO hG ho
   have E1:=hide (EN.out W1 GG.out)
   clear EN
   rw[show((40:Nat):Int)=40 from rfl]
   go_wp2_with fail
   refine E1.out.mono ?_
   rintro e w2 ⟨B,rfl,b2,_,g2⟩
   have FN:=hide (HFN.out w2 B (grown_none GG.out g2) b2)
   have GG2:=hide (grown_none GG.out g2)
   have BZ2:=hide (BZ.out.keep g2)
   clear E1 HFN b2 g2 GG BZ
   go_wp2_with fail
   refine FN.out.mono ?_
   rintro e w3 ⟨rfl,g3⟩
   have FA:=fresh_arr w3 77 4 X HX.out
   have BF:=hide FA.1
   have BX:=hide FA.2.1
   have BZ3:=hide ((BZ2.out.keep g3).keep FA.2.2)
   have GG3:=hide (grown_none (grown_none GG2.out g3) FA.2.2)
   clear FN g3 FA BZ2 GG2
   go_upto_region 11 with(first|refine wpList_store_arr rfl 77 _ _ rfl _ (zeros 4) X rfl rfl BF.out (by rw[HX.out,zeros_len]) (by rw[zeros_len];exact size4) ?_)
   (try simp only[Act.put])
   clear BF hz4 hbd
   generalize putArr (w3.alloc _) w3.heap.size X=W4 at *
   generalize w3.heap.size=bX at *
   go_wp2_with (first|refine wpList_load_arr rfl 77 _ rfl _ rfl _ BX.out _ Tryz.underlying77 rfl (by rw[HX.out];exact size4) ?_)
   go_loop [12,40] (fun s i=>∃m:Nat,i=.int .i64 m∧m≤4∧s=.int .i64 (sgS d X m)) (fun _ i=>4-(intOf i).toNat)
   case atStart=>exact⟨0,rfl,Nat.zero_le _,rfl⟩
   case round=>
    obtain⟨m,rfl,hm,rfl⟩:=hrel
    by_cases hm4:m<4
    ·have hix:=index_arr X Tryz.underlying77 m (by rw[HX.out];omega) HX.out
     have hPL:=psN_lt HGX.out HX.out m hm4
     obtain⟨g1,g2⟩:=(goodX_iff X).1 HGX.out m (by rw[HX.out];omega)
     have AT:=hide (pulAt_any (m:Int) (nth X m) (by omega) (by omega) g1 g2 W4)
     rw[show(m:Int)+4*nth X m=((psN X m:Nat):Int) by unfold psN;omega]at AT
     obtain⟨ad',c',e',h1,h2⟩:=DV.out W4 GG3.out
     simp only[Value.slice.injEq]at e'
     obtain⟨rfl,e2,rfl⟩:=e'
     obtain⟨a,rfl,h3⟩:=h2 (by rw[HDL.out];omega)
     have cz:=h3 (psN X m) (by rw[HDL.out];omega)
     have EB:=hide (show sgS d X (m+1)=sgS d X m+(if nth d (psN X m)<0 then 0 else 2^m)from rfl)
     obtain⟨s1,s2⟩:=sgS_small d X m
     have SI:=hide (pulSign_any (nth d (psN X m)) W4)
     have i1:(m:Int)<4:=by omega
     have i2:((psN X m:Nat):Int)<40:=by omega
     clear e2 h1 h2 h3 DV FY BZ3 GG3 BX
     generalize nth d (psN X m)=z at *
     generalize psN X m=P at *
     generalize nth X m=pl at *
     generalize hs':sgS d X (m+1)=s' at *
     have HS':=hide hs'
     clear hs'
     generalize sgS d X m=s at *
     go_wp2_with fail
     refine AT.out.mono ?_
     rintro e wy ⟨rfl,rfl⟩
     clear AT
     go_wp2_with fail
     refine SI.out.mono ?_
     rintro e wz ⟨rfl,rfl⟩
     clear SI
     rcases sg_cases z with⟨hz,es⟩|⟨hz,es⟩
     ·rw[es]
      have ES:=hide (show s'=s by rw[EB.out,if_pos hz];omega)
      clear EB es
      go_wp2_with fail
      go_round
      case rel=>exact⟨m+1,by go_num,by omega,by rw[HS'.out,ES.out]⟩
      case measure=>simp[intOf];omega
     ·rw[es]
      have ES:=hide (show s'=s+2^m by rw[EB.out,if_neg (by omega)])
      clear EB es
      have OP:=hide (or_pow m hm4 s s1 s2)
      go_wp2_with fail
      go_round
      case rel=>exact⟨m+1,by go_num,by omega,by rw[HS'.out,ES.out,OP.out]⟩
      case measure=>simp[intOf];omega
    ·obtain rfl:m=4:=by omega
     have PU:=put_arr (rs':=X) BZ3.out (by rw[HX.out,zeros_len])
     have hlv:=hide (loadVar_arr PU.1 _ Tryz.underlying77 rfl (by rw[HX.out];exact size4))
     have F:=hide (FY.out _ (grown_own GG3.out PU.2 (Nat.le_refl _)))
     clear PU FY
     generalize sgS d X 4=s at *
     rw[show((4:Nat):Int)=4 from rfl]
     go_wp2_with (first|refine wpList_load_arr rfl 77 _ rfl _ rfl _ BX.out _ Tryz.underlying77 rfl (by rw[HX.out];exact size4) ?_|refine wpList_store_arr rfl 77 _ _ rfl _ (zeros 4) X rfl rfl BZ3.out (by rw[HX.out,zeros_len]) (by rw[zeros_len];exact size4) ?_)
     refine bodyPost_ret (v:=.tuple #[.agg (arrI X),.int .i64 s,.int .i64 0]) ?_ rfl F.out
     simp[results,Tryz.results226,asAddr,Act.put,hlv.out]
end Go.Proofs.YtdejpongekicdaaGreatDoor

/- PulH -/
namespace Go.Proofs.YtdejpongekicdaaGreatDoor
open Go.RowKit
set_option linter.unusedVariables false
set_option linter.unusedSimpArgs false
set_option maxHeartbeats 1000000
theorem seX_len (d r X:List Int)(h:X.length=4):(seX d r X).length=4:=by unfold seX;split;exact h;rfl
theorem fewX_good (d r:List Int):(fewX d r).length=4∧goodX (fewX d r)=true:=fewN_good (cS d) (eS d r) 8
theorem pulSearch_any (vd vr:Value)(d r:List Int)(w:World)(hd:Ints w vd d)(hr:Ints w vr r)(nF:Nat)(capsF:Array Value)(hen:∀args u,(callFunc nF args).run Tryz.prog u=.ok (.enter nF args) u)(X:List Int)(hX:X.length=4)(gX:goodX X=true)(HF:d.length=40→Finds w nF capsF r X)(hl:d.length≤1000000000000000000)(hl2:r.length≤1000000000000000000) :
  Calls Tryz.prog 226 #[vd,vr,.func (.func nF) #[] capsF] w (SrchE w (seX d r X) (seG d r X) (seE d r)):=by
 by_cases h:d.length=40∧r.length=40
 ·exact pulSearch_right vd vr d r w hd hr nF capsF hen X hX gX (fun _=>HF h.1) h.1 h.2
 ·obtain⟨e1,e2,e3⟩:=seE_size h X
  rw[e1,e2,e3]
  exact pulSearch_size vd vr d r w hd hr _ h hl hl2
set_option maxRecDepth 100000 in
theorem pulFew_any (vd vr:Value)(d r:List Int)(w:World)(hd:Ints w vd d)(hr:Ints w vr r)(hl:d.length≤1000000000000000000)(hl2:r.length≤1000000000000000000) :
  Calls Tryz.prog 157 #[vd,vr] w (SrchE w (seX d r (fewX d r)) (seG d r (fewX d r)) (seE d r)):=by
 have hmf:∀(fn:Fn) (first cap:Array Value) (w:World),(Instr.makeFunc fn first cap).run Tryz.prog w=.ok (.func fn first cap) w:=fun _ _ _ _=>rfl
 have hz4:=zero_arr zArr4
 have g1:=grown_alloc w (.cells #[vd] 26) none
 have h1:=heap_new w (.cells #[vd] 26)
 have g2:=grown_alloc (w.alloc (.cells #[vd] 26)) (.cells (arrI (zeros 4)) 77) none
 have b2:=Blk.new1 w (.cells #[vd] 26) 77 (zeros 4)
 have c1:=(cell_of_heap (heap_grown h1 g2 (by simp)) 0).trans (show(#[vd]:Array Value)[0]?=some vd from rfl)
 have gg:=grown_none g1 g2
 have SE:=hide (pulSearch_any vd vr d r _ (Ints_keep hd gg) (Ints_keep hr gg) 227 #[.pointer (some ⟨w.heap.size,0,none⟩)] enters_Few1 (fewX d r) (fewX_good d r).1 (fewX_good d r).2 (fun h=>pulFew1_finds _ vd d r w.heap.size (Ints_keep hd gg) h c1) hl hl2)
 have HX:=hide (seX_len d r (fewX d r) (fewX_good d r).1)
 have BZ:=hide b2
 have GG:=hide gg
 obtain⟨ad,cp,rfl,_,_⟩:=hd
 obtain⟨ar,cr,rfl,_,_⟩:=hr
 clear g1 g2 h1 b2 gg hl hl2
 generalize seX d r (fewX d r)=X at *
 generalize seG d r (fewX d r)=G at *
 generalize seE d r=en at *
 go_enter Tryz.func157,Tryz.ntmps157
 go_upto_region 1 with fail
 generalize (w.alloc _).alloc _=W1 at *
 clear hz4
 go_wp2_with fail
 refine SE.out.mono ?_
 rintro e w2 ⟨rfl,g2⟩
 have B2:=hide (BZ.out.keep g2)
 have G2:=hide (grown_none GG.out g2)
 clear g2 SE c1 BZ GG
 go_wp2_with (first|refine wpList_store_arr rfl 77 _ _ rfl _ (zeros 4) X rfl rfl B2.out (by rw[HX.out,zeros_len]) (by rw[zeros_len];exact size4) ?_)
 have PU:=put_arr (rs':=X) B2.out (by rw[HX.out,zeros_len])
 have hlv:=loadVar_arr PU.1 _ Tryz.underlying77 rfl (by rw[HX.out];exact size4)
 have GF:=hide (grown_own G2.out PU.2 (by omega))
 refine bodyPost_ret (v:=.tuple #[.agg (arrI X),.int .i64 G,.int .i64 en]) ?_ rfl ⟨rfl,GF.out⟩
 simp[results,Tryz.results157,asAddr,Act.put,hlv]
end Go.Proofs.YtdejpongekicdaaGreatDoor

/- PkpD -/
namespace Go.Proofs.YtdejpongekicdaaGreatDoor
open Go.RowKit
set_option linter.unusedVariables false
set_option linter.unusedSimpArgs false
set_option maxHeartbeats 1000000
theorem BlB.own {w:World}{b:Nat}{B:List Int}(h:BlB w b B)(base:Nat)(hb:base≤b)(hl:B.length=15):OwnB base w (.slice (some ⟨b,0,none⟩) 15 15) B:=
 ⟨by simp[hl],.inr ⟨b,15,arrB B,by rw[hl],hb,h,by omega,by unfold maxLen;omega,by simp[arrB,hl],by simp[arrB,hl];exact List.take_of_length_le (by simp[hl])⟩⟩
theorem pkPutter_any (ad:Addr)(n c:Nat)(w:World) :
  Calls Tryz.prog 71 #[.slice (some ad) n c] w fun e w'=>e=.returned (.func (.func 165) #[] #[.pointer (some ⟨w.heap.size,0,none⟩),.pointer (some ⟨w.heap.size+1,0,none⟩)])∧w'.cell? ⟨w.heap.size,0,none⟩=some (.slice (some ad) n c)∧w'.heap[w.heap.size+1]?=some (.cells #[.int .i64 0] 3 (0,0))∧w.grownBy w' none:=by
 have c0:=cell_of_heap (heap_new w (.cells #[.slice (some ad) n c] 32)) 0
 have GG:=hide (show w.grownBy ((w.alloc (.cells #[.slice (some ad) n c] 32)).alloc (.cells #[.int .i64 0] 3)) none from grown_none (grown_alloc _ _ none) (grown_alloc _ _ none))
 have c1:=grown_keep (grown_alloc (w.alloc (.cells #[.slice (some ad) n c] 32)) (.cells #[.int .i64 0] 3) none) c0
 have c2:=heap_new (w.alloc (.cells #[.slice (some ad) n c] 32)) (.cells #[.int .i64 0] 3)
 rw[show(w.alloc (.cells #[.slice (some ad) n c] 32)).heap.size=w.heap.size+1 by simp]at c2
 have C1:=hide c1
 have C2:=hide c2
 clear c0 c1 c2
 go_enter Tryz.func71,Tryz.ntmps71
 go_wp2_with fail
 go_ret
 exact⟨rfl,C1.out,C2.out,GG.out⟩
structure PkS (w:World) (l:List Int) (bb cb ca base g cap m:Nat) (N:Int) (B:List Int) (wr:World):Prop where
 pk:Blk wr w.heap.size 82 l
 fl:OwnF base wr (.slice (some ⟨g,0,none⟩) 25 cap) 25 (flF w.heap.size 25)
 pu:PutS cb ca bb m B wr
 ly:Lay m N B
 gr:w.grownBy wr none
 o1:w.heap.size<bb
 o2:bb<cb
 o3:cb<ca
 o4:ca<base
theorem PkS.keep {w:World}{l:List Int}{bb cb ca base g cap m:Nat}{N:Int}{B:List Int}{wr wr':World}(h:PkS w l bb cb ca base g cap m N B wr)(k:wr.grownBy wr' none):PkS w l bb cb ca base g cap m N B wr':=
 ⟨h.pk.keep k,h.fl.keep k,h.pu.keep k,h.ly,grown_none h.gr k,h.o1,h.o2,h.o3,h.o4⟩
theorem PkS.put {w:World}{l:List Int}{bb cb ca base g cap m m':Nat}{N N':Int}{B B':List Int}{wr wr':World}(h:PkS w l bb cb ca base g cap m N B wr)(t:Trp (fun i=>i=ca∨i=bb) wr wr')(p:PutS cb ca bb m' B' wr')(y:Lay m' N' B'):PkS w l bb cb ca base g cap m' N' B' wr':=by
 have q1:=h.o1
 have q2:=h.o2
 have q3:=h.o3
 have q4:=h.o4
 exact⟨h.pk.trp t (by omega),h.fl.trp t (fun g hg=>by omega),p,y,Trp.none h.gr t (fun i e=>by omega),q1,q2,q3,q4⟩
set_option maxRecDepth 100000 in
theorem pkPack_no (l:List Int)(hl:l.length=25)(h64:In64 l)(w:World)(hT:TabA w 3 widq 8)(hg:gudP l=false):Calls Tryz.prog 36 #[.agg (arrI l)] w (PkP w l):=by
 have P0:=hide (Blk.new w 82 l)
 have G0:=hide (grown_alloc w (.cells (arrI l) 82) none)
 have GD:=hide (pkGood_any l hl h64 (w.alloc (.cells (arrI l) 82)) (TabA_keep hT G0.out))
 rw[hg]at GD
 have HG:=hide hg
 have S25:=hide (show(Tryz.prog.info? 82).map (·.size)=some l.length by rw[hl];exact size25)
 obtain⟨T,hTT⟩:∃T:Ending→World→Prop,PkP w l=T:=⟨_,rfl⟩
 rw[hTT]
 have HTT:=hide hTT
 clear hTT hl h64 hT hg
 go_enter Tryz.func36,Tryz.ntmps36
 go_upto_region 1 with fail
 generalize w.alloc (.cells (arrI l) 82)=W0 at *
 go_wp2_with (refine wpList_load_arr rfl 82 _ rfl w.heap.size rfl l P0.out _ Tryz.underlying82 rfl S25.out ?_)
 refine GD.out.mono ?_
 rintro e W1 ⟨rfl,g1⟩
 have GR:=hide (grown_none G0.out g1)
 clear GD g1 P0
 go_wp2_with fail
 rw[←HTT.out]
 exact⟨.slice none 0 0,by rw[(pkR_no HG.out).2];rfl,by rw[(pkR_no HG.out).1];exact OwnB_nil _ _,GR.out⟩
set_option maxRecDepth 100000 in
theorem pkPack_yes (l:List Int)(hl:l.length=25)(h64:In64 l)(w:World)(hT:TabA w 3 widq 8)(hg:gudP l=true):Calls Tryz.prog 36 #[.agg (arrI l)] w (PkP w l):=by
 have P0:=hide (Blk.new w 82 l)
 have G0:=hide (grown_alloc w (.cells (arrI l) 82) none)
 have Z0:=hide (show(w.alloc (.cells (arrI l) 82)).heap.size=w.heap.size+1 by simp)
 have GD:=hide (pkGood_any l hl h64 (w.alloc (.cells (arrI l) 82)) (TabA_keep hT G0.out))
 rw[hg]at GD
 have HG:=hide hg
 have HL:=hide hl
 have H64:=hide h64
 have HT:=hide hT
 have S25:=hide (show(Tryz.prog.info? 82).map (·.size)=some l.length by rw[hl];exact size25)
 have hmk:=make_byt 15 (by omega) (by omega)
 rw[show(15:Int).toNat=15 from rfl,show List.replicate 15 (0:Int)=zeros 15 from rfl]at hmk
 obtain⟨T,hTT⟩:∃T:Ending→World→Prop,PkP w l=T:=⟨_,rfl⟩
 rw[hTT]
 have HTT:=hide hTT
 clear hTT hl h64 hT hg
 go_enter Tryz.func36,Tryz.ntmps36
 go_upto_region 1 with fail
 generalize w.alloc (.cells (arrI l) 82)=W0 at *
 go_wp2_with (refine wpList_load_arr rfl 82 _ rfl w.heap.size rfl l P0.out _ Tryz.underlying82 rfl S25.out ?_)
 refine GD.out.mono ?_
 rintro e W1 ⟨rfl,g1⟩
 have GR:=hide (grown_none G0.out g1)
 have P1:=hide (P0.out.keep g1)
 have Z1:=hide (show w.heap.size<W1.heap.size by have:=g1.size;have:=Z0.out;omega)
 clear GD g1 P0 G0 Z0
 go_upto_region 4 with fail
 clear hmk
 have B2:=hide (show BlB (W1.alloc (.cells (arrB (zeros 15)) 5)) W1.heap.size (zeros 15)from heap_new _ _)
 have G2:=hide (grown_alloc W1 (.cells (arrB (zeros 15)) 5) none)
 have Z2:=hide (show(W1.alloc (.cells (arrB (zeros 15)) 5)).heap.size=W1.heap.size+1 by simp)
 generalize W1.alloc (.cells (arrB (zeros 15)) 5)=W2 at *
 go_wp2_with fail
 refine(pkPutter_any _ 15 15 W2).mono ?_
 rintro e W3 ⟨rfl,c1,c2,g3⟩
 have PU:=hide (show PutS W2.heap.size (W2.heap.size+1) W1.heap.size 0 (zeros 15) W3 from⟨c1,c2,B2.out.keep g3,by have:=Z2.out;omega,by have:=Z2.out;omega,by omega⟩)
 have GR3:=hide (grown_none GR.out (grown_none G2.out g3))
 have P3:=hide (P1.out.keep (grown_none G2.out g3))
 have Z3:=hide (lt_of_some c2)
 clear c1 c2 g3 P1 GR G2 B2
 go_wp2_with fail
 refine(pkFields_any w.heap.size W3 (TabA_keep HT.out GR3.out)).mono ?_
 rintro e W4 ⟨v,rfl,o4,g4⟩
 obtain⟨g,cap,rfl,_,_⟩:=o4.form (by omega)
 have M0:=hide (show PkS w l W1.heap.size W2.heap.size (W2.heap.size+1) W3.heap.size g cap (sW 0) (nF l 0) (zeros 15) W4 from⟨P3.out.keep g4,o4,PU.out.keep g4,Lay_zero,grown_none GR3.out g4,Z1.out,by have:=Z2.out;omega,by omega,Z3.out⟩)
 clear P3 PU GR3 Z1 Z2 Z3 o4 g4 HT
 generalize W3.heap.size=base at *
 generalize W2.heap.size=cb at *
 generalize W1.heap.size=bb at *
 go_wp2_with fail
 generalize hca:cb+1=ca at *
 clear hca
 go_loopw [16] (fun i wr=>∃(m:Nat) (B:List Int),i=.int .i64 (m:Int)∧m≤25∧Hid (PkS w l bb cb ca base g cap (sW m) (nF l m) B wr)) (fun i _=>25-(intOf i).toNat)
 case atStart=>exact⟨0,zeros 15,rfl,Nat.zero_le _,M0.out⟩
 case round=>
  obtain⟨m,B,rfl,hm,hM⟩:=hrel
  clear M0
  by_cases hm25:m<25
  ·have i1:(m:Int)<25:=by omega
   obtain⟨c0,c1,c2⟩:=hM.out.fl.fld m hm25
   have cx:=hM.out.pk.cell m (by rw[HL.out];exact hm25)
   have F0:=hide (heap_new wr (.cells #[.pointer (some ⟨w.heap.size,m,none⟩),.int .i64 (wdN m:Int),.int .i64 (moN m)] 124))
   have GA:=hide (grown_alloc wr (.cells #[.pointer (some ⟨w.heap.size,m,none⟩),.int .i64 (wdN m:Int),.int .i64 (moN m)] 124) none)
   have cx2:=grown_keep GA.out cx
   have FB:=hide (show ca<wr.heap.size∧bb<wr.heap.size∧w.heap.size<bb∧bb<ca from⟨lt_of_some hM.out.pu.at',lt_of_some hM.out.pu.byt,hM.out.o1,Nat.lt_trans hM.out.o2 hM.out.o3⟩)
   have M1:=hide (hM.out.keep (grown_drew GA.out))
   obtain⟨x0,x1⟩:=(gudP_iff l).1 HG.out m hm25
   obtain⟨_,x2,x3⟩:=moN_lt m hm25
   have PC:=hide (fun u (h:PkS w l bb cb ca base g cap (sW m) (nF l m) B u)=>pkPut_any cb ca bb (sW m) (wdN m) (nF l m) (nth l m) B u (by have:=wdN_le m hm25;omega) (by have:=sW_le (m+1) (by omega);rw[sW_next]at this;omega) x0 (by omega) (by omega) h.pu h.ly)
   clear hM x1 x2 x3
   go_upto_region 8 with fail
   generalize wr.alloc (.cells #[.pointer (some ⟨w.heap.size,m,none⟩),.int .i64 (wdN m:Int),.int .i64 (moN m)] 124)=W2' at *
   have f0:W2'.cell? ⟨wr.heap.size,0,none⟩=some (.pointer (some ⟨w.heap.size,m,none⟩)):=cell_of_heap F0.out 0
   have f1:W2'.cell? ⟨wr.heap.size,1,none⟩=some (.int .i64 (wdN m:Int)):=cell_of_heap F0.out 1
   clear c0 c1 c2 cx F0 GA
   generalize wr.heap.size=fb at *
   refine wp_region_held_drew (S:=fun u=>u.cell? ⟨fb,0,none⟩=some (.pointer (some ⟨w.heap.size,m,none⟩))∧u.cell? ⟨fb,1,none⟩=some (.int .i64 (wdN m:Int))∧u.cell? ⟨w.heap.size,m,none⟩=some (.int .i64 (nth l m))) (by kernel_rfl) ⟨f0,f1,cx2⟩ (fun hHeld=>?_)
   clear f0 f1 cx2
   generalize W2'.drew=W3' at *
   refine wpAnyH_take (i:=0) (v:=?vpp0) rfl (by kernel_rfl) (by kernel_rfl) (by kernel_rfl) (fun _ _ _ h=>h) (Or.inl ⟨by rfl,?ypp0⟩) hHeld ?rpp0
   case ypp0=>(intro w' hSw;go_simp;(try with_reducible rfl))
   (try simp only[Act.put,sL])
   refine wpAnyH_take (i:=1) (v:=?vpp1) rfl (by kernel_rfl) (by kernel_rfl) (by kernel_rfl) (fun _ _ _ h=>h) (Or.inl ⟨by rfl,?ypp1⟩) hHeld ?rpp1
   case ypp1=>(intro w' hSw;go_simp;(try with_reducible rfl))
   (try simp only[Act.put,sL])
   refine wpAnyH_take (i:=2) (v:=.pointer (some ⟨w.heap.size,m,none⟩)) rfl (by kernel_rfl) (by kernel_rfl) (by kernel_rfl) (fun _ _ _ h=>h) (Or.inl ⟨by rfl,?ypp2⟩) hHeld ?rpp2
   case ypp2=>(intro w' hSw;obtain⟨q0,q1,q2⟩:=hSw;go_simp;(try with_reducible rfl))
   (try simp only[Act.put,sL])
   refine wpAnyH_take (i:=3) (v:=?vpp3) rfl (by kernel_rfl) (by kernel_rfl) (by kernel_rfl) (fun _ _ _ h=>h) (Or.inl ⟨by rfl,?ypp3⟩) hHeld ?rpp3
   case ypp3=>(intro w' hSw;go_simp;(try with_reducible rfl))
   (try simp only[Act.put,sL])
   refine wpAnyH_take (i:=4) (v:=.int .i64 (nth l m)) rfl (by kernel_rfl) (by kernel_rfl) (by kernel_rfl) (fun _ _ _ h=>h) (Or.inl ⟨by rfl,?ypp4⟩) hHeld ?rpp4
   case ypp4=>(intro w' hSw;obtain⟨q0,q1,q2⟩:=hSw;go_simp;(try with_reducible rfl))
   (try simp only[Act.put,sL])
   refine wpAnyH_take (i:=5) (v:=?vpp5) rfl (by kernel_rfl) (by kernel_rfl) (by kernel_rfl) (fun _ _ _ h=>h) (Or.inl ⟨by rfl,?ypp5⟩) hHeld ?rpp5
   case ypp5=>(intro w' hSw;go_simp;(try with_reducible rfl))
   (try simp only[Act.put,sL])
   refine wpAnyH_take (i:=6) (v:=.int .i64 (wdN m:Int)) rfl (by kernel_rfl) (by kernel_rfl) (by kernel_rfl) (fun _ _ _ h=>h) (Or.inl ⟨by rfl,?ypp6⟩) hHeld ?rpp6
   case ypp6=>(intro w' hSw;obtain⟨q0,q1,q2⟩:=hSw;go_simp;(try with_reducible rfl))
   (try simp only[Act.put,sL])
   refine wpAnyH_ready (rs:=[7]) (by kernel_rfl) (by simp) (AllReadyH.cons rfl (fun K hK=>?_) AllReadyH.nil)
   (try simp only[Act.put,sL])
   go_simp
   refine(PC.out W3' M1.out).mono ?_
   rintro e W6 ⟨rfl,B',y',p',t'⟩
   go_wp2_with fail
   refine hK.out _ _ ⟨trp_cell t' hHeld.1 (by have:=FB.out;rintro(e|e)<;>omega),trp_cell t' hHeld.2.1 (by have:=FB.out;rintro(e|e)<;>omega),trp_cell t' hHeld.2.2 (by have:=FB.out;rintro(e|e)<;>omega)⟩ (fun hHeld=>?_)
   clear hK
   (try simp only[Act.put,sL])
   refine wpAnyH_done (by kernel_rfl) ?_ _
   have M2:=hide (show PkS w l bb cb ca base g cap (sW (m+1)) (nF l (m+1)) B' W6 from M1.out.put t' p' y')
   clear M1 t' p' y' PC hHeld FB
   go_wp2_with fail
   go_roundw
   case rel=>exact⟨m+1,B',by go_num,by omega,M2.out⟩
   case measure=>first|(simp[intOf];done)|(simp[intOf];omega)
  ·obtain rfl:m=25:=by omega
   rw[show((25:Nat):Int)=25 from rfl]
   rw[sW25]at hM
   go_wp2_with (refine wpList_load_arr rfl 82 _ rfl w.heap.size rfl l hM.out.pk _ Tryz.underlying82 rfl S25.out ?_)
   refine(pkParity_any l HL.out H64.out wr).mono ?_
   rintro e W5 ⟨rfl,g5⟩
   have M1:=hide (hM.out.keep g5)
   obtain⟨p0,p1⟩:=parL_bd l
   clear hM g5
   go_wp2_with fail
   refine(pkPut_any cb ca bb 106 1 (nF l 25) (parL l) B W5 (by omega) (by omega) p0 (by omega) (by omega) M1.out.pu M1.out.ly).mono ?_
   rintro e W6 ⟨rfl,B6,y6,p6,t6⟩
   have M2:=hide (M1.out.put t6 p6 y6)
   clear M1 y6 p6 t6
   go_wp2_with fail
   refine(pkPut_any cb ca bb 107 5 (nF l 25*2^1+parL l) 0 B6 W6 (by omega) (by omega) (by omega) (by decide) (by omega) M2.out.pu M2.out.ly).mono ?_
   rintro e W7 ⟨rfl,B7,y7,p7,t7⟩
   rw[show(nF l 25*2^1+parL l)*2^5+0=numP l by unfold numP;rw[show(2:Int)^1=2 from rfl,show(2:Int)^5=32 from rfl,Int.add_zero]]at y7
   have M3:=hide (show PkS w l bb cb ca base g cap 112 (numP l) B7 W7 from M2.out.put t7 p7 y7)
   clear M2 y7 p7 t7
   have BB:=hide (fun i=>M3.out.ly.bd i)
   have CE:=hide (show chN (B7.take 14) 14=chN (pkL (numP l)) 14 by rw[←lay_sum M3.out.ly];unfold chN;rw[sumB_congr (B7.take 14) B7 14 (fun i hi=>by simp[nth,List.getD,List.getElem?_take,hi])])
   have BY:=hide (M3.out.pu.byt.byts 14 (by rw[M3.out.ly.1];omega) 15 (by omega))
   have YB:=hide (show byB (B7.take 14)from fun i=>by
    by_cases hi:i<14
    ·have:=BB.out i
     simpa [nth,List.getD,List.getElem?_take,hi] using this
    ·rw[getD_out _ i (by simp;omega)];omega)
   go_wp2_with fail
   refine(pkSum_any _ 15 (B7.take 14) W7 BY.out YB.out).mono ?_
   rintro e W8 ⟨rfl,rfl⟩
   rw[CE.out]
   clear CE BY YB BB
   have sb:0≤chN (pkL (numP l)) 14∧chN (pkL (numP l)) 14<256:=by unfold chN;omega
   go_wp2_with fail
   refine(pkPut_any cb ca bb 112 8 (numP l) (chN (pkL (numP l)) 14) B7 W8 (by omega) (by omega) sb.1 (by rw[show(2:Int)^8=256 from rfl];exact sb.2) sb.2 M3.out.pu M3.out.ly).mono ?_
   rintro e W9 ⟨rfl,B9,y9,p9,t9⟩
   have M4:=hide (M3.out.put t9 p9 y9)
   clear M3 y9 p9 t9
   go_wp2_with fail
   rw[←HTT.out]
   refine⟨.slice (some ⟨bb,0,none⟩) 15 15,by rw[(pkR_yes HG.out).2];rfl,?_,M4.out.gr⟩
   rw[(pkR_yes HG.out).1,←lay_end M4.out.ly]
   exact M4.out.pu.byt.own _ (Nat.le_of_lt M4.out.o1) M4.out.ly.1
theorem pkPack_any (l:List Int)(hl:l.length=25)(h64:In64 l)(w:World)(hT:TabA w 3 widq 8):Calls Tryz.prog 36 #[.agg (arrI l)] w (PkP w l):=by
 rcases h:gudP l with _|_
 ·exact pkPack_no l hl h64 w hT h
 ·exact pkPack_yes l hl h64 w hT h
end Go.Proofs.YtdejpongekicdaaGreatDoor

/- Tabs -/
namespace Go.Proofs.YtdejpongekicdaaGreatDoor
open Go.ChangeShapes Go.WideShapes Go.ChangeAt Go.RowKit
set_option linter.unusedVariables false
theorem tabA_of {H : Type} {enc : TypeId × Value → H} {W : World} {base fuel : Nat} {sp : Nat → Bool} {held : Bool} {x : String} {g n : Nat} {t : TypeId} {zs : List Int} {cs : Array Value} {p : List MemPlace}
  (hg : Tryz.prog.globalNamed x = some g) (hv : W.var? Tryz.prog x = some cs) (ht : Tryz.prog.underlying t = some (.array n 3)) (hct : Tryz.prog.cellsOf t = n) (hd : DataW.trod enc Tryz.prog W base sp held fuel t cs.toList = some (Lib.tabData .i64 zs, p)) :
  TabA W g zs zs.length := fun i hi => by
 have e := Lib.cells_of_tab ht Tryz.underlying3 (show Tryz.prog.cellsOf 3 = 1 by kernel_rfl) hct hd
 have k : Lib.TabIs Tryz.prog W x .i64 zs := by unfold Lib.TabIs; rw [hv, ← e]
 exact k.cell hg i hi
end Go.Proofs.YtdejpongekicdaaGreatDoor
