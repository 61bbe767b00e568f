/-
  For every list l of calls, voxsatlaw.DeskPlays returns true and leaves its arguments as they were; the tables dual.growth, quant.widths, pitch.gains, voxsatref.steps, voxsatref.widths and voxsatref.pitchGains start as the program's text lays them (tied). No other condition.
-/
import Derived.Test.YtmpfdogdinhhcaaGreatDoorRows
import Derived.Test.YtmpfdogdinhhcaaGreatDoorCards
import Derived.Test.YtmpfdogdinhhcaaGreatDoorTie
import Derived.Test.YtmpfdogdinhhcaaGreatDoorBun10
import Derived.SevenTiedAt
namespace Go.Proofs.YtmpfdogdinhhcaaGreatDoor.deskPlays
open Go.ChangeShapes Go.WideShapes Go.ChangeAt Go.RowKit
set_option linter.unusedVariables false

def laidL:List (String×DataW Unit):=[("voxsat/dual.growth",Rows.laid_voxsat_dual_growth),("voxsat/quant.widths",Rows.laid_voxsat_quant_widths),("voxsat/pitch.gains",Rows.laid_voxsat_pitch_gains),("voxsat/voxsatref.steps",Rows.laid_voxsat_voxsatref_steps),("voxsat/voxsatref.widths",Rows.laid_voxsat_voxsatref_widths),("voxsat/voxsatref.pitchGains",Rows.laid_voxsat_voxsatref_pitchGains)]
theorem g0:Tryz.prog.globalNamed "voxsat/dual.growth"=some 5:=by kernel_rfl
theorem t0:(Tryz.prog.globals[5]?).map (·.type)=some 251:=by kernel_rfl
theorem c0:Tryz.prog.cellsOf 251=15:=by kernel_rfl
theorem g1:Tryz.prog.globalNamed "voxsat/quant.widths"=some 4:=by kernel_rfl
theorem t1:(Tryz.prog.globals[4]?).map (·.type)=some 50:=by kernel_rfl
theorem c1:Tryz.prog.cellsOf 50=8:=by kernel_rfl
theorem g2:Tryz.prog.globalNamed "voxsat/pitch.gains"=some 3:=by kernel_rfl
theorem t2:(Tryz.prog.globals[3]?).map (·.type)=some 50:=by kernel_rfl
theorem c2:Tryz.prog.cellsOf 50=8:=by kernel_rfl
theorem g3:Tryz.prog.globalNamed "voxsat/voxsatref.steps"=some 2:=by kernel_rfl
theorem t3:(Tryz.prog.globals[2]?).map (·.type)=some 26:=by kernel_rfl
theorem g4:Tryz.prog.globalNamed "voxsat/voxsatref.widths"=some 1:=by kernel_rfl
theorem t4:(Tryz.prog.globals[1]?).map (·.type)=some 26:=by kernel_rfl
theorem g5:Tryz.prog.globalNamed "voxsat/voxsatref.pitchGains"=some 0:=by kernel_rfl
theorem t5:(Tryz.prog.globals[0]?).map (·.type)=some 26:=by kernel_rfl

set_option maxRecDepth 100000 in
theorem door_met (os:Os)(args:Array Value):laidMetH Tryz.prog laidL ((World.doorLaid Tryz.prog 400 os).forCall (fun _ _=>0) ⟨#[],args,[]⟩).memory:=
  laidMetH_of_parts3 (fuel:=8) (laidMet_of_run' 8 (by kernel_rfl) (by kernel_rfl)) (by kernel_rfl) (by kernel_rfl)

theorem of_laid {W:World}(h:laidMetH Tryz.prog laidL W):TabA W 5 gro 15∧TabA W 4 widq 8∧TabA W 3 gains 8∧(∃a c,TabS W 2 a c gro 15)∧(∃a c,TabS W 1 a c wids 8)∧(∃a c,TabS W 0 a c gains 8):=by
  rw[MakeChecks.laidMetH_plain _ _ _ (by kernel_rfl)]at h
  obtain⟨ps,⟨g0',t0',cs0,f0,p0,q0,hg0,ht0,hv0,hd0,⟨g1',t1',cs1,f1,p1,q1,hg1,ht1,hv1,hd1,⟨g2',t2',cs2,f2,p2,q2,hg2,ht2,hv2,hd2,⟨g3',t3',cs3,f3,p3,q3,hg3,ht3,hv3,hd3,⟨g4',t4',cs4,f4,p4,q4,hg4,ht4,hv4,hd4,⟨g5',t5',cs5,f5,p5,q5,hg5,ht5,hv5,hd5,_,_⟩,_⟩,_⟩,_⟩,_⟩,_⟩,_,_⟩:=h
  obtain rfl:=Option.some.inj (g0.symm.trans hg0)
  obtain rfl:=Option.some.inj (t0.symm.trans ht0)
  have A0:TabA W 5 gro 15:=tabA_of (l:=gro) hg0 hv0 Tryz.underlying251 c0 hd0
  obtain rfl:=Option.some.inj (g1.symm.trans hg1)
  obtain rfl:=Option.some.inj (t1.symm.trans ht1)
  have A1:TabA W 4 widq 8:=tabA_of (l:=widq) hg1 hv1 Tryz.underlying50 c1 hd1
  obtain rfl:=Option.some.inj (g2.symm.trans hg2)
  obtain rfl:=Option.some.inj (t2.symm.trans ht2)
  have A2:TabA W 3 gains 8:=tabA_of (l:=gains) hg2 hv2 Tryz.underlying50 c2 hd2
  obtain rfl:=Option.some.inj (g3.symm.trans hg3)
  obtain rfl:=Option.some.inj (t3.symm.trans ht3)
  have A3:=tabS_of (l:=gro) hg3 hv3 hd3
  obtain rfl:=Option.some.inj (g4.symm.trans hg4)
  obtain rfl:=Option.some.inj (t4.symm.trans ht4)
  have A4:=tabS_of (l:=wids) hg4 hv4 hd4
  obtain rfl:=Option.some.inj (g5.symm.trans hg5)
  obtain rfl:=Option.some.inj (t5.symm.trans ht5)
  have A5:=tabS_of (l:=gains) hg5 hv5 hd5
  exact⟨A0,A1,A2,A3,A4,A5⟩

set_option maxRecDepth 100000 in
theorem lifted (os:Os)(started:os.Started)(H:Type)(enc:TypeId×Value→H) :
    ReturnsInHanded {} Tryz.checked os 3 .any (fun w args=>(Rows.deskPlaysSpec.pre enc Tryz.prog Tryz.f3 [] false w args∧laidMetH Tryz.prog laidL w)∧sizedMet enc Tryz.prog Tryz.f3 (OpenSpec.ofChange Rows.deskPlaysSpec) false w args)
      (Rows.deskPlaysSpec.post enc Tryz.prog Tryz.f3 false true false false):=by
  refine returnsInHanded_of_change_and (C:=Tryz.checked) (X:=fun w _=>laidMetH Tryz.prog laidL w) (fun _ _ _ hh h=>h.of_heap hh) o_own started (by kernel_rfl) Tryz.func3
    (ChangeSpec.witness_shaped (enc:=enc) (C:=Tryz.checked) (os:=os) (X:=fun w _=>laidMetH Tryz.prog laidL w) false (World.doorLaid Tryz.prog 400 os) #[.slice none 0 0] 8 rfl (World.shaped_of_RefB (by kernel_rfl) (by kernel_rfl)) (by kernel_rfl) (by kernel_rfl) (by kernel_rfl) (door_met os _)) ?_
  intro W base args ds gs before hval0 hW _ hsz0 hL _
  have hsz:(DataW.weightsEach Tryz.prog (Tryz.f3.params.toList++Rows.deskPlaysSpec.plain.varTypes Tryz.prog) (ds++gs)).all (·≤reachBytes)=true:=hsz0
  clear hsz0
  have hval:∀(j:Nat) t v,Tryz.f3.params[j]?=some t→args[j]?=some v→Value.okWide Tryz.prog W .any base t v:=hval0
  have hW':=hW
  obtain⟨p,q,hA0,hV,rfl,hfz,hnd⟩:=hW
  have hA:DataW.TrodAll enc Tryz.prog W 0 (fun _=>true) true Tryz.f3.params.toList args.toList ds p:=hA0
  rw[Tryz.params3]at hA hval hsz
  obtain⟨v0,vs0,d0,ds0,p0,q0,hargs,rfl,rfl,h0,r0⟩:=trodAll_cons hA
  obtain⟨rfl,rfl,rfl⟩:=trodAll_nil r0
  obtain rfl:args=#[v0]:=by cases args;simp_all
  obtain⟨rfl,rfl⟩:=trodVars_none hV
  have b0:=hval 0 22 v0 rfl rfl
  obtain⟨n0,L0,m0⟩:=open_cals b0 h0 hsz (b:=0) rfl rfl
  clear hA0 hval0
  have x0:∀x∈p0,x.block<W.heap.size:=fun x hx=>by simpa using hW'.lt x (by simp[hx])
  obtain⟨hV0,hV1,hV2,⟨sa3,sc3,hV3⟩,⟨sa4,sc4,hV4⟩,⟨sa5,sc5,hV5⟩⟩:=of_laid hL
  refine(crd_deskPlays W hV0 hV1 hV2 sa3 sc3 hV3 sa4 sc4 hV4 sa5 sc5 hV5 v0 n0 L0 m0).mono fun e W' ⟨he,hg⟩=>?_
  subst he
  exact⟨_,rfl,_,_,_,[],(p0++[]),[],hW',(trodAll_cons_mk (shut_bool Tryz.underlying4 _) trodAll_mk0),(trodAll_cons_mk (Below.trod o_laidOut (by kernel_rfl) (of_decide_eq_true (by kernel_rfl)) h0 hg x0) trodAll_mk0),rfl,hg.frame _,fun h=>by cases h⟩

theorem over:Rows.DeskPlaysSaid:=
  OpenClaim.holds_of_wide 3 Tryz.f3 rfl rfl rfl rfl rfl rfl rfl ⟨rfl,rfl,rfl,rfl,rfl⟩ rfl rfl rfl rfl rfl (by kernel_rfl) Tryz.func3 (by kernel_rfl)
    (of_decide_eq_true (by kernel_rfl)) (by unfold Func.isWrapper;first|(rw[if_pos (by decide +kernel)];kernel_rfl)|(rw[if_neg (by decide +kernel)];exact⟨rfl,rfl⟩))
    (fun os started H enc _=>lifted os started H enc)

theorem card:Rows.DeskPlaysCardSaid:=
  Claim7.holds_tied_plain_at .later [] [.data,.data,.data,.data,.data,.widerDeep] true (true,"d79410d302ed74044eeed4f04fd4c45fd3f3cf64f16a8d83116dda6d4ead7e67") false
    over (fun _ h=>by cases h) (by kernel_rfl) (fun _ h=>by cases h) deskPlays_row_tie rfl ⟨rfl,rfl⟩ (by kernel_rfl) rfl
    (fun f fn hf hfn=>by
      obtain rfl:f=3:=Option.some.inj ((show Tryz.prog.funcNamed "voxsat/voxsatlaw.DeskPlays"=some 3 by kernel_rfl).symm.trans hf) |>.symm
      obtain rfl:fn=Tryz.f3:=(Option.some.inj (Tryz.func3.symm.trans hfn)).symm
      exact⟨by kernel_rfl,fun j t ht=>by
        rw[Tryz.params3]at ht
        have hm:t∈[22]:=by simpa using Array.mem_of_getElem? ht
        have hall:([22].all fun u=>!Tryz.prog.wantsStandIn u)=true:=by kernel_rfl
        exact(show Tryz.prog.wantsStandIn t=false by simpa using List.all_eq_true.1 hall t hm)⟩)
    (by kernel_rfl)
end Go.Proofs.YtmpfdogdinhhcaaGreatDoor.deskPlays
namespace Go.Proofs.YtmpfdogdinhhcaaGreatDoor
theorem deskPlays_holds:Rows.DeskPlaysCardSaid:=deskPlays.card
#print axioms deskPlays_holds
end Go.Proofs.YtmpfdogdinhhcaaGreatDoor
