/-
  For all integers n and f, voxsatlaw.DualPows returns true and leaves its arguments as they were; the lists dual.growth and voxsatref.steps start as the program's text lays them (tied). No other condition.
-/
import Derived.Test.YtfeoeonhfcjmgaaDoorRows
import Derived.Test.YtfeoeonhfcjmgaaDoorCards
import Derived.Test.YtfeoeonhfcjmgaaDoorTie
import Derived.Test.YtfeoeonhfcjmgaaDoorRefPow
import Derived.WalkKit
import Derived.ProofKit
import Derived.OpenShut
import Derived.LaidMore
import Derived.Stop.Joined
import Derived.Lib.LaidTab
import Derived.SevenTiedAt
namespace Go.Proofs.YtfeoeonhfcjmgaaDoor.dualPows
open Go.ChangeShapes Go.WideShapes Go.ChangeAt Go.RowKit
set_option linter.unusedVariables false

theorem own : ownKnob Tryd.prog.godebug = none := by kernel_rfl
theorem gGrowth : Tryd.prog.globalNamed "voxsat/dual.growth" = some 0 := by kernel_rfl
theorem gSteps : Tryd.prog.globalNamed "voxsat/voxsatref.steps" = some 1 := by kernel_rfl
theorem tGrowth : (Tryd.prog.globals[0]?).map (·.type) = some 27 := by kernel_rfl
theorem tSteps : (Tryd.prog.globals[1]?).map (·.type) = some 36 := by kernel_rfl
theorem cInt : Tryd.prog.cellsOf 3 = 1 := by kernel_rfl
theorem cTab : Tryd.prog.cellsOf 27 = 15 := by kernel_rfl
def laidL : List (String × DataW Unit) := [("voxsat/dual.growth", Rows.laid_voxsat_dual_growth), ("voxsat/voxsatref.steps", Rows.laid_voxsat_voxsatref_steps)]

set_option maxRecDepth 100000 in
theorem door_met (os : Os) (args : Array Value) : laidMetH Tryd.prog laidL ((World.doorLaid Tryd.prog 400 os).forCall (fun _ _ => 0) ⟨#[], args, []⟩).memory :=
  laidMetH_of_parts3 (fuel := 8) (laidMet_of_run' 8 (by kernel_rfl) (by kernel_rfl)) (by kernel_rfl) (by kernel_rfl)

theorem of_laid {W : World} (h : laidMetH Tryd.prog laidL W) : Grows W ∧ ∃ a c, Steps W a c := by
  rw [MakeChecks.laidMetH_plain _ _ _ (by kernel_rfl)] at h
  have hT := Lib.tabIs_of_head (zs := gro) (k := .i64) gGrowth tGrowth Tryd.underlying27 Tryd.underlying3 cInt cTab h
  refine ⟨fun i hi => hT.cell gGrowth i hi, ?_⟩
  obtain ⟨ps, ⟨g0, t0, cs0, f0, p0, q0, hg0, ht0, hv0, hd0, ⟨g1, t1, cs1, f1, p1, q1, hg1, ht1, hv1, hd1, _, _⟩, _⟩, _, _⟩ := h
  obtain rfl := Option.some.inj (gSteps.symm.trans hg1)
  obtain rfl := Option.some.inj (tSteps.symm.trans ht1)
  obtain ⟨a, c, hcs, hc, hel⟩ := open_row (ds := gro.map fun z => .lit (.int .i64 z)) Tryd.underlying36 cInt hd1
  have hcell := World.var?_cell hg1 hv1 0
  obtain ⟨l1⟩ := cs1
  simp only at hcs
  subst hcs
  refine ⟨a, c, hcell, hc, fun i hi => ?_⟩
  have hd : (gro.map fun z => (.lit (.int .i64 z) : DataW Unit))[i]? = some (.lit (.int .i64 (groAt i))) := by
    rw [List.getElem?_map]
    have e : gro[i]? = some (groAt i) := by
      unfold groAt
      rw [List.getD_eq_getElem?_getD, List.getElem?_eq_getElem (show i < gro.length from hi)]; rfl
    rw [e]; rfl
  obtain ⟨v, m, q, hv, hr⟩ := hel i _ hd
  obtain ⟨z, e1, e2, _⟩ := DataW.trod_int Tryd.underlying3 hr
  rw [hv]
  simp at e1 e2
  rw [e1, e2.1]

set_option maxRecDepth 100000 in
theorem lifted (os : Os) (started : os.Started) (H : Type) (enc : TypeId × Value → H) :
    ReturnsInHanded {} Tryd.checked os 3 .any (fun w args => (Rows.dualPowsSpec.pre enc Tryd.prog Tryd.f3 [] false w args ∧ laidMetH Tryd.prog laidL w) ∧ sizedMet enc Tryd.prog Tryd.f3 (OpenSpec.ofChange Rows.dualPowsSpec) false w args)
      (Rows.dualPowsSpec.post enc Tryd.prog Tryd.f3 false true false false) := by
  refine returnsInHanded_of_change_and (C := Tryd.checked) (X := fun w _ => laidMetH Tryd.prog laidL w) (fun _ _ _ hh h => h.of_heap hh) own started (by kernel_rfl) Tryd.func3
    (ChangeSpec.witness_shaped (enc := enc) (C := Tryd.checked) (os := os) (X := fun w _ => laidMetH Tryd.prog laidL w) false (World.doorLaid Tryd.prog 400 os) #[.int .i64 0, .int .i64 0] 8 rfl (World.shaped_of_RefB (by kernel_rfl) (by kernel_rfl)) (by kernel_rfl) (by kernel_rfl) (by kernel_rfl) (door_met os _)) ?_
  intro W base args ds gs before hval0 hW _ _ hL _
  have hval : ∀ (j : Nat) t v, Tryd.f3.params[j]? = some t → args[j]? = some v → Value.okWide Tryd.prog W .any base t v := hval0
  have hW' := hW
  obtain ⟨p, q, hA0, hV, rfl, hfz, hnd⟩ := hW
  have hA : DataW.TrodAll enc Tryd.prog W 0 (fun _ => true) true Tryd.f3.params.toList args.toList ds p := hA0
  rw [Tryd.params3] at hA hval
  obtain ⟨v0, vs0, d0, ds0, p0, q0, hargs, rfl, rfl, h0, r0⟩ := trodAll_cons hA
  obtain ⟨v1, vs1, d1, ds1, p1, q1, rfl, rfl, rfl, h1, r1⟩ := trodAll_cons r0
  obtain ⟨rfl, rfl, rfl⟩ := trodAll_nil r1
  obtain rfl : args = #[v0, v1] := by cases args; simp_all
  obtain ⟨rfl, rfl⟩ := trodVars_none hV
  obtain ⟨a0, rfl, rfl, rfl, w0⟩ := open_int Tryd.underlying3 (hval 0 3 v0 rfl rfl) h0
  obtain ⟨a1, rfl, rfl, rfl, w1⟩ := open_int Tryd.underlying3 (hval 1 3 v1 rfl rfl) h1
  clear hA0 hval0
  simp only [List.append_nil] at hW'
  obtain ⟨hG, a, c, hS⟩ := of_laid hL
  refine (law_pows a0 a1 a c W hG hS).mono fun e W' ⟨he, hg⟩ => ?_
  subst he
  exact ⟨_, rfl, _, _, _, [], [], [], hW', (trodAll_cons_mk (shut_bool Tryd.underlying4 _) trodAll_mk0), (trodAll_cons_mk (shut_int Tryd.underlying3 w0) (trodAll_cons_mk (shut_int Tryd.underlying3 w1) trodAll_mk0)), rfl, hg.frame _, fun h => by cases h⟩

theorem over : Rows.DualPowsSaid :=
  OpenClaim.holds_of_wide 3 Tryd.f3 rfl rfl rfl rfl rfl rfl rfl ⟨rfl, rfl, rfl, rfl, rfl⟩ rfl rfl rfl rfl rfl (by kernel_rfl) Tryd.func3 (by kernel_rfl)
    (of_decide_eq_true (by kernel_rfl)) (by unfold Func.isWrapper; first | (rw [if_pos (by decide +kernel)]; kernel_rfl) | (rw [if_neg (by decide +kernel)]; exact ⟨rfl, rfl⟩))
    (fun os started H enc _ => lifted os started H enc)

theorem card : Rows.DualPowsCardSaid :=
  Claim7.holds_tied_plain_at .later [] [.data, .data] true (true, "3117435fa47029c4e4cbd276de53cc87c0c05f26c3cac201a815a8c4d64bcd8b") false
    over (fun _ h => by cases h) (by kernel_rfl) (fun _ h => by cases h) dualPows_row_tie rfl ⟨rfl, rfl⟩ (by kernel_rfl) rfl
    (fun f fn hf hfn => by
      obtain rfl : f = 3 := Option.some.inj ((show Tryd.prog.funcNamed "voxsat/voxsatlaw.DualPows" = some 3 by kernel_rfl).symm.trans hf) |>.symm
      obtain rfl : fn = Tryd.f3 := (Option.some.inj (Tryd.func3.symm.trans hfn)).symm
      exact ⟨by kernel_rfl, fun j t ht => by
        rw [Tryd.params3] at ht
        have hm : t ∈ [3, 3] := by simpa using Array.mem_of_getElem? ht
        have hall : ([3, 3].all fun u => !Tryd.prog.wantsStandIn u) = true := by kernel_rfl
        exact (show Tryd.prog.wantsStandIn t = false by simpa using List.all_eq_true.1 hall t hm)⟩)
    (by kernel_rfl)
end Go.Proofs.YtfeoeonhfcjmgaaDoor.dualPows
namespace Go.Proofs.YtfeoeonhfcjmgaaDoor
theorem dualPows_holds : Rows.DualPowsCardSaid := dualPows.card
#print axioms dualPows_holds
end Go.Proofs.YtfeoeonhfcjmgaaDoor
