/-
  For every list b of bytes, voxsatlaw.PackUnpacks returns true and leaves its arguments as they were; the tables quant.widths and voxsatref.widths start as the program's text lays them (tied). No other condition.
-/
import Derived.Test.YtjgdkinnpgiabaaDoorRows
import Derived.Test.YtjgdkinnpgiabaaDoorCards
import Derived.Test.YtjgdkinnpgiabaaDoorTie
import Derived.Test.YtjgdkinnpgiabaaDoorLPkXc
import Derived.Test.YtjgdkinnpgiabaaDoorOpensB
import Derived.Test.YtjgdkinnpgiabaaDoorTabs
import Derived.WalkKit
import Derived.ProofKit
import Derived.OpenShut
import Derived.LaidMore
import Derived.Stop.Joined
import Derived.Lib.LaidTab
import Derived.SevenTiedAt
import Derived.SizedLaws
import Derived.Carry
namespace Go.Proofs.YtjgdkinnpgiabaaDoor.packUnpacks
open Go.ChangeShapes Go.WideShapes Go.ChangeAt Go.RowKit
set_option linter.unusedVariables false

def laidL : List (String × DataW Unit) := [("voxsat/quant.widths", Rows.laid_voxsat_quant_widths), ("voxsat/voxsatref.widths", Rows.laid_voxsat_voxsatref_widths)]
theorem g0 : Tryd.prog.globalNamed "voxsat/quant.widths" = some 1 := by kernel_rfl
theorem t0 : (Tryd.prog.globals[1]?).map (·.type) = some 22 := by kernel_rfl
theorem c0 : Tryd.prog.cellsOf 22 = 8 := by kernel_rfl
theorem g1 : Tryd.prog.globalNamed "voxsat/voxsatref.widths" = some 0 := by kernel_rfl
theorem t1 : (Tryd.prog.globals[0]?).map (·.type) = some 48 := by kernel_rfl

set_option maxRecDepth 100000 in
theorem door_met (os : Os) (args : Array Value) : laidMetH Tryd.prog laidL ((World.doorLaid Tryd.prog 400 os).forCall (fun _ _ => 0) ⟨#[], args, []⟩).memory :=
  laidMetH_of_parts3 (fuel := 8) (laidMet_of_run' 8 (by kernel_rfl) (by kernel_rfl)) (by kernel_rfl) (by kernel_rfl)

theorem of_laid {W : World} (h : laidMetH Tryd.prog laidL W) : TabA W 1 widq 8 ∧ (∃ a c, TabS W 0 a c wid8 8) := by
  rw [MakeChecks.laidMetH_plain _ _ _ (by kernel_rfl)] at h
  have hT := Lib.tabIs_of_head (zs := widq) (k := .i64) g0 t0 Tryd.underlying22 Tryd.underlying3 o_cellsInt c0 h
  have A0 : TabA W 1 widq 8 := fun i hi => hT.cell g0 i hi
  obtain ⟨ps, ⟨g0', t0', cs0, f0, p0, q0, hg0, ht0, hv0, hd0, ⟨g1', t1', cs1, f1, p1, q1, hg1, ht1, hv1, hd1, _, _⟩, _⟩, _, _⟩ := h
  obtain rfl := Option.some.inj (g1.symm.trans hg1)
  obtain rfl := Option.some.inj (t1.symm.trans ht1)
  have A1 := tabS_of (zs := wid8) hg1 hv1 hd1
  exact ⟨A0, A1⟩

set_option maxRecDepth 100000 in
theorem lifted (os : Os) (started : os.Started) (H : Type) (enc : TypeId × Value → H) :
    ReturnsInHanded {} Tryd.checked os 5 .any (fun w args => (Rows.packUnpacksSpec.pre enc Tryd.prog Tryd.f5 [] false w args ∧ laidMetH Tryd.prog laidL w) ∧ sizedMet enc Tryd.prog Tryd.f5 (OpenSpec.ofChange Rows.packUnpacksSpec) false w args)
      (Rows.packUnpacksSpec.post enc Tryd.prog Tryd.f5 false true false false) := by
  refine returnsInHanded_of_change_and (C := Tryd.checked) (X := fun w _ => laidMetH Tryd.prog laidL w) (fun _ _ _ hh h => h.of_heap hh) o_own started (by kernel_rfl) Tryd.func5
    (ChangeSpec.witness_shaped (enc := enc) (C := Tryd.checked) (os := os) (X := fun w _ => laidMetH Tryd.prog laidL w) false (World.doorLaid Tryd.prog 400 os) #[.slice none 0 0] 8 rfl (World.shaped_of_RefB (by kernel_rfl) (by kernel_rfl)) (by kernel_rfl) (by kernel_rfl) (by kernel_rfl) (door_met os _)) ?_
  intro W base args ds gs before hval0 hW _ hsz0 hL _
  have hsz : (DataW.weightsEach Tryd.prog (Tryd.f5.params.toList ++ Rows.packUnpacksSpec.plain.varTypes Tryd.prog) (ds ++ gs)).all (· ≤ reachBytes) = true := hsz0
  clear hsz0
  have hval : ∀ (j : Nat) t v, Tryd.f5.params[j]? = some t → args[j]? = some v → Value.okWide Tryd.prog W .any base t v := hval0
  have hW' := hW
  obtain ⟨p, q, hA0, hV, rfl, hfz, hnd⟩ := hW
  have hA : DataW.TrodAll enc Tryd.prog W 0 (fun _ => true) true Tryd.f5.params.toList args.toList ds p := hA0
  rw [Tryd.params5] at hA hval hsz
  obtain ⟨v0, vs0, d0, ds0, p0, q0, hargs, rfl, rfl, h0, r0⟩ := trodAll_cons hA
  obtain ⟨rfl, rfl, rfl⟩ := trodAll_nil r0
  obtain rfl : args = #[v0] := by cases args; simp_all
  obtain ⟨rfl, rfl⟩ := trodVars_none hV
  have b0 := hval 0 31 v0 rfl rfl
  obtain ⟨l0, e0, m0, w0, s0⟩ := open_byts b0 h0 hsz (j := 0) rfl rfl
  clear hA0 hval0
  have x0 : ∀ x ∈ p0, x.block < W.heap.size := fun x hx => by simpa using hW'.lt x (by simp [hx])
  obtain ⟨hV0, ⟨sa1, sc1, hV1⟩⟩ := of_laid hL
  refine (crd_packUnpacks W hV0 sa1 sc1 hV1 v0 l0 e0 m0 w0 s0).mono fun e W' ⟨he, hg⟩ => ?_
  subst he
  exact ⟨_, rfl, _, _, _, [], (p0 ++ []), [], hW', (trodAll_cons_mk (shut_bool Tryd.underlying4 _) trodAll_mk0), (trodAll_cons_mk (Below.trod o_laidOut (by kernel_rfl) (of_decide_eq_true (by kernel_rfl)) h0 hg x0) trodAll_mk0), rfl, hg.frame _, fun h => by cases h⟩

theorem over : Rows.PackUnpacksSaid :=
  OpenClaim.holds_of_wide 5 Tryd.f5 rfl rfl rfl rfl rfl rfl rfl ⟨rfl, rfl, rfl, rfl, rfl⟩ rfl rfl rfl rfl rfl (by kernel_rfl) Tryd.func5 (by kernel_rfl)
    (of_decide_eq_true (by kernel_rfl)) (by unfold Func.isWrapper; first | (rw [if_pos (by decide +kernel)]; kernel_rfl) | (rw [if_neg (by decide +kernel)]; exact ⟨rfl, rfl⟩))
    (fun os started H enc _ => lifted os started H enc)

theorem card : Rows.PackUnpacksCardSaid :=
  Claim7.holds_tied_plain_at .later [] [.data, .data] true (true, "59713ab3e1656c960cf69729a4177be1e3c97bd391d9297fed517891510c1ca6") false
    over (fun _ h => by cases h) (by kernel_rfl) (fun _ h => by cases h) packUnpacks_row_tie rfl ⟨rfl, rfl⟩ (by kernel_rfl) rfl
    (fun f fn hf hfn => by
      obtain rfl : f = 5 := Option.some.inj ((show Tryd.prog.funcNamed "voxsat/voxsatlaw.PackUnpacks" = some 5 by kernel_rfl).symm.trans hf) |>.symm
      obtain rfl : fn = Tryd.f5 := (Option.some.inj (Tryd.func5.symm.trans hfn)).symm
      exact ⟨by kernel_rfl, fun j t ht => by
        rw [Tryd.params5] at ht
        have hm : t ∈ [31] := by simpa using Array.mem_of_getElem? ht
        have hall : ([31].all fun u => !Tryd.prog.wantsStandIn u) = true := by kernel_rfl
        exact (show Tryd.prog.wantsStandIn t = false by simpa using List.all_eq_true.1 hall t hm)⟩)
    (by kernel_rfl)
end Go.Proofs.YtjgdkinnpgiabaaDoor.packUnpacks
namespace Go.Proofs.YtjgdkinnpgiabaaDoor
theorem packUnpacks_holds : Rows.PackUnpacksCardSaid := packUnpacks.card
#print axioms packUnpacks_holds
end Go.Proofs.YtjgdkinnpgiabaaDoor
