/-
  For every list l of frames that are spoken and every integer voice, voxsattop.TopDesk returns true and leaves its arguments as they were; the tables dual.growth, quant.widths and pitch.gains start as the program's text lays them (tied). No other condition.
-/
import Derived.Test.YtdejpongekicdaaGreatDoorRows
import Derived.Test.YtdejpongekicdaaGreatDoorCards
import Derived.Test.YtdejpongekicdaaGreatDoorTie
import Derived.Test.YtdejpongekicdaaGreatDoorBun8
import Derived.Test.YtdejpongekicdaaGreatDoorBun1
import Derived.Test.YtdejpongekicdaaGreatDoorBun5
import Derived.Test.YtdejpongekicdaaGreatDoorBun4
import Derived.WalkKit
import Derived.ProofKit
import Derived.OpenShut
import Derived.LaidMore
import Derived.Stop.Joined
import Derived.Lib.LaidTab
import Derived.SevenTiedAt
import Derived.SizedLaws
import Derived.Carry
namespace Go.Proofs.YtdejpongekicdaaGreatDoor.topDesk
open Go.ChangeShapes Go.WideShapes Go.ChangeAt Go.RowKit
set_option linter.unusedVariables false

def laidL : List (String × DataW Unit) := [("voxsat/dual.growth", Rows.laid_voxsat_dual_growth), ("voxsat/quant.widths", Rows.laid_voxsat_quant_widths), ("voxsat/pitch.gains", Rows.laid_voxsat_pitch_gains)]
theorem g0 : Tryz.prog.globalNamed "voxsat/dual.growth" = some 5 := by kernel_rfl
theorem t0 : (Tryz.prog.globals[5]?).map (·.type) = some 255 := by kernel_rfl
theorem c0 : Tryz.prog.cellsOf 255 = 15 := by kernel_rfl
theorem g1 : Tryz.prog.globalNamed "voxsat/quant.widths" = some 3 := by kernel_rfl
theorem t1 : (Tryz.prog.globals[3]?).map (·.type) = some 50 := by kernel_rfl
theorem c1 : Tryz.prog.cellsOf 50 = 8 := by kernel_rfl
theorem g2 : Tryz.prog.globalNamed "voxsat/pitch.gains" = some 2 := by kernel_rfl
theorem t2 : (Tryz.prog.globals[2]?).map (·.type) = some 50 := by kernel_rfl
theorem c2 : Tryz.prog.cellsOf 50 = 8 := by kernel_rfl

set_option maxRecDepth 100000 in
theorem door_met (os : Os) (args : Array Value) : laidMetH Tryz.prog laidL ((World.doorLaid Tryz.prog 400 os).forCall (fun _ _ => 0) ⟨#[], args, []⟩).memory :=
  laidMetH_of_parts3 (fuel := 8) (laidMet_of_run' 8 (by kernel_rfl) (by kernel_rfl)) (by kernel_rfl) (by kernel_rfl)

theorem of_laid {W : World} (h : laidMetH Tryz.prog laidL W) : TabA W 5 gro 15 ∧ TabA W 3 widq 8 ∧ TabA W 2 gains 8 := by
  rw [MakeChecks.laidMetH_plain _ _ _ (by kernel_rfl)] at h
  obtain ⟨ps, ⟨g0', t0', cs0, f0, p0, q0, hg0, ht0, hv0, hd0, ⟨g1', t1', cs1, f1, p1, q1, hg1, ht1, hv1, hd1, ⟨g2', t2', cs2, f2, p2, q2, hg2, ht2, hv2, hd2, _, _⟩, _⟩, _⟩, _, _⟩ := h
  obtain rfl := Option.some.inj (g0.symm.trans hg0)
  obtain rfl := Option.some.inj (t0.symm.trans ht0)
  have A0 : TabA W 5 gro 15 := tabA_of (zs := gro) hg0 hv0 Tryz.underlying255 c0 hd0
  obtain rfl := Option.some.inj (g1.symm.trans hg1)
  obtain rfl := Option.some.inj (t1.symm.trans ht1)
  have A1 : TabA W 3 widq 8 := tabA_of (zs := widq) hg1 hv1 Tryz.underlying50 c1 hd1
  obtain rfl := Option.some.inj (g2.symm.trans hg2)
  obtain rfl := Option.some.inj (t2.symm.trans ht2)
  have A2 : TabA W 2 gains 8 := tabA_of (zs := gains) hg2 hv2 Tryz.underlying50 c2 hd2
  exact ⟨A0, A1, A2⟩

set_option maxRecDepth 100000 in
theorem lifted (os : Os) (started : os.Started) (H : Type) (enc : TypeId × Value → H) :
    ReturnsInHanded {} Tryz.checked os 6 .any (fun w args => (Rows.topDeskSpec.pre enc Tryz.prog Tryz.f6 [] false w args ∧ laidMetH Tryz.prog laidL w) ∧ sizedMet enc Tryz.prog Tryz.f6 (OpenSpec.ofChange Rows.topDeskSpec) false w args)
      (Rows.topDeskSpec.post enc Tryz.prog Tryz.f6 false true false false) := by
  refine returnsInHanded_of_change_and (C := Tryz.checked) (X := fun w _ => laidMetH Tryz.prog laidL w) (fun _ _ _ hh h => h.of_heap hh) o_own started (by kernel_rfl) Tryz.func6
    (ChangeSpec.witness_shaped (enc := enc) (C := Tryz.checked) (os := os) (X := fun w _ => laidMetH Tryz.prog laidL w) false (World.doorLaid Tryz.prog 400 os) #[.slice none 0 0, .int .i64 0] 8 rfl (World.shaped_of_RefB (by kernel_rfl) (by kernel_rfl)) (by kernel_rfl) (by kernel_rfl) (by kernel_rfl) (door_met os _)) ?_
  intro W base args ds gs before hval0 hW _ hsz0 hL _
  have hsz : (DataW.weightsEach Tryz.prog (Tryz.f6.params.toList ++ Rows.topDeskSpec.plain.varTypes Tryz.prog) (ds ++ gs)).all (· ≤ reachBytes) = true := hsz0
  clear hsz0
  have hval : ∀ (j : Nat) t v, Tryz.f6.params[j]? = some t → args[j]? = some v → Value.okWide Tryz.prog W .any base t v := hval0
  have hW' := hW
  obtain ⟨p, q, hA0, hV, rfl, hfz, hnd⟩ := hW
  have hA : DataW.TrodAll enc Tryz.prog W 0 (fun _ => true) true Tryz.f6.params.toList args.toList ds p := hA0
  rw [Tryz.params6] at hA hval hsz
  obtain ⟨v0, vs0, d0, ds0, p0, q0, hargs, rfl, rfl, h0, r0⟩ := trodAll_cons hA
  obtain ⟨v1, vs1, d1, ds1, p1, q1, rfl, rfl, rfl, h1, r1⟩ := trodAll_cons r0
  obtain ⟨rfl, rfl, rfl⟩ := trodAll_nil r1
  obtain rfl : args = #[v0, v1] := by cases args; simp_all
  obtain ⟨rfl, rfl⟩ := trodVars_none hV
  have b0 := hval 0 44 v0 rfl rfl
  obtain ⟨n0, L0, m0⟩ := open_talks b0 h0
  have b1 := hval 1 3 v1 rfl rfl
  obtain ⟨a1, ev1, _, _, w1⟩ := open_int Tryz.underlying3 b1 h1
  subst ev1
  clear hA0 hval0
  have x0 : ∀ x ∈ p0, x.block < W.heap.size := fun x hx => by simpa using hW'.lt x (by simp [hx])
  have x1 : ∀ x ∈ p1, x.block < W.heap.size := fun x hx => by simpa using hW'.lt x (by simp [hx])
  obtain ⟨hV0, hV1, hV2⟩ := of_laid hL
  refine (crd_topDesk W hV0 hV1 hV2 v0 n0 L0 m0 a1 w1).mono fun e W' ⟨he, hg⟩ => ?_
  subst he
  exact ⟨_, rfl, _, _, _, [], (p0 ++ (p1 ++ [])), [], hW', (trodAll_cons_mk (shut_bool Tryz.underlying4 _) trodAll_mk0), (trodAll_cons_mk (Below.trod o_laidOut (by kernel_rfl) (of_decide_eq_true (by kernel_rfl)) h0 hg x0) (trodAll_cons_mk (Below.trod o_laidOut (by kernel_rfl) (of_decide_eq_true (by kernel_rfl)) h1 hg x1) trodAll_mk0)), rfl, hg.frame _, fun h => by cases h⟩

theorem over : Rows.TopDeskSaid :=
  OpenClaim.holds_of_wide 6 Tryz.f6 rfl rfl rfl rfl rfl rfl rfl ⟨rfl, rfl, rfl, rfl, rfl⟩ rfl rfl rfl rfl rfl (by kernel_rfl) Tryz.func6 (by kernel_rfl)
    (of_decide_eq_true (by kernel_rfl)) (by unfold Func.isWrapper; first | (rw [if_pos (by decide +kernel)]; kernel_rfl) | (rw [if_neg (by decide +kernel)]; exact ⟨rfl, rfl⟩))
    (fun os started H enc _ => lifted os started H enc)

theorem card : Rows.TopDeskCardSaid :=
  Claim7.holds_tied_plain_at .later [] [.data, .data, .data] true (true, "4060675587c1d61915d520ba41005abc7f74bc3635cd5fb8bc30a95a2c3e9635") false
    over (fun _ h => by cases h) (by kernel_rfl) (fun _ h => by cases h) topDesk_row_tie rfl ⟨rfl, rfl⟩ (by kernel_rfl) rfl
    (fun f fn hf hfn => by
      obtain rfl : f = 6 := Option.some.inj ((show Tryz.prog.funcNamed "voxsat/voxsattop.TopDesk" = some 6 by kernel_rfl).symm.trans hf) |>.symm
      obtain rfl : fn = Tryz.f6 := (Option.some.inj (Tryz.func6.symm.trans hfn)).symm
      exact ⟨by kernel_rfl, fun j t ht => by
        rw [Tryz.params6] at ht
        have hm : t ∈ [44, 3] := by simpa using Array.mem_of_getElem? ht
        have hall : ([44, 3].all fun u => !Tryz.prog.wantsStandIn u) = true := by kernel_rfl
        exact (show Tryz.prog.wantsStandIn t = false by simpa using List.all_eq_true.1 hall t hm)⟩)
    (by kernel_rfl)
end Go.Proofs.YtdejpongekicdaaGreatDoor.topDesk
namespace Go.Proofs.YtdejpongekicdaaGreatDoor
theorem topDesk_holds : Rows.TopDeskCardSaid := topDesk.card
#print axioms topDesk_holds
end Go.Proofs.YtdejpongekicdaaGreatDoor
