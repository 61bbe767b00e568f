/-
  NARROWER THAN 'FOR EVERY INPUT', by the rows' own cells (each row's printed sentence says how): GainLevels: laid · GainOnes: laid · GainRises: laid · GainNear: laid.
  DERIVED. THE GIVEN ROWS OF THIS SEAT. 4 by the template 'for every input the law returns true; each argument reads behind the call as it read before'; 0 by the template 'total and deterministic' (their statements: YtiamknnmgnbkgaaDoorTotals.lean).
  GIVEN WITH THE SEED: the statements are not yours to turn. If you find one false, say at which input.
  Laid BY PROGRAM, IN A SANDBOX (cutbox-rows.mjs): the forced cells as the released guide's own fill.sh prints them over the translation 311efa5412d676b8… (all of the seat's roots in one cut). By AI agents, Wed Nov 11 2026. No macro, syntax, notation, axiom, sorry.
-/
import Derived.Test.YtiamknnmgnbkgaaDoorChecked
import GoSem.Claim
import GoSem.ClaimJoined
import GoSem.ClaimMapViews
import Derived.JoinedTies
import Derived.KernelRfl
namespace Go.Proofs.YtiamknnmgnbkgaaDoor
/- THE CELL 'sum', in the pinned program and in every row, IS THE sha256 OF THE DUMP (.gsa) THAT YtiamknnmgnbkgaaDoorProg.lean LOADS. Nothing in Lean hashes anything: it is a label: what it is worth is what the hold of that sum in a sandbox is worth. -/
noncomputable def Tryd.pinned : Pinned := { name := "ytiamknnmgnbkgaadoor", sum := "311efa5412d676b80ad3fdb04e1d7f5654d6e3038ebb45030e76cca63f9e7b72", checked := Tryd.checked }
namespace Rows
def none {H : Type} : Left H := { results := [], args := [] }

/- WHAT THE LISTED PACKAGE-LEVEL VARIABLES READ AS WHEN THE CALL BEGINS. Each datum BY PROGRAM (the guide's laid-datum.mjs) off the statement by which the dump's own 'gosem.cut.vars' lays the variable. In a bare row this is a premise. The card (YtiamknnmgnbkgaaDoorCards.lean) ties it to the program's text. -/
def laid_voxsat_dual_growth {H : Type} : DataW H := .agg [.lit (.int .i64 444758425), .lit (.int .i64 203159592), .lit (.int .i64 97181937), .lit (.int .i64 47538611), .lit (.int .i64 23511884), .lit (.int .i64 11692281), .lit (.int .i64 5830311), .lit (.int .i64 2911209), .lit (.int .i64 1454619), .lit (.int .i64 727063), .lit (.int .i64 363470), .lit (.int .i64 181719), .lit (.int .i64 90856), .lit (.int .i64 45427), .lit (.int .i64 22713)]
def laid_voxsat_voxsatref_steps {H : Type} : DataW H := .slice [.lit (.int .i64 444758425), .lit (.int .i64 203159592), .lit (.int .i64 97181937), .lit (.int .i64 47538611), .lit (.int .i64 23511884), .lit (.int .i64 11692281), .lit (.int .i64 5830311), .lit (.int .i64 2911209), .lit (.int .i64 1454619), .lit (.int .i64 727063), .lit (.int .i64 363470), .lit (.int .i64 181719), .lit (.int .i64 90856), .lit (.int .i64 45427), .lit (.int .i64 22713)] []

/-- 'voxsatlaw.GainLevels': WHATEVER THE INPUT: true; the input reads as it did. -/
def gainLevelsSpec : ChangeSpec := { name := "gainLevels", fn := fun _ => fun
  | [d] => { results := [.lit (.bool true)], args := [d] }
  | _ => none }
def gainLevelsRow : OpenClaim := { program := "ytiamknnmgnbkgaadoor", sum := "311efa5412d676b80ad3fdb04e1d7f5654d6e3038ebb45030e76cca63f9e7b72", func := "voxsat/voxsatlaw.GainLevels", spec := "gainLevels", named := ["voxsat/dual.growth", "voxsat/voxsatref.steps"], apart := false, laid := [("voxsat/dual.growth", laid_voxsat_dual_growth), ("voxsat/voxsatref.steps", laid_voxsat_voxsatref_steps)] }
def GainLevelsSaid : Prop := gainLevelsRow.holds Tryd.pinned (OpenSpec.ofChange gainLevelsSpec)

/-- ITS FALSE NEIGHBOUR: 'it returns false'. Refute it at one input. -/
def gainLevelsWrong : ChangeSpec := { name := "gainLevels", fn := fun _ => fun
  | [d] => { results := [.lit (.bool false)], args := [d] }
  | _ => none }
def GainLevelsWrongFalsely : Prop := gainLevelsRow.holds Tryd.pinned (OpenSpec.ofChange gainLevelsWrong)

/-- 'voxsatlaw.GainOnes': WHATEVER THE INPUT: true; the input reads as it did. -/
def gainOnesSpec : ChangeSpec := { name := "gainOnes", fn := fun _ => fun
  | [d1, d2] => { results := [.lit (.bool true)], args := [d1, d2] }
  | _ => none }
def gainOnesRow : OpenClaim := { program := "ytiamknnmgnbkgaadoor", sum := "311efa5412d676b80ad3fdb04e1d7f5654d6e3038ebb45030e76cca63f9e7b72", func := "voxsat/voxsatlaw.GainOnes", spec := "gainOnes", named := ["voxsat/dual.growth", "voxsat/voxsatref.steps"], apart := false, laid := [("voxsat/dual.growth", laid_voxsat_dual_growth), ("voxsat/voxsatref.steps", laid_voxsat_voxsatref_steps)] }
def GainOnesSaid : Prop := gainOnesRow.holds Tryd.pinned (OpenSpec.ofChange gainOnesSpec)

/-- ITS FALSE NEIGHBOUR: 'it returns false'. Refute it at one input. -/
def gainOnesWrong : ChangeSpec := { name := "gainOnes", fn := fun _ => fun
  | [d1, d2] => { results := [.lit (.bool false)], args := [d1, d2] }
  | _ => none }
def GainOnesWrongFalsely : Prop := gainOnesRow.holds Tryd.pinned (OpenSpec.ofChange gainOnesWrong)

/-- 'voxsatkeep.GainRises': WHATEVER THE INPUT: true; the input reads as it did. -/
def gainRisesSpec : ChangeSpec := { name := "gainRises", fn := fun _ => fun
  | [d] => { results := [.lit (.bool true)], args := [d] }
  | _ => none }
def gainRisesRow : OpenClaim := { program := "ytiamknnmgnbkgaadoor", sum := "311efa5412d676b80ad3fdb04e1d7f5654d6e3038ebb45030e76cca63f9e7b72", func := "voxsat/voxsatkeep.GainRises", spec := "gainRises", named := ["voxsat/dual.growth"], apart := false, laid := [("voxsat/dual.growth", laid_voxsat_dual_growth)] }
def GainRisesSaid : Prop := gainRisesRow.holds Tryd.pinned (OpenSpec.ofChange gainRisesSpec)

/-- ITS FALSE NEIGHBOUR: 'it returns false'. Refute it at one input. -/
def gainRisesWrong : ChangeSpec := { name := "gainRises", fn := fun _ => fun
  | [d] => { results := [.lit (.bool false)], args := [d] }
  | _ => none }
def GainRisesWrongFalsely : Prop := gainRisesRow.holds Tryd.pinned (OpenSpec.ofChange gainRisesWrong)

/-- 'voxsatkeep.GainNear': WHATEVER THE INPUT: true; the input reads as it did. -/
def gainNearSpec : ChangeSpec := { name := "gainNear", fn := fun _ => fun
  | [d1, d2, d3] => { results := [.lit (.bool true)], args := [d1, d2, d3] }
  | _ => none }
def gainNearRow : OpenClaim := { program := "ytiamknnmgnbkgaadoor", sum := "311efa5412d676b80ad3fdb04e1d7f5654d6e3038ebb45030e76cca63f9e7b72", func := "voxsat/voxsatkeep.GainNear", spec := "gainNear", named := ["voxsat/dual.growth"], apart := false, laid := [("voxsat/dual.growth", laid_voxsat_dual_growth)] }
def GainNearSaid : Prop := gainNearRow.holds Tryd.pinned (OpenSpec.ofChange gainNearSpec)

/-- ITS FALSE NEIGHBOUR: 'it returns false'. Refute it at one input. -/
def gainNearWrong : ChangeSpec := { name := "gainNear", fn := fun _ => fun
  | [d1, d2, d3] => { results := [.lit (.bool false)], args := [d1, d2, d3] }
  | _ => none }
def GainNearWrongFalsely : Prop := gainNearRow.holds Tryd.pinned (OpenSpec.ofChange gainNearWrong)

/- THE SECOND FORM. 'bulk': how many values and letters a reading holds, each counted each time it is reached (what is shared counts as often as it is met; a slice's spare places count too). A statement '..UptoSaid' is the law's where the arguments, and the package variables that the reading takes, are together of bulk at most 1048576: NARROWER than '..Said'. Prove '..Said' where nothing that the law and all that it calls make is longer than what came in: it says more and counts as full. Else prove '..UptoSaid'. A law counts once. -/
mutual
def uptoBulk {H : Type} : DataW H → Nat
  | .lit (.string bytes) => bytes.length + 1
  | .lit _ => 1
  | .nil => 1
  | .ptr d => uptoBulk d + 1
  | .slice elems spare => uptoBulkAll elems + uptoBulkAll spare + 1
  | .agg parts => uptoBulkAll parts + 1
  | .iface _ d => uptoBulk d + 1
  | .map entries => uptoBulkEntries entries + 1
  | .held _ => 1
def uptoBulkAll {H : Type} : List (DataW H) → Nat
  | [] => 0
  | d :: r => uptoBulk d + uptoBulkAll r
def uptoBulkEntries {H : Type} : List (Lit × DataW H) → Nat
  | [] => 0
  | x :: r => uptoBulkEntry x + uptoBulkEntries r
def uptoBulkEntry {H : Type} : Lit × DataW H → Nat
  | (.string bytes, d) => bytes.length + uptoBulk d + 1
  | (_, d) => uptoBulk d + 1
 end
def uptoSmall : (H : Type) → List (DataW H) → Bool := fun _ ds => decide (uptoBulkAll ds ≤ 1048576)
def OpenSpec.upto (s : _root_.Go.ChangeSpec) : _root_.Go.OpenSpec := { _root_.Go.OpenSpec.ofChange s with cond := some uptoSmall }

/-- 'voxsatlaw.GainLevels', WHERE WHAT IT READS IS OF BULK AT MOST 1048576: true; the input reads as it did. -/
def gainLevelsUptoRow : OpenClaim := { program := "ytiamknnmgnbkgaadoor", sum := "311efa5412d676b80ad3fdb04e1d7f5654d6e3038ebb45030e76cca63f9e7b72", func := "voxsat/voxsatlaw.GainLevels", spec := "gainLevels", named := ["voxsat/dual.growth", "voxsat/voxsatref.steps"], apart := false, laid := [("voxsat/dual.growth", laid_voxsat_dual_growth), ("voxsat/voxsatref.steps", laid_voxsat_voxsatref_steps)], narrowed := true }
def GainLevelsUptoSaid : Prop := gainLevelsUptoRow.holds Tryd.pinned (OpenSpec.upto gainLevelsSpec)

/-- 'voxsatlaw.GainOnes', WHERE WHAT IT READS IS OF BULK AT MOST 1048576: true; the input reads as it did. -/
def gainOnesUptoRow : OpenClaim := { program := "ytiamknnmgnbkgaadoor", sum := "311efa5412d676b80ad3fdb04e1d7f5654d6e3038ebb45030e76cca63f9e7b72", func := "voxsat/voxsatlaw.GainOnes", spec := "gainOnes", named := ["voxsat/dual.growth", "voxsat/voxsatref.steps"], apart := false, laid := [("voxsat/dual.growth", laid_voxsat_dual_growth), ("voxsat/voxsatref.steps", laid_voxsat_voxsatref_steps)], narrowed := true }
def GainOnesUptoSaid : Prop := gainOnesUptoRow.holds Tryd.pinned (OpenSpec.upto gainOnesSpec)

/-- 'voxsatkeep.GainRises', WHERE WHAT IT READS IS OF BULK AT MOST 1048576: true; the input reads as it did. -/
def gainRisesUptoRow : OpenClaim := { program := "ytiamknnmgnbkgaadoor", sum := "311efa5412d676b80ad3fdb04e1d7f5654d6e3038ebb45030e76cca63f9e7b72", func := "voxsat/voxsatkeep.GainRises", spec := "gainRises", named := ["voxsat/dual.growth"], apart := false, laid := [("voxsat/dual.growth", laid_voxsat_dual_growth)], narrowed := true }
def GainRisesUptoSaid : Prop := gainRisesUptoRow.holds Tryd.pinned (OpenSpec.upto gainRisesSpec)

/-- 'voxsatkeep.GainNear', WHERE WHAT IT READS IS OF BULK AT MOST 1048576: true; the input reads as it did. -/
def gainNearUptoRow : OpenClaim := { program := "ytiamknnmgnbkgaadoor", sum := "311efa5412d676b80ad3fdb04e1d7f5654d6e3038ebb45030e76cca63f9e7b72", func := "voxsat/voxsatkeep.GainNear", spec := "gainNear", named := ["voxsat/dual.growth"], apart := false, laid := [("voxsat/dual.growth", laid_voxsat_dual_growth)], narrowed := true }
def GainNearUptoSaid : Prop := gainNearUptoRow.holds Tryd.pinned (OpenSpec.upto gainNearSpec)

end Rows
end Go.Proofs.YtiamknnmgnbkgaaDoor
