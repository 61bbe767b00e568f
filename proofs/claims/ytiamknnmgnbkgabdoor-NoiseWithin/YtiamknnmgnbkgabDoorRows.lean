/-
  NARROWER THAN 'FOR EVERY INPUT', by the rows' own cells (each row's printed sentence says how): FadeFalls: laid · NoiseWithin: laid.
  DERIVED. THE GIVEN ROWS OF THIS SEAT. 2 by the template 'for every input the law returns true; each argument reads behind the call as it read before'; 0 by the template 'total and deterministic' (their statements: YtiamknnmgnbkgabDoorTotals.lean).
  GIVEN WITH THE SEED: the statements are not yours to turn. If you find one false, say at which input.
  Laid BY PROGRAM, IN A SANDBOX (cutbox-rows.mjs): the forced cells as the released guide's own fill.sh prints them over the translation c051d1cd0259b126… (all of the seat's roots in one cut). By AI agents, Wed Nov 11 2026. No macro, syntax, notation, axiom, sorry.
-/
import Derived.Test.YtiamknnmgnbkgabDoorChecked
import GoSem.Claim
import GoSem.ClaimJoined
import GoSem.ClaimMapViews
import Derived.JoinedTies
import Derived.KernelRfl
namespace Go.Proofs.YtiamknnmgnbkgabDoor
/- THE CELL 'sum', in the pinned program and in every row, IS THE sha256 OF THE DUMP (.gsa) THAT YtiamknnmgnbkgabDoorProg.lean LOADS. Nothing in Lean hashes anything: it is a label: what it is worth is what the hold of that sum in a sandbox is worth. -/
noncomputable def Tryd.pinned : Pinned := { name := "ytiamknnmgnbkgabdoor", sum := "c051d1cd0259b126c91f62dd049058001435c2abe6694cbaee07f500c9bbee3b", checked := Tryd.checked }
namespace Rows
def none {H : Type} : Left H := { results := [], args := [] }

/- WHAT THE LISTED PACKAGE-LEVEL VARIABLES READ AS WHEN THE CALL BEGINS. Each datum BY PROGRAM (the guide's laid-datum.mjs) off the statement by which the dump's own 'gosem.cut.vars' lays the variable. In a bare row this is a premise. The card (YtiamknnmgnbkgabDoorCards.lean) ties it to the program's text. -/
def laid_voxsat_dual_growth {H : Type} : DataW H := .agg [.lit (.int .i64 444758425), .lit (.int .i64 203159592), .lit (.int .i64 97181937), .lit (.int .i64 47538611), .lit (.int .i64 23511884), .lit (.int .i64 11692281), .lit (.int .i64 5830311), .lit (.int .i64 2911209), .lit (.int .i64 1454619), .lit (.int .i64 727063), .lit (.int .i64 363470), .lit (.int .i64 181719), .lit (.int .i64 90856), .lit (.int .i64 45427), .lit (.int .i64 22713)]

/-- 'voxsatkeep.FadeFalls': WHATEVER THE INPUT: true; the input reads as it did. -/
def fadeFallsSpec : ChangeSpec := { name := "fadeFalls", fn := fun _ => fun
  | [d1, d2] => { results := [.lit (.bool true)], args := [d1, d2] }
  | _ => none }
def fadeFallsRow : OpenClaim := { program := "ytiamknnmgnbkgabdoor", sum := "c051d1cd0259b126c91f62dd049058001435c2abe6694cbaee07f500c9bbee3b", func := "voxsat/voxsatkeep.FadeFalls", spec := "fadeFalls", named := ["voxsat/dual.growth"], apart := false, laid := [("voxsat/dual.growth", laid_voxsat_dual_growth)] }
def FadeFallsSaid : Prop := fadeFallsRow.holds Tryd.pinned (OpenSpec.ofChange fadeFallsSpec)

/-- ITS FALSE NEIGHBOUR: 'it returns false'. Refute it at one input. -/
def fadeFallsWrong : ChangeSpec := { name := "fadeFalls", fn := fun _ => fun
  | [d1, d2] => { results := [.lit (.bool false)], args := [d1, d2] }
  | _ => none }
def FadeFallsWrongFalsely : Prop := fadeFallsRow.holds Tryd.pinned (OpenSpec.ofChange fadeFallsWrong)

/-- 'voxsatkeep.NoiseWithin': WHATEVER THE INPUT: true; the input reads as it did. -/
def noiseWithinSpec : ChangeSpec := { name := "noiseWithin", fn := fun _ => fun
  | [d1, d2] => { results := [.lit (.bool true)], args := [d1, d2] }
  | _ => none }
def noiseWithinRow : OpenClaim := { program := "ytiamknnmgnbkgabdoor", sum := "c051d1cd0259b126c91f62dd049058001435c2abe6694cbaee07f500c9bbee3b", func := "voxsat/voxsatkeep.NoiseWithin", spec := "noiseWithin", named := ["voxsat/dual.growth"], apart := false, laid := [("voxsat/dual.growth", laid_voxsat_dual_growth)] }
def NoiseWithinSaid : Prop := noiseWithinRow.holds Tryd.pinned (OpenSpec.ofChange noiseWithinSpec)

/-- ITS FALSE NEIGHBOUR: 'it returns false'. Refute it at one input. -/
def noiseWithinWrong : ChangeSpec := { name := "noiseWithin", fn := fun _ => fun
  | [d1, d2] => { results := [.lit (.bool false)], args := [d1, d2] }
  | _ => none }
def NoiseWithinWrongFalsely : Prop := noiseWithinRow.holds Tryd.pinned (OpenSpec.ofChange noiseWithinWrong)

/- THE SECOND FORM. 'bulk': how many values and letters a reading holds, each counted each time it is reached (what is shared counts as often as it is met; a slice's spare places count too). A statement '..UptoSaid' is the law's where the arguments, and the package variables that the reading takes, are together of bulk at most 1048576: NARROWER than '..Said'. Prove '..Said' where nothing that the law and all that it calls make is longer than what came in: it says more and counts as full. Else prove '..UptoSaid'. A law counts once. -/
mutual
def uptoBulk {H : Type} : DataW H → Nat
  | .lit (.string bytes) => bytes.length + 1
  | .lit _ => 1
  | .nil => 1
  | .ptr d => uptoBulk d + 1
  | .slice elems spare => uptoBulkAll elems + uptoBulkAll spare + 1
  | .agg parts => uptoBulkAll parts + 1
  | .iface _ d => uptoBulk d + 1
  | .map entries => uptoBulkEntries entries + 1
  | .held _ => 1
def uptoBulkAll {H : Type} : List (DataW H) → Nat
  | [] => 0
  | d :: r => uptoBulk d + uptoBulkAll r
def uptoBulkEntries {H : Type} : List (Lit × DataW H) → Nat
  | [] => 0
  | x :: r => uptoBulkEntry x + uptoBulkEntries r
def uptoBulkEntry {H : Type} : Lit × DataW H → Nat
  | (.string bytes, d) => bytes.length + uptoBulk d + 1
  | (_, d) => uptoBulk d + 1
 end
def uptoSmall : (H : Type) → List (DataW H) → Bool := fun _ ds => decide (uptoBulkAll ds ≤ 1048576)
def OpenSpec.upto (s : _root_.Go.ChangeSpec) : _root_.Go.OpenSpec := { _root_.Go.OpenSpec.ofChange s with cond := some uptoSmall }

/-- 'voxsatkeep.FadeFalls', WHERE WHAT IT READS IS OF BULK AT MOST 1048576: true; the input reads as it did. -/
def fadeFallsUptoRow : OpenClaim := { program := "ytiamknnmgnbkgabdoor", sum := "c051d1cd0259b126c91f62dd049058001435c2abe6694cbaee07f500c9bbee3b", func := "voxsat/voxsatkeep.FadeFalls", spec := "fadeFalls", named := ["voxsat/dual.growth"], apart := false, laid := [("voxsat/dual.growth", laid_voxsat_dual_growth)], narrowed := true }
def FadeFallsUptoSaid : Prop := fadeFallsUptoRow.holds Tryd.pinned (OpenSpec.upto fadeFallsSpec)

/-- 'voxsatkeep.NoiseWithin', WHERE WHAT IT READS IS OF BULK AT MOST 1048576: true; the input reads as it did. -/
def noiseWithinUptoRow : OpenClaim := { program := "ytiamknnmgnbkgabdoor", sum := "c051d1cd0259b126c91f62dd049058001435c2abe6694cbaee07f500c9bbee3b", func := "voxsat/voxsatkeep.NoiseWithin", spec := "noiseWithin", named := ["voxsat/dual.growth"], apart := false, laid := [("voxsat/dual.growth", laid_voxsat_dual_growth)], narrowed := true }
def NoiseWithinUptoSaid : Prop := noiseWithinUptoRow.holds Tryd.pinned (OpenSpec.upto noiseWithinSpec)

end Rows
end Go.Proofs.YtiamknnmgnbkgabDoor
