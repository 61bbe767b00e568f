/-
  NARROWER THAN 'FOR EVERY INPUT', by the rows' own cells (each row's printed sentence says how): QuantLevels: laid · QuantOnes: laid · QuantAlls: laid · QuantBack: laid · QuantRises: laid · QuantNear: laid.
  DERIVED. THE GIVEN ROWS OF THIS SEAT. 6 by the template 'for every input the law returns true; each argument reads behind the call as it read before'; 0 by the template 'total and deterministic' (their statements: YtilomkjjflcdjaaDoorTotals.lean).
  GIVEN WITH THE SEED: the statements are not yours to turn. If you find one false, say at which input.
  Laid BY PROGRAM, IN A SANDBOX (cutbox-rows.mjs): the forced cells as the released guide's own fill.sh prints them over the translation 9232180015872e9e… (all of the seat's roots in one cut). By AI agents, Wed Nov 11 2026. No macro, syntax, notation, axiom, sorry.
-/
import Derived.Test.YtilomkjjflcdjaaDoorChecked
import GoSem.Claim
import GoSem.ClaimJoined
import GoSem.ClaimMapViews
import Derived.JoinedTies
import Derived.KernelRfl
namespace Go.Proofs.YtilomkjjflcdjaaDoor
/- THE CELL 'sum', in the pinned program and in every row, IS THE sha256 OF THE DUMP (.gsa) THAT YtilomkjjflcdjaaDoorProg.lean LOADS. Nothing in Lean hashes anything: it is a label: what it is worth is what the hold of that sum in a sandbox is worth. -/
noncomputable def Tryd.pinned : Pinned := { name := "ytilomkjjflcdjaadoor", sum := "9232180015872e9ea2b3df9e0c4d5df8227db5aaab0b1469069d74907ee61712", checked := Tryd.checked }
namespace Rows
def none {H : Type} : Left H := { results := [], args := [] }

/- WHAT THE LISTED PACKAGE-LEVEL VARIABLES READ AS WHEN THE CALL BEGINS. Each datum BY PROGRAM (the guide's laid-datum.mjs) off the statement by which the dump's own 'gosem.cut.vars' lays the variable. In a bare row this is a premise. The card (YtilomkjjflcdjaaDoorCards.lean) ties it to the program's text. -/
def laid_voxsat_quant_widths {H : Type} : DataW H := .agg [.lit (.int .i64 6), .lit (.int .i64 6), .lit (.int .i64 5), .lit (.int .i64 5), .lit (.int .i64 4), .lit (.int .i64 4), .lit (.int .i64 3), .lit (.int .i64 3)]
def laid_voxsat_voxsatref_widths {H : Type} : DataW H := .slice [.lit (.int .i64 6), .lit (.int .i64 6), .lit (.int .i64 5), .lit (.int .i64 5), .lit (.int .i64 4), .lit (.int .i64 4), .lit (.int .i64 3), .lit (.int .i64 3)] []

/-- 'voxsatlaw.QuantLevels': WHATEVER THE INPUT: true; the input reads as it did. -/
def quantLevelsSpec : ChangeSpec := { name := "quantLevels", fn := fun _ => fun
  | [d1, d2] => { results := [.lit (.bool true)], args := [d1, d2] }
  | _ => none }
def quantLevelsRow : OpenClaim := { program := "ytilomkjjflcdjaadoor", sum := "9232180015872e9ea2b3df9e0c4d5df8227db5aaab0b1469069d74907ee61712", func := "voxsat/voxsatlaw.QuantLevels", spec := "quantLevels", recurses := true, named := ["voxsat/quant.widths", "voxsat/voxsatref.widths"], apart := false, laid := [("voxsat/quant.widths", laid_voxsat_quant_widths), ("voxsat/voxsatref.widths", laid_voxsat_voxsatref_widths)] }
def QuantLevelsSaid : Prop := quantLevelsRow.holds Tryd.pinned (OpenSpec.ofChange quantLevelsSpec)

/-- ITS FALSE NEIGHBOUR: 'it returns false'. Refute it at one input. -/
def quantLevelsWrong : ChangeSpec := { name := "quantLevels", fn := fun _ => fun
  | [d1, d2] => { results := [.lit (.bool false)], args := [d1, d2] }
  | _ => none }
def QuantLevelsWrongFalsely : Prop := quantLevelsRow.holds Tryd.pinned (OpenSpec.ofChange quantLevelsWrong)

/-- 'voxsatlaw.QuantOnes': WHATEVER THE INPUT: true; the input reads as it did. -/
def quantOnesSpec : ChangeSpec := { name := "quantOnes", fn := fun _ => fun
  | [d1, d2] => { results := [.lit (.bool true)], args := [d1, d2] }
  | _ => none }
def quantOnesRow : OpenClaim := { program := "ytilomkjjflcdjaadoor", sum := "9232180015872e9ea2b3df9e0c4d5df8227db5aaab0b1469069d74907ee61712", func := "voxsat/voxsatlaw.QuantOnes", spec := "quantOnes", recurses := true, named := ["voxsat/quant.widths", "voxsat/voxsatref.widths"], apart := false, laid := [("voxsat/quant.widths", laid_voxsat_quant_widths), ("voxsat/voxsatref.widths", laid_voxsat_voxsatref_widths)] }
def QuantOnesSaid : Prop := quantOnesRow.holds Tryd.pinned (OpenSpec.ofChange quantOnesSpec)

/-- ITS FALSE NEIGHBOUR: 'it returns false'. Refute it at one input. -/
def quantOnesWrong : ChangeSpec := { name := "quantOnes", fn := fun _ => fun
  | [d1, d2] => { results := [.lit (.bool false)], args := [d1, d2] }
  | _ => none }
def QuantOnesWrongFalsely : Prop := quantOnesRow.holds Tryd.pinned (OpenSpec.ofChange quantOnesWrong)

/-- 'voxsatlaw.QuantAlls': WHATEVER THE INPUT: true; the input reads as it did. -/
def quantAllsSpec : ChangeSpec := { name := "quantAlls", fn := fun _ => fun
  | [d] => { results := [.lit (.bool true)], args := [d] }
  | _ => none }
def quantAllsRow : OpenClaim := { program := "ytilomkjjflcdjaadoor", sum := "9232180015872e9ea2b3df9e0c4d5df8227db5aaab0b1469069d74907ee61712", func := "voxsat/voxsatlaw.QuantAlls", spec := "quantAlls", unfollowed := true, recurses := true, named := ["voxsat/quant.widths", "voxsat/voxsatref.widths"], apart := false, laid := [("voxsat/quant.widths", laid_voxsat_quant_widths), ("voxsat/voxsatref.widths", laid_voxsat_voxsatref_widths)] }
def QuantAllsSaid : Prop := quantAllsRow.holds Tryd.pinned (OpenSpec.ofChange quantAllsSpec)

/-- ITS FALSE NEIGHBOUR: 'it returns false'. Refute it at one input. -/
def quantAllsWrong : ChangeSpec := { name := "quantAlls", fn := fun _ => fun
  | [d] => { results := [.lit (.bool false)], args := [d] }
  | _ => none }
def QuantAllsWrongFalsely : Prop := quantAllsRow.holds Tryd.pinned (OpenSpec.ofChange quantAllsWrong)

/-- 'voxsatkeep.QuantBack': WHATEVER THE INPUT: true; the input reads as it did. -/
def quantBackSpec : ChangeSpec := { name := "quantBack", fn := fun _ => fun
  | [d1, d2] => { results := [.lit (.bool true)], args := [d1, d2] }
  | _ => none }
def quantBackRow : OpenClaim := { program := "ytilomkjjflcdjaadoor", sum := "9232180015872e9ea2b3df9e0c4d5df8227db5aaab0b1469069d74907ee61712", func := "voxsat/voxsatkeep.QuantBack", spec := "quantBack", recurses := true, named := ["voxsat/quant.widths"], apart := false, laid := [("voxsat/quant.widths", laid_voxsat_quant_widths)] }
def QuantBackSaid : Prop := quantBackRow.holds Tryd.pinned (OpenSpec.ofChange quantBackSpec)

/-- ITS FALSE NEIGHBOUR: 'it returns false'. Refute it at one input. -/
def quantBackWrong : ChangeSpec := { name := "quantBack", fn := fun _ => fun
  | [d1, d2] => { results := [.lit (.bool false)], args := [d1, d2] }
  | _ => none }
def QuantBackWrongFalsely : Prop := quantBackRow.holds Tryd.pinned (OpenSpec.ofChange quantBackWrong)

/-- 'voxsatkeep.QuantRises': WHATEVER THE INPUT: true; the input reads as it did. -/
def quantRisesSpec : ChangeSpec := { name := "quantRises", fn := fun _ => fun
  | [d1, d2] => { results := [.lit (.bool true)], args := [d1, d2] }
  | _ => none }
def quantRisesRow : OpenClaim := { program := "ytilomkjjflcdjaadoor", sum := "9232180015872e9ea2b3df9e0c4d5df8227db5aaab0b1469069d74907ee61712", func := "voxsat/voxsatkeep.QuantRises", spec := "quantRises", recurses := true, named := ["voxsat/quant.widths"], apart := false, laid := [("voxsat/quant.widths", laid_voxsat_quant_widths)] }
def QuantRisesSaid : Prop := quantRisesRow.holds Tryd.pinned (OpenSpec.ofChange quantRisesSpec)

/-- ITS FALSE NEIGHBOUR: 'it returns false'. Refute it at one input. -/
def quantRisesWrong : ChangeSpec := { name := "quantRises", fn := fun _ => fun
  | [d1, d2] => { results := [.lit (.bool false)], args := [d1, d2] }
  | _ => none }
def QuantRisesWrongFalsely : Prop := quantRisesRow.holds Tryd.pinned (OpenSpec.ofChange quantRisesWrong)

/-- 'voxsatkeep.QuantNear': WHATEVER THE INPUT: true; the input reads as it did. -/
def quantNearSpec : ChangeSpec := { name := "quantNear", fn := fun _ => fun
  | [d1, d2, d3] => { results := [.lit (.bool true)], args := [d1, d2, d3] }
  | _ => none }
def quantNearRow : OpenClaim := { program := "ytilomkjjflcdjaadoor", sum := "9232180015872e9ea2b3df9e0c4d5df8227db5aaab0b1469069d74907ee61712", func := "voxsat/voxsatkeep.QuantNear", spec := "quantNear", recurses := true, named := ["voxsat/quant.widths"], apart := false, laid := [("voxsat/quant.widths", laid_voxsat_quant_widths)] }
def QuantNearSaid : Prop := quantNearRow.holds Tryd.pinned (OpenSpec.ofChange quantNearSpec)

/-- ITS FALSE NEIGHBOUR: 'it returns false'. Refute it at one input. -/
def quantNearWrong : ChangeSpec := { name := "quantNear", fn := fun _ => fun
  | [d1, d2, d3] => { results := [.lit (.bool false)], args := [d1, d2, d3] }
  | _ => none }
def QuantNearWrongFalsely : Prop := quantNearRow.holds Tryd.pinned (OpenSpec.ofChange quantNearWrong)

/- THE SECOND FORM. 'bulk': how many values and letters a reading holds, each counted each time it is reached (what is shared counts as often as it is met; a slice's spare places count too). A statement '..UptoSaid' is the law's where the arguments, and the package variables that the reading takes, are together of bulk at most 1048576: NARROWER than '..Said'. Prove '..Said' where nothing that the law and all that it calls make is longer than what came in: it says more and counts as full. Else prove '..UptoSaid'. A law counts once. -/
mutual
def uptoBulk {H : Type} : DataW H → Nat
  | .lit (.string bytes) => bytes.length + 1
  | .lit _ => 1
  | .nil => 1
  | .ptr d => uptoBulk d + 1
  | .slice elems spare => uptoBulkAll elems + uptoBulkAll spare + 1
  | .agg parts => uptoBulkAll parts + 1
  | .iface _ d => uptoBulk d + 1
  | .map entries => uptoBulkEntries entries + 1
  | .held _ => 1
def uptoBulkAll {H : Type} : List (DataW H) → Nat
  | [] => 0
  | d :: r => uptoBulk d + uptoBulkAll r
def uptoBulkEntries {H : Type} : List (Lit × DataW H) → Nat
  | [] => 0
  | x :: r => uptoBulkEntry x + uptoBulkEntries r
def uptoBulkEntry {H : Type} : Lit × DataW H → Nat
  | (.string bytes, d) => bytes.length + uptoBulk d + 1
  | (_, d) => uptoBulk d + 1
 end
def uptoSmall : (H : Type) → List (DataW H) → Bool := fun _ ds => decide (uptoBulkAll ds ≤ 1048576)
def OpenSpec.upto (s : _root_.Go.ChangeSpec) : _root_.Go.OpenSpec := { _root_.Go.OpenSpec.ofChange s with cond := some uptoSmall }

/-- 'voxsatlaw.QuantLevels', WHERE WHAT IT READS IS OF BULK AT MOST 1048576: true; the input reads as it did. -/
def quantLevelsUptoRow : OpenClaim := { program := "ytilomkjjflcdjaadoor", sum := "9232180015872e9ea2b3df9e0c4d5df8227db5aaab0b1469069d74907ee61712", func := "voxsat/voxsatlaw.QuantLevels", spec := "quantLevels", recurses := true, named := ["voxsat/quant.widths", "voxsat/voxsatref.widths"], apart := false, laid := [("voxsat/quant.widths", laid_voxsat_quant_widths), ("voxsat/voxsatref.widths", laid_voxsat_voxsatref_widths)], narrowed := true }
def QuantLevelsUptoSaid : Prop := quantLevelsUptoRow.holds Tryd.pinned (OpenSpec.upto quantLevelsSpec)

/-- 'voxsatlaw.QuantOnes', WHERE WHAT IT READS IS OF BULK AT MOST 1048576: true; the input reads as it did. -/
def quantOnesUptoRow : OpenClaim := { program := "ytilomkjjflcdjaadoor", sum := "9232180015872e9ea2b3df9e0c4d5df8227db5aaab0b1469069d74907ee61712", func := "voxsat/voxsatlaw.QuantOnes", spec := "quantOnes", recurses := true, named := ["voxsat/quant.widths", "voxsat/voxsatref.widths"], apart := false, laid := [("voxsat/quant.widths", laid_voxsat_quant_widths), ("voxsat/voxsatref.widths", laid_voxsat_voxsatref_widths)], narrowed := true }
def QuantOnesUptoSaid : Prop := quantOnesUptoRow.holds Tryd.pinned (OpenSpec.upto quantOnesSpec)

/-- 'voxsatlaw.QuantAlls', WHERE WHAT IT READS IS OF BULK AT MOST 1048576: true; the input reads as it did. -/
def quantAllsUptoRow : OpenClaim := { program := "ytilomkjjflcdjaadoor", sum := "9232180015872e9ea2b3df9e0c4d5df8227db5aaab0b1469069d74907ee61712", func := "voxsat/voxsatlaw.QuantAlls", spec := "quantAlls", unfollowed := true, recurses := true, named := ["voxsat/quant.widths", "voxsat/voxsatref.widths"], apart := false, laid := [("voxsat/quant.widths", laid_voxsat_quant_widths), ("voxsat/voxsatref.widths", laid_voxsat_voxsatref_widths)], narrowed := true }
def QuantAllsUptoSaid : Prop := quantAllsUptoRow.holds Tryd.pinned (OpenSpec.upto quantAllsSpec)

/-- 'voxsatkeep.QuantBack', WHERE WHAT IT READS IS OF BULK AT MOST 1048576: true; the input reads as it did. -/
def quantBackUptoRow : OpenClaim := { program := "ytilomkjjflcdjaadoor", sum := "9232180015872e9ea2b3df9e0c4d5df8227db5aaab0b1469069d74907ee61712", func := "voxsat/voxsatkeep.QuantBack", spec := "quantBack", recurses := true, named := ["voxsat/quant.widths"], apart := false, laid := [("voxsat/quant.widths", laid_voxsat_quant_widths)], narrowed := true }
def QuantBackUptoSaid : Prop := quantBackUptoRow.holds Tryd.pinned (OpenSpec.upto quantBackSpec)

/-- 'voxsatkeep.QuantRises', WHERE WHAT IT READS IS OF BULK AT MOST 1048576: true; the input reads as it did. -/
def quantRisesUptoRow : OpenClaim := { program := "ytilomkjjflcdjaadoor", sum := "9232180015872e9ea2b3df9e0c4d5df8227db5aaab0b1469069d74907ee61712", func := "voxsat/voxsatkeep.QuantRises", spec := "quantRises", recurses := true, named := ["voxsat/quant.widths"], apart := false, laid := [("voxsat/quant.widths", laid_voxsat_quant_widths)], narrowed := true }
def QuantRisesUptoSaid : Prop := quantRisesUptoRow.holds Tryd.pinned (OpenSpec.upto quantRisesSpec)

/-- 'voxsatkeep.QuantNear', WHERE WHAT IT READS IS OF BULK AT MOST 1048576: true; the input reads as it did. -/
def quantNearUptoRow : OpenClaim := { program := "ytilomkjjflcdjaadoor", sum := "9232180015872e9ea2b3df9e0c4d5df8227db5aaab0b1469069d74907ee61712", func := "voxsat/voxsatkeep.QuantNear", spec := "quantNear", recurses := true, named := ["voxsat/quant.widths"], apart := false, laid := [("voxsat/quant.widths", laid_voxsat_quant_widths)], narrowed := true }
def QuantNearUptoSaid : Prop := quantNearUptoRow.holds Tryd.pinned (OpenSpec.upto quantNearSpec)

end Rows
end Go.Proofs.YtilomkjjflcdjaaDoor
