/-
  No cell of these rows narrows 'for every input' (looked for: loops, veiled, ifaces, maps, wideKeys, modest, calm, conditions, laid).
  DERIVED. THE GIVEN ROWS OF THIS SEAT. 5 by the template 'for every input the law returns true; each argument reads behind the call as it read before'; 0 by the template 'total and deterministic' (their statements: YtfeoeonhfcjmgabTotals.lean).
  GIVEN WITH THE SEED: the statements are not yours to turn. If you find one false, say at which input.
  Laid BY PROGRAM, IN A SANDBOX (cutbox-rows.mjs): the forced cells as the released guide's own fill.sh prints them over the translation e13ec34213844ebf… (all of the seat's roots in one cut). By AI agents, Wed Nov 11 2026. No macro, syntax, notation, axiom, sorry.
-/
import Derived.Test.YtfeoeonhfcjmgabChecked
import GoSem.Claim
import GoSem.ClaimJoined
import GoSem.ClaimMapViews
import Derived.JoinedTies
import Derived.KernelRfl
namespace Go.Proofs.Ytfeoeonhfcjmgab
/- THE CELL 'sum', in the pinned program and in every row, IS THE sha256 OF THE DUMP (.gsa) THAT YtfeoeonhfcjmgabProg.lean LOADS. Nothing in Lean hashes anything: it is a label: what it is worth is what the hold of that sum in a sandbox is worth. -/
noncomputable def Try.pinned : Pinned := { name := "ytfeoeonhfcjmgab", sum := "e13ec34213844ebfaedbbdf31ebbeb670c289bbe0c58e44fbf6159ecedd050d3", checked := Try.checked }
namespace Rows
def none {H : Type} : Left H := { results := [], args := [] }

/-- 'voxsatkeep.DualBack': WHATEVER THE INPUT: true; the input reads as it did. -/
def dualBackSpec : ChangeSpec := { name := "dualBack", fn := fun _ => fun
  | [d] => { results := [.lit (.bool true)], args := [d] }
  | _ => none }
def dualBackRow : OpenClaim := { program := "ytfeoeonhfcjmgab", sum := "e13ec34213844ebfaedbbdf31ebbeb670c289bbe0c58e44fbf6159ecedd050d3", func := "voxsat/voxsatkeep.DualBack", spec := "dualBack", apart := false }
def DualBackSaid : Prop := dualBackRow.holds Try.pinned (OpenSpec.ofChange dualBackSpec)

/-- ITS FALSE NEIGHBOUR: 'it returns false'. Refute it at one input. -/
def dualBackWrong : ChangeSpec := { name := "dualBack", fn := fun _ => fun
  | [d] => { results := [.lit (.bool false)], args := [d] }
  | _ => none }
def DualBackWrongFalsely : Prop := dualBackRow.holds Try.pinned (OpenSpec.ofChange dualBackWrong)

/-- 'voxsatkeep.DivNear': WHATEVER THE INPUT: true; the input reads as it did. -/
def divNearSpec : ChangeSpec := { name := "divNear", fn := fun _ => fun
  | [d1, d2] => { results := [.lit (.bool true)], args := [d1, d2] }
  | _ => none }
def divNearRow : OpenClaim := { program := "ytfeoeonhfcjmgab", sum := "e13ec34213844ebfaedbbdf31ebbeb670c289bbe0c58e44fbf6159ecedd050d3", func := "voxsat/voxsatkeep.DivNear", spec := "divNear", apart := false }
def DivNearSaid : Prop := divNearRow.holds Try.pinned (OpenSpec.ofChange divNearSpec)

/-- ITS FALSE NEIGHBOUR: 'it returns false'. Refute it at one input. -/
def divNearWrong : ChangeSpec := { name := "divNear", fn := fun _ => fun
  | [d1, d2] => { results := [.lit (.bool false)], args := [d1, d2] }
  | _ => none }
def DivNearWrongFalsely : Prop := divNearRow.holds Try.pinned (OpenSpec.ofChange divNearWrong)

/-- 'voxsatkeep.RootNear': WHATEVER THE INPUT: true; the input reads as it did. -/
def rootNearSpec : ChangeSpec := { name := "rootNear", fn := fun _ => fun
  | [d] => { results := [.lit (.bool true)], args := [d] }
  | _ => none }
def rootNearRow : OpenClaim := { program := "ytfeoeonhfcjmgab", sum := "e13ec34213844ebfaedbbdf31ebbeb670c289bbe0c58e44fbf6159ecedd050d3", func := "voxsat/voxsatkeep.RootNear", spec := "rootNear", apart := false }
def RootNearSaid : Prop := rootNearRow.holds Try.pinned (OpenSpec.ofChange rootNearSpec)

/-- ITS FALSE NEIGHBOUR: 'it returns false'. Refute it at one input. -/
def rootNearWrong : ChangeSpec := { name := "rootNear", fn := fun _ => fun
  | [d] => { results := [.lit (.bool false)], args := [d] }
  | _ => none }
def RootNearWrongFalsely : Prop := rootNearRow.holds Try.pinned (OpenSpec.ofChange rootNearWrong)

/-- 'voxsatkeep.LogRises': WHATEVER THE INPUT: true; the input reads as it did. -/
def logRisesSpec : ChangeSpec := { name := "logRises", fn := fun _ => fun
  | [d1, d2] => { results := [.lit (.bool true)], args := [d1, d2] }
  | _ => none }
def logRisesRow : OpenClaim := { program := "ytfeoeonhfcjmgab", sum := "e13ec34213844ebfaedbbdf31ebbeb670c289bbe0c58e44fbf6159ecedd050d3", func := "voxsat/voxsatkeep.LogRises", spec := "logRises", apart := false }
def LogRisesSaid : Prop := logRisesRow.holds Try.pinned (OpenSpec.ofChange logRisesSpec)

/-- ITS FALSE NEIGHBOUR: 'it returns false'. Refute it at one input. -/
def logRisesWrong : ChangeSpec := { name := "logRises", fn := fun _ => fun
  | [d1, d2] => { results := [.lit (.bool false)], args := [d1, d2] }
  | _ => none }
def LogRisesWrongFalsely : Prop := logRisesRow.holds Try.pinned (OpenSpec.ofChange logRisesWrong)

/-- 'voxsatkeep.LogWhole': WHATEVER THE INPUT: true; the input reads as it did. -/
def logWholeSpec : ChangeSpec := { name := "logWhole", fn := fun _ => fun
  | [d] => { results := [.lit (.bool true)], args := [d] }
  | _ => none }
def logWholeRow : OpenClaim := { program := "ytfeoeonhfcjmgab", sum := "e13ec34213844ebfaedbbdf31ebbeb670c289bbe0c58e44fbf6159ecedd050d3", func := "voxsat/voxsatkeep.LogWhole", spec := "logWhole", apart := false }
def LogWholeSaid : Prop := logWholeRow.holds Try.pinned (OpenSpec.ofChange logWholeSpec)

/-- ITS FALSE NEIGHBOUR: 'it returns false'. Refute it at one input. -/
def logWholeWrong : ChangeSpec := { name := "logWhole", fn := fun _ => fun
  | [d] => { results := [.lit (.bool false)], args := [d] }
  | _ => none }
def LogWholeWrongFalsely : Prop := logWholeRow.holds Try.pinned (OpenSpec.ofChange logWholeWrong)

/- THE SECOND FORM. 'bulk': how many values and letters a reading holds, each counted each time it is reached (what is shared counts as often as it is met; a slice's spare places count too). A statement '..UptoSaid' is the law's where the arguments, and the package variables that the reading takes, are together of bulk at most 1048576: NARROWER than '..Said'. Prove '..Said' where nothing that the law and all that it calls make is longer than what came in: it says more and counts as full. Else prove '..UptoSaid'. A law counts once. -/
mutual
def uptoBulk {H : Type} : DataW H → Nat
  | .lit (.string bytes) => bytes.length + 1
  | .lit _ => 1
  | .nil => 1
  | .ptr d => uptoBulk d + 1
  | .slice elems spare => uptoBulkAll elems + uptoBulkAll spare + 1
  | .agg parts => uptoBulkAll parts + 1
  | .iface _ d => uptoBulk d + 1
  | .map entries => uptoBulkEntries entries + 1
  | .held _ => 1
def uptoBulkAll {H : Type} : List (DataW H) → Nat
  | [] => 0
  | d :: r => uptoBulk d + uptoBulkAll r
def uptoBulkEntries {H : Type} : List (Lit × DataW H) → Nat
  | [] => 0
  | x :: r => uptoBulkEntry x + uptoBulkEntries r
def uptoBulkEntry {H : Type} : Lit × DataW H → Nat
  | (.string bytes, d) => bytes.length + uptoBulk d + 1
  | (_, d) => uptoBulk d + 1
 end
def uptoSmall : (H : Type) → List (DataW H) → Bool := fun _ ds => decide (uptoBulkAll ds ≤ 1048576)
def OpenSpec.upto (s : _root_.Go.ChangeSpec) : _root_.Go.OpenSpec := { _root_.Go.OpenSpec.ofChange s with cond := some uptoSmall }

/-- 'voxsatkeep.DualBack', WHERE WHAT IT READS IS OF BULK AT MOST 1048576: true; the input reads as it did. -/
def dualBackUptoRow : OpenClaim := { program := "ytfeoeonhfcjmgab", sum := "e13ec34213844ebfaedbbdf31ebbeb670c289bbe0c58e44fbf6159ecedd050d3", func := "voxsat/voxsatkeep.DualBack", spec := "dualBack", apart := false, narrowed := true }
def DualBackUptoSaid : Prop := dualBackUptoRow.holds Try.pinned (OpenSpec.upto dualBackSpec)

/-- 'voxsatkeep.DivNear', WHERE WHAT IT READS IS OF BULK AT MOST 1048576: true; the input reads as it did. -/
def divNearUptoRow : OpenClaim := { program := "ytfeoeonhfcjmgab", sum := "e13ec34213844ebfaedbbdf31ebbeb670c289bbe0c58e44fbf6159ecedd050d3", func := "voxsat/voxsatkeep.DivNear", spec := "divNear", apart := false, narrowed := true }
def DivNearUptoSaid : Prop := divNearUptoRow.holds Try.pinned (OpenSpec.upto divNearSpec)

/-- 'voxsatkeep.RootNear', WHERE WHAT IT READS IS OF BULK AT MOST 1048576: true; the input reads as it did. -/
def rootNearUptoRow : OpenClaim := { program := "ytfeoeonhfcjmgab", sum := "e13ec34213844ebfaedbbdf31ebbeb670c289bbe0c58e44fbf6159ecedd050d3", func := "voxsat/voxsatkeep.RootNear", spec := "rootNear", apart := false, narrowed := true }
def RootNearUptoSaid : Prop := rootNearUptoRow.holds Try.pinned (OpenSpec.upto rootNearSpec)

/-- 'voxsatkeep.LogRises', WHERE WHAT IT READS IS OF BULK AT MOST 1048576: true; the input reads as it did. -/
def logRisesUptoRow : OpenClaim := { program := "ytfeoeonhfcjmgab", sum := "e13ec34213844ebfaedbbdf31ebbeb670c289bbe0c58e44fbf6159ecedd050d3", func := "voxsat/voxsatkeep.LogRises", spec := "logRises", apart := false, narrowed := true }
def LogRisesUptoSaid : Prop := logRisesUptoRow.holds Try.pinned (OpenSpec.upto logRisesSpec)

/-- 'voxsatkeep.LogWhole', WHERE WHAT IT READS IS OF BULK AT MOST 1048576: true; the input reads as it did. -/
def logWholeUptoRow : OpenClaim := { program := "ytfeoeonhfcjmgab", sum := "e13ec34213844ebfaedbbdf31ebbeb670c289bbe0c58e44fbf6159ecedd050d3", func := "voxsat/voxsatkeep.LogWhole", spec := "logWhole", apart := false, narrowed := true }
def LogWholeUptoSaid : Prop := logWholeUptoRow.holds Try.pinned (OpenSpec.upto logWholeSpec)

end Rows
end Go.Proofs.Ytfeoeonhfcjmgab
