/-
  No cell of these rows narrows 'for every input' (looked for: loops, veiled, ifaces, maps, wideKeys, modest, calm, conditions, laid).
  DERIVED. THE GIVEN ROWS OF THIS SEAT. 6 by the template 'for every input the law returns true; each argument reads behind the call as it read before'; 0 by the template 'total and deterministic' (their statements: YtkkalbogcnojmaaTotals.lean).
  GIVEN WITH THE SEED: the statements are not yours to turn. If you find one false, say at which input.
  Laid BY PROGRAM, IN A SANDBOX (cutbox-rows.mjs): the forced cells as the released guide's own fill.sh prints them over the translation 273300ff2bbf5357… (all of the seat's roots in one cut). By AI agents, Wed Nov 11 2026. No macro, syntax, notation, axiom, sorry.
-/
import Derived.Test.YtkkalbogcnojmaaChecked
import GoSem.Claim
import GoSem.ClaimJoined
import GoSem.ClaimMapViews
import Derived.JoinedTies
import Derived.KernelRfl
namespace Go.Proofs.Ytkkalbogcnojmaa
/- THE CELL 'sum', in the pinned program and in every row, IS THE sha256 OF THE DUMP (.gsa) THAT YtkkalbogcnojmaaProg.lean LOADS. Nothing in Lean hashes anything: it is a label: what it is worth is what the hold of that sum in a sandbox is worth. -/
noncomputable def Try.pinned : Pinned := { name := "ytkkalbogcnojmaa", sum := "273300ff2bbf5357b36d1606827b18bb9ad0104cfb9e761615abc333b68fc650", checked := Try.checked }
namespace Rows
def none {H : Type} : Left H := { results := [], args := [] }

/-- 'voxsatlaw.SynthMakes': WHATEVER THE INPUT: true; the input reads as it did. -/
def synthMakesSpec : ChangeSpec := { name := "synthMakes", fn := fun _ => fun
  | [d1, d2, d3] => { results := [.lit (.bool true)], args := [d1, d2, d3] }
  | _ => none }
def synthMakesRow : OpenClaim := { program := "ytkkalbogcnojmaa", sum := "273300ff2bbf5357b36d1606827b18bb9ad0104cfb9e761615abc333b68fc650", func := "voxsat/voxsatlaw.SynthMakes", spec := "synthMakes", apart := false }
def SynthMakesSaid : Prop := synthMakesRow.holds Try.pinned (OpenSpec.ofChange synthMakesSpec)

/-- ITS FALSE NEIGHBOUR: 'it returns false'. Refute it at one input. -/
def synthMakesWrong : ChangeSpec := { name := "synthMakes", fn := fun _ => fun
  | [d1, d2, d3] => { results := [.lit (.bool false)], args := [d1, d2, d3] }
  | _ => none }
def SynthMakesWrongFalsely : Prop := synthMakesRow.holds Try.pinned (OpenSpec.ofChange synthMakesWrong)

/-- 'voxsatlaw.SynthUndoes': WHATEVER THE INPUT: true; the input reads as it did. -/
def synthUndoesSpec : ChangeSpec := { name := "synthUndoes", fn := fun _ => fun
  | [d1, d2, d3] => { results := [.lit (.bool true)], args := [d1, d2, d3] }
  | _ => none }
def synthUndoesRow : OpenClaim := { program := "ytkkalbogcnojmaa", sum := "273300ff2bbf5357b36d1606827b18bb9ad0104cfb9e761615abc333b68fc650", func := "voxsat/voxsatlaw.SynthUndoes", spec := "synthUndoes", apart := false }
def SynthUndoesSaid : Prop := synthUndoesRow.holds Try.pinned (OpenSpec.ofChange synthUndoesSpec)

/-- ITS FALSE NEIGHBOUR: 'it returns false'. Refute it at one input. -/
def synthUndoesWrong : ChangeSpec := { name := "synthUndoes", fn := fun _ => fun
  | [d1, d2, d3] => { results := [.lit (.bool false)], args := [d1, d2, d3] }
  | _ => none }
def SynthUndoesWrongFalsely : Prop := synthUndoesRow.holds Try.pinned (OpenSpec.ofChange synthUndoesWrong)

/-- 'voxsatlaw.SynthRings': WHATEVER THE INPUT: true; the input reads as it did. -/
def synthRingsSpec : ChangeSpec := { name := "synthRings", fn := fun _ => fun
  | [d1, d2] => { results := [.lit (.bool true)], args := [d1, d2] }
  | _ => none }
def synthRingsRow : OpenClaim := { program := "ytkkalbogcnojmaa", sum := "273300ff2bbf5357b36d1606827b18bb9ad0104cfb9e761615abc333b68fc650", func := "voxsat/voxsatlaw.SynthRings", spec := "synthRings", apart := false }
def SynthRingsSaid : Prop := synthRingsRow.holds Try.pinned (OpenSpec.ofChange synthRingsSpec)

/-- ITS FALSE NEIGHBOUR: 'it returns false'. Refute it at one input. -/
def synthRingsWrong : ChangeSpec := { name := "synthRings", fn := fun _ => fun
  | [d1, d2] => { results := [.lit (.bool false)], args := [d1, d2] }
  | _ => none }
def SynthRingsWrongFalsely : Prop := synthRingsRow.holds Try.pinned (OpenSpec.ofChange synthRingsWrong)

/-- 'voxsatlaw.SynthFolds': WHATEVER THE INPUT: true; the input reads as it did. -/
def synthFoldsSpec : ChangeSpec := { name := "synthFolds", fn := fun _ => fun
  | [d1, d2] => { results := [.lit (.bool true)], args := [d1, d2] }
  | _ => none }
def synthFoldsRow : OpenClaim := { program := "ytkkalbogcnojmaa", sum := "273300ff2bbf5357b36d1606827b18bb9ad0104cfb9e761615abc333b68fc650", func := "voxsat/voxsatlaw.SynthFolds", spec := "synthFolds", apart := false }
def SynthFoldsSaid : Prop := synthFoldsRow.holds Try.pinned (OpenSpec.ofChange synthFoldsSpec)

/-- ITS FALSE NEIGHBOUR: 'it returns false'. Refute it at one input. -/
def synthFoldsWrong : ChangeSpec := { name := "synthFolds", fn := fun _ => fun
  | [d1, d2] => { results := [.lit (.bool false)], args := [d1, d2] }
  | _ => none }
def SynthFoldsWrongFalsely : Prop := synthFoldsRow.holds Try.pinned (OpenSpec.ofChange synthFoldsWrong)

/-- 'voxsatkeep.SynthBack': WHATEVER THE INPUT: true; the input reads as it did. -/
def synthBackSpec : ChangeSpec := { name := "synthBack", fn := fun _ => fun
  | [d1, d2, d3] => { results := [.lit (.bool true)], args := [d1, d2, d3] }
  | _ => none }
def synthBackRow : OpenClaim := { program := "ytkkalbogcnojmaa", sum := "273300ff2bbf5357b36d1606827b18bb9ad0104cfb9e761615abc333b68fc650", func := "voxsat/voxsatkeep.SynthBack", spec := "synthBack", apart := false }
def SynthBackSaid : Prop := synthBackRow.holds Try.pinned (OpenSpec.ofChange synthBackSpec)

/-- ITS FALSE NEIGHBOUR: 'it returns false'. Refute it at one input. -/
def synthBackWrong : ChangeSpec := { name := "synthBack", fn := fun _ => fun
  | [d1, d2, d3] => { results := [.lit (.bool false)], args := [d1, d2, d3] }
  | _ => none }
def SynthBackWrongFalsely : Prop := synthBackRow.holds Try.pinned (OpenSpec.ofChange synthBackWrong)

/-- 'voxsatkeep.SynthCut': WHATEVER THE INPUT: true; the input reads as it did. -/
def synthCutSpec : ChangeSpec := { name := "synthCut", fn := fun _ => fun
  | [d1, d2, d3, d4] => { results := [.lit (.bool true)], args := [d1, d2, d3, d4] }
  | _ => none }
def synthCutRow : OpenClaim := { program := "ytkkalbogcnojmaa", sum := "273300ff2bbf5357b36d1606827b18bb9ad0104cfb9e761615abc333b68fc650", func := "voxsat/voxsatkeep.SynthCut", spec := "synthCut", apart := false }
def SynthCutSaid : Prop := synthCutRow.holds Try.pinned (OpenSpec.ofChange synthCutSpec)

/-- ITS FALSE NEIGHBOUR: 'it returns false'. Refute it at one input. -/
def synthCutWrong : ChangeSpec := { name := "synthCut", fn := fun _ => fun
  | [d1, d2, d3, d4] => { results := [.lit (.bool false)], args := [d1, d2, d3, d4] }
  | _ => none }
def SynthCutWrongFalsely : Prop := synthCutRow.holds Try.pinned (OpenSpec.ofChange synthCutWrong)

/- THE SECOND FORM. 'bulk': how many values and letters a reading holds, each counted each time it is reached (what is shared counts as often as it is met; a slice's spare places count too). A statement '..UptoSaid' is the law's where the arguments, and the package variables that the reading takes, are together of bulk at most 1048576: NARROWER than '..Said'. Prove '..Said' where nothing that the law and all that it calls make is longer than what came in: it says more and counts as full. Else prove '..UptoSaid'. A law counts once. -/
mutual
def uptoBulk {H : Type} : DataW H → Nat
  | .lit (.string bytes) => bytes.length + 1
  | .lit _ => 1
  | .nil => 1
  | .ptr d => uptoBulk d + 1
  | .slice elems spare => uptoBulkAll elems + uptoBulkAll spare + 1
  | .agg parts => uptoBulkAll parts + 1
  | .iface _ d => uptoBulk d + 1
  | .map entries => uptoBulkEntries entries + 1
  | .held _ => 1
def uptoBulkAll {H : Type} : List (DataW H) → Nat
  | [] => 0
  | d :: r => uptoBulk d + uptoBulkAll r
def uptoBulkEntries {H : Type} : List (Lit × DataW H) → Nat
  | [] => 0
  | x :: r => uptoBulkEntry x + uptoBulkEntries r
def uptoBulkEntry {H : Type} : Lit × DataW H → Nat
  | (.string bytes, d) => bytes.length + uptoBulk d + 1
  | (_, d) => uptoBulk d + 1
 end
def uptoSmall : (H : Type) → List (DataW H) → Bool := fun _ ds => decide (uptoBulkAll ds ≤ 1048576)
def OpenSpec.upto (s : _root_.Go.ChangeSpec) : _root_.Go.OpenSpec := { _root_.Go.OpenSpec.ofChange s with cond := some uptoSmall }

/-- 'voxsatlaw.SynthMakes', WHERE WHAT IT READS IS OF BULK AT MOST 1048576: true; the input reads as it did. -/
def synthMakesUptoRow : OpenClaim := { program := "ytkkalbogcnojmaa", sum := "273300ff2bbf5357b36d1606827b18bb9ad0104cfb9e761615abc333b68fc650", func := "voxsat/voxsatlaw.SynthMakes", spec := "synthMakes", apart := false, narrowed := true }
def SynthMakesUptoSaid : Prop := synthMakesUptoRow.holds Try.pinned (OpenSpec.upto synthMakesSpec)

/-- 'voxsatlaw.SynthUndoes', WHERE WHAT IT READS IS OF BULK AT MOST 1048576: true; the input reads as it did. -/
def synthUndoesUptoRow : OpenClaim := { program := "ytkkalbogcnojmaa", sum := "273300ff2bbf5357b36d1606827b18bb9ad0104cfb9e761615abc333b68fc650", func := "voxsat/voxsatlaw.SynthUndoes", spec := "synthUndoes", apart := false, narrowed := true }
def SynthUndoesUptoSaid : Prop := synthUndoesUptoRow.holds Try.pinned (OpenSpec.upto synthUndoesSpec)

/-- 'voxsatlaw.SynthRings', WHERE WHAT IT READS IS OF BULK AT MOST 1048576: true; the input reads as it did. -/
def synthRingsUptoRow : OpenClaim := { program := "ytkkalbogcnojmaa", sum := "273300ff2bbf5357b36d1606827b18bb9ad0104cfb9e761615abc333b68fc650", func := "voxsat/voxsatlaw.SynthRings", spec := "synthRings", apart := false, narrowed := true }
def SynthRingsUptoSaid : Prop := synthRingsUptoRow.holds Try.pinned (OpenSpec.upto synthRingsSpec)

/-- 'voxsatlaw.SynthFolds', WHERE WHAT IT READS IS OF BULK AT MOST 1048576: true; the input reads as it did. -/
def synthFoldsUptoRow : OpenClaim := { program := "ytkkalbogcnojmaa", sum := "273300ff2bbf5357b36d1606827b18bb9ad0104cfb9e761615abc333b68fc650", func := "voxsat/voxsatlaw.SynthFolds", spec := "synthFolds", apart := false, narrowed := true }
def SynthFoldsUptoSaid : Prop := synthFoldsUptoRow.holds Try.pinned (OpenSpec.upto synthFoldsSpec)

/-- 'voxsatkeep.SynthBack', WHERE WHAT IT READS IS OF BULK AT MOST 1048576: true; the input reads as it did. -/
def synthBackUptoRow : OpenClaim := { program := "ytkkalbogcnojmaa", sum := "273300ff2bbf5357b36d1606827b18bb9ad0104cfb9e761615abc333b68fc650", func := "voxsat/voxsatkeep.SynthBack", spec := "synthBack", apart := false, narrowed := true }
def SynthBackUptoSaid : Prop := synthBackUptoRow.holds Try.pinned (OpenSpec.upto synthBackSpec)

/-- 'voxsatkeep.SynthCut', WHERE WHAT IT READS IS OF BULK AT MOST 1048576: true; the input reads as it did. -/
def synthCutUptoRow : OpenClaim := { program := "ytkkalbogcnojmaa", sum := "273300ff2bbf5357b36d1606827b18bb9ad0104cfb9e761615abc333b68fc650", func := "voxsat/voxsatkeep.SynthCut", spec := "synthCut", apart := false, narrowed := true }
def SynthCutUptoSaid : Prop := synthCutUptoRow.holds Try.pinned (OpenSpec.upto synthCutSpec)

end Rows
end Go.Proofs.Ytkkalbogcnojmaa
