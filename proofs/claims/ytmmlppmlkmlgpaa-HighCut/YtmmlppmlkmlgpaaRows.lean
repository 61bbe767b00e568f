/-
  No cell of these rows narrows 'for every input' (looked for: loops, veiled, ifaces, maps, wideKeys, modest, calm, conditions, laid).
  DERIVED. THE GIVEN ROWS OF THIS SEAT. 6 by the template 'for every input the law returns true; each argument reads behind the call as it read before'; 0 by the template 'total and deterministic' (their statements: YtmmlppmlkmlgpaaTotals.lean).
  GIVEN WITH THE SEED: the statements are not yours to turn. If you find one false, say at which input.
  Laid BY PROGRAM, IN A SANDBOX (cutbox-rows.mjs): the forced cells as the released guide's own fill.sh prints them over the translation f046d47bd53451d4… (all of the seat's roots in one cut). By AI agents, Wed Nov 11 2026. No macro, syntax, notation, axiom, sorry.
-/
import Derived.Test.YtmmlppmlkmlgpaaChecked
import GoSem.Claim
import GoSem.ClaimJoined
import GoSem.ClaimMapViews
import Derived.JoinedTies
import Derived.KernelRfl
namespace Go.Proofs.Ytmmlppmlkmlgpaa
/- THE CELL 'sum', in the pinned program and in every row, IS THE sha256 OF THE DUMP (.gsa) THAT YtmmlppmlkmlgpaaProg.lean LOADS. Nothing in Lean hashes anything: it is a label: what it is worth is what the hold of that sum in a sandbox is worth. -/
noncomputable def Try.pinned : Pinned := { name := "ytmmlppmlkmlgpaa", sum := "f046d47bd53451d44c674500e485ac89bdc7624396b13fd0abcc4570803cca1d", checked := Try.checked }
namespace Rows
def none {H : Type} : Left H := { results := [], args := [] }

/-- 'voxsatlaw.FrontHighs': WHATEVER THE INPUT: true; the input reads as it did. -/
def frontHighsSpec : ChangeSpec := { name := "frontHighs", fn := fun _ => fun
  | [d1, d2] => { results := [.lit (.bool true)], args := [d1, d2] }
  | _ => none }
def frontHighsRow : OpenClaim := { program := "ytmmlppmlkmlgpaa", sum := "f046d47bd53451d44c674500e485ac89bdc7624396b13fd0abcc4570803cca1d", func := "voxsat/voxsatlaw.FrontHighs", spec := "frontHighs", apart := false }
def FrontHighsSaid : Prop := frontHighsRow.holds Try.pinned (OpenSpec.ofChange frontHighsSpec)

/-- ITS FALSE NEIGHBOUR: 'it returns false'. Refute it at one input. -/
def frontHighsWrong : ChangeSpec := { name := "frontHighs", fn := fun _ => fun
  | [d1, d2] => { results := [.lit (.bool false)], args := [d1, d2] }
  | _ => none }
def FrontHighsWrongFalsely : Prop := frontHighsRow.holds Try.pinned (OpenSpec.ofChange frontHighsWrong)

/-- 'voxsatlaw.FrontWeights': WHATEVER THE INPUT: true; the input reads as it did. -/
def frontWeightsSpec : ChangeSpec := { name := "frontWeights", fn := fun _ => fun
  | [d] => { results := [.lit (.bool true)], args := [d] }
  | _ => none }
def frontWeightsRow : OpenClaim := { program := "ytmmlppmlkmlgpaa", sum := "f046d47bd53451d44c674500e485ac89bdc7624396b13fd0abcc4570803cca1d", func := "voxsat/voxsatlaw.FrontWeights", spec := "frontWeights", recurses := true, apart := false }
def FrontWeightsSaid : Prop := frontWeightsRow.holds Try.pinned (OpenSpec.ofChange frontWeightsSpec)

/-- ITS FALSE NEIGHBOUR: 'it returns false'. Refute it at one input. -/
def frontWeightsWrong : ChangeSpec := { name := "frontWeights", fn := fun _ => fun
  | [d] => { results := [.lit (.bool false)], args := [d] }
  | _ => none }
def FrontWeightsWrongFalsely : Prop := frontWeightsRow.holds Try.pinned (OpenSpec.ofChange frontWeightsWrong)

/-- 'voxsatlaw.FrontCorrelates': WHATEVER THE INPUT: true; the input reads as it did. -/
def frontCorrelatesSpec : ChangeSpec := { name := "frontCorrelates", fn := fun _ => fun
  | [d] => { results := [.lit (.bool true)], args := [d] }
  | _ => none }
def frontCorrelatesRow : OpenClaim := { program := "ytmmlppmlkmlgpaa", sum := "f046d47bd53451d44c674500e485ac89bdc7624396b13fd0abcc4570803cca1d", func := "voxsat/voxsatlaw.FrontCorrelates", spec := "frontCorrelates", recurses := true, apart := false }
def FrontCorrelatesSaid : Prop := frontCorrelatesRow.holds Try.pinned (OpenSpec.ofChange frontCorrelatesSpec)

/-- ITS FALSE NEIGHBOUR: 'it returns false'. Refute it at one input. -/
def frontCorrelatesWrong : ChangeSpec := { name := "frontCorrelates", fn := fun _ => fun
  | [d] => { results := [.lit (.bool false)], args := [d] }
  | _ => none }
def FrontCorrelatesWrongFalsely : Prop := frontCorrelatesRow.holds Try.pinned (OpenSpec.ofChange frontCorrelatesWrong)

/-- 'voxsatkeep.HighCut': WHATEVER THE INPUT: true; the input reads as it did. -/
def highCutSpec : ChangeSpec := { name := "highCut", fn := fun _ => fun
  | [d1, d2, d3] => { results := [.lit (.bool true)], args := [d1, d2, d3] }
  | _ => none }
def highCutRow : OpenClaim := { program := "ytmmlppmlkmlgpaa", sum := "f046d47bd53451d44c674500e485ac89bdc7624396b13fd0abcc4570803cca1d", func := "voxsat/voxsatkeep.HighCut", spec := "highCut", apart := false }
def HighCutSaid : Prop := highCutRow.holds Try.pinned (OpenSpec.ofChange highCutSpec)

/-- ITS FALSE NEIGHBOUR: 'it returns false'. Refute it at one input. -/
def highCutWrong : ChangeSpec := { name := "highCut", fn := fun _ => fun
  | [d1, d2, d3] => { results := [.lit (.bool false)], args := [d1, d2, d3] }
  | _ => none }
def HighCutWrongFalsely : Prop := highCutRow.holds Try.pinned (OpenSpec.ofChange highCutWrong)

/-- 'voxsatkeep.WeightEven': WHATEVER THE INPUT: true; the input reads as it did. -/
def weightEvenSpec : ChangeSpec := { name := "weightEven", fn := fun _ => fun
  | [d] => { results := [.lit (.bool true)], args := [d] }
  | _ => none }
def weightEvenRow : OpenClaim := { program := "ytmmlppmlkmlgpaa", sum := "f046d47bd53451d44c674500e485ac89bdc7624396b13fd0abcc4570803cca1d", func := "voxsat/voxsatkeep.WeightEven", spec := "weightEven", apart := false }
def WeightEvenSaid : Prop := weightEvenRow.holds Try.pinned (OpenSpec.ofChange weightEvenSpec)

/-- ITS FALSE NEIGHBOUR: 'it returns false'. Refute it at one input. -/
def weightEvenWrong : ChangeSpec := { name := "weightEven", fn := fun _ => fun
  | [d] => { results := [.lit (.bool false)], args := [d] }
  | _ => none }
def WeightEvenWrongFalsely : Prop := weightEvenRow.holds Try.pinned (OpenSpec.ofChange weightEvenWrong)

/-- 'voxsatkeep.CorrelateTop': WHATEVER THE INPUT: true; the input reads as it did. -/
def correlateTopSpec : ChangeSpec := { name := "correlateTop", fn := fun _ => fun
  | [d] => { results := [.lit (.bool true)], args := [d] }
  | _ => none }
def correlateTopRow : OpenClaim := { program := "ytmmlppmlkmlgpaa", sum := "f046d47bd53451d44c674500e485ac89bdc7624396b13fd0abcc4570803cca1d", func := "voxsat/voxsatkeep.CorrelateTop", spec := "correlateTop", apart := false }
def CorrelateTopSaid : Prop := correlateTopRow.holds Try.pinned (OpenSpec.ofChange correlateTopSpec)

/-- ITS FALSE NEIGHBOUR: 'it returns false'. Refute it at one input. -/
def correlateTopWrong : ChangeSpec := { name := "correlateTop", fn := fun _ => fun
  | [d] => { results := [.lit (.bool false)], args := [d] }
  | _ => none }
def CorrelateTopWrongFalsely : Prop := correlateTopRow.holds Try.pinned (OpenSpec.ofChange correlateTopWrong)

/- THE SECOND FORM. 'bulk': how many values and letters a reading holds, each counted each time it is reached (what is shared counts as often as it is met; a slice's spare places count too). A statement '..UptoSaid' is the law's where the arguments, and the package variables that the reading takes, are together of bulk at most 1048576: NARROWER than '..Said'. Prove '..Said' where nothing that the law and all that it calls make is longer than what came in: it says more and counts as full. Else prove '..UptoSaid'. A law counts once. -/
mutual
def uptoBulk {H : Type} : DataW H → Nat
  | .lit (.string bytes) => bytes.length + 1
  | .lit _ => 1
  | .nil => 1
  | .ptr d => uptoBulk d + 1
  | .slice elems spare => uptoBulkAll elems + uptoBulkAll spare + 1
  | .agg parts => uptoBulkAll parts + 1
  | .iface _ d => uptoBulk d + 1
  | .map entries => uptoBulkEntries entries + 1
  | .held _ => 1
def uptoBulkAll {H : Type} : List (DataW H) → Nat
  | [] => 0
  | d :: r => uptoBulk d + uptoBulkAll r
def uptoBulkEntries {H : Type} : List (Lit × DataW H) → Nat
  | [] => 0
  | x :: r => uptoBulkEntry x + uptoBulkEntries r
def uptoBulkEntry {H : Type} : Lit × DataW H → Nat
  | (.string bytes, d) => bytes.length + uptoBulk d + 1
  | (_, d) => uptoBulk d + 1
 end
def uptoSmall : (H : Type) → List (DataW H) → Bool := fun _ ds => decide (uptoBulkAll ds ≤ 1048576)
def OpenSpec.upto (s : _root_.Go.ChangeSpec) : _root_.Go.OpenSpec := { _root_.Go.OpenSpec.ofChange s with cond := some uptoSmall }

/-- 'voxsatlaw.FrontHighs', WHERE WHAT IT READS IS OF BULK AT MOST 1048576: true; the input reads as it did. -/
def frontHighsUptoRow : OpenClaim := { program := "ytmmlppmlkmlgpaa", sum := "f046d47bd53451d44c674500e485ac89bdc7624396b13fd0abcc4570803cca1d", func := "voxsat/voxsatlaw.FrontHighs", spec := "frontHighs", apart := false, narrowed := true }
def FrontHighsUptoSaid : Prop := frontHighsUptoRow.holds Try.pinned (OpenSpec.upto frontHighsSpec)

/-- 'voxsatlaw.FrontWeights', WHERE WHAT IT READS IS OF BULK AT MOST 1048576: true; the input reads as it did. -/
def frontWeightsUptoRow : OpenClaim := { program := "ytmmlppmlkmlgpaa", sum := "f046d47bd53451d44c674500e485ac89bdc7624396b13fd0abcc4570803cca1d", func := "voxsat/voxsatlaw.FrontWeights", spec := "frontWeights", recurses := true, apart := false, narrowed := true }
def FrontWeightsUptoSaid : Prop := frontWeightsUptoRow.holds Try.pinned (OpenSpec.upto frontWeightsSpec)

/-- 'voxsatlaw.FrontCorrelates', WHERE WHAT IT READS IS OF BULK AT MOST 1048576: true; the input reads as it did. -/
def frontCorrelatesUptoRow : OpenClaim := { program := "ytmmlppmlkmlgpaa", sum := "f046d47bd53451d44c674500e485ac89bdc7624396b13fd0abcc4570803cca1d", func := "voxsat/voxsatlaw.FrontCorrelates", spec := "frontCorrelates", recurses := true, apart := false, narrowed := true }
def FrontCorrelatesUptoSaid : Prop := frontCorrelatesUptoRow.holds Try.pinned (OpenSpec.upto frontCorrelatesSpec)

/-- 'voxsatkeep.HighCut', WHERE WHAT IT READS IS OF BULK AT MOST 1048576: true; the input reads as it did. -/
def highCutUptoRow : OpenClaim := { program := "ytmmlppmlkmlgpaa", sum := "f046d47bd53451d44c674500e485ac89bdc7624396b13fd0abcc4570803cca1d", func := "voxsat/voxsatkeep.HighCut", spec := "highCut", apart := false, narrowed := true }
def HighCutUptoSaid : Prop := highCutUptoRow.holds Try.pinned (OpenSpec.upto highCutSpec)

/-- 'voxsatkeep.WeightEven', WHERE WHAT IT READS IS OF BULK AT MOST 1048576: true; the input reads as it did. -/
def weightEvenUptoRow : OpenClaim := { program := "ytmmlppmlkmlgpaa", sum := "f046d47bd53451d44c674500e485ac89bdc7624396b13fd0abcc4570803cca1d", func := "voxsat/voxsatkeep.WeightEven", spec := "weightEven", apart := false, narrowed := true }
def WeightEvenUptoSaid : Prop := weightEvenUptoRow.holds Try.pinned (OpenSpec.upto weightEvenSpec)

/-- 'voxsatkeep.CorrelateTop', WHERE WHAT IT READS IS OF BULK AT MOST 1048576: true; the input reads as it did. -/
def correlateTopUptoRow : OpenClaim := { program := "ytmmlppmlkmlgpaa", sum := "f046d47bd53451d44c674500e485ac89bdc7624396b13fd0abcc4570803cca1d", func := "voxsat/voxsatkeep.CorrelateTop", spec := "correlateTop", apart := false, narrowed := true }
def CorrelateTopUptoSaid : Prop := correlateTopUptoRow.holds Try.pinned (OpenSpec.upto correlateTopSpec)

end Rows
end Go.Proofs.Ytmmlppmlkmlgpaa
