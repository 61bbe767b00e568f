/-
  No cell of these rows narrows 'for every input' (looked for: loops, veiled, ifaces, maps, wideKeys, modest, calm, conditions, laid).
  DERIVED. THE GIVEN ROWS OF THIS SEAT. 5 by the template 'for every input the law returns true; each argument reads behind the call as it read before'; 0 by the template 'total and deterministic' (their statements: YtfeoeonhfcjmgaaTotals.lean).
  GIVEN WITH THE SEED: the statements are not yours to turn. If you find one false, say at which input.
  Laid BY PROGRAM, IN A SANDBOX (cutbox-rows.mjs): the forced cells as the released guide's own fill.sh prints them over the translation f4156eea092f1230… (all of the seat's roots in one cut). By AI agents, Wed Nov 11 2026. No macro, syntax, notation, axiom, sorry.
-/
import Derived.Test.YtfeoeonhfcjmgaaChecked
import GoSem.Claim
import GoSem.ClaimJoined
import GoSem.ClaimMapViews
import Derived.JoinedTies
import Derived.KernelRfl
namespace Go.Proofs.Ytfeoeonhfcjmgaa
/- THE CELL 'sum', in the pinned program and in every row, IS THE sha256 OF THE DUMP (.gsa) THAT YtfeoeonhfcjmgaaProg.lean LOADS. Nothing in Lean hashes anything: it is a label: what it is worth is what the hold of that sum in a sandbox is worth. -/
noncomputable def Try.pinned : Pinned := { name := "ytfeoeonhfcjmgaa", sum := "f4156eea092f1230dbfc4fe43470fdeb8c7b2736799a2bdc6d40decddd0b09c1", checked := Try.checked }
namespace Rows
def none {H : Type} : Left H := { results := [], args := [] }

/-- 'voxsatlaw.DualSplits': WHATEVER THE INPUT: true; the input reads as it did. -/
def dualSplitsSpec : ChangeSpec := { name := "dualSplits", fn := fun _ => fun
  | [d1, d2] => { results := [.lit (.bool true)], args := [d1, d2] }
  | _ => none }
def dualSplitsRow : OpenClaim := { program := "ytfeoeonhfcjmgaa", sum := "f4156eea092f1230dbfc4fe43470fdeb8c7b2736799a2bdc6d40decddd0b09c1", func := "voxsat/voxsatlaw.DualSplits", spec := "dualSplits", apart := false }
def DualSplitsSaid : Prop := dualSplitsRow.holds Try.pinned (OpenSpec.ofChange dualSplitsSpec)

/-- ITS FALSE NEIGHBOUR: 'it returns false'. Refute it at one input. -/
def dualSplitsWrong : ChangeSpec := { name := "dualSplits", fn := fun _ => fun
  | [d1, d2] => { results := [.lit (.bool false)], args := [d1, d2] }
  | _ => none }
def DualSplitsWrongFalsely : Prop := dualSplitsRow.holds Try.pinned (OpenSpec.ofChange dualSplitsWrong)

/-- 'voxsatlaw.DualMuls': WHATEVER THE INPUT: true; the input reads as it did. -/
def dualMulsSpec : ChangeSpec := { name := "dualMuls", fn := fun _ => fun
  | [d1, d2] => { results := [.lit (.bool true)], args := [d1, d2] }
  | _ => none }
def dualMulsRow : OpenClaim := { program := "ytfeoeonhfcjmgaa", sum := "f4156eea092f1230dbfc4fe43470fdeb8c7b2736799a2bdc6d40decddd0b09c1", func := "voxsat/voxsatlaw.DualMuls", spec := "dualMuls", unfollowed := true, recurses := true, apart := false }
def DualMulsSaid : Prop := dualMulsRow.holds Try.pinned (OpenSpec.ofChange dualMulsSpec)

/-- ITS FALSE NEIGHBOUR: 'it returns false'. Refute it at one input. -/
def dualMulsWrong : ChangeSpec := { name := "dualMuls", fn := fun _ => fun
  | [d1, d2] => { results := [.lit (.bool false)], args := [d1, d2] }
  | _ => none }
def DualMulsWrongFalsely : Prop := dualMulsRow.holds Try.pinned (OpenSpec.ofChange dualMulsWrong)

/-- 'voxsatlaw.DualDivs': WHATEVER THE INPUT: true; the input reads as it did. -/
def dualDivsSpec : ChangeSpec := { name := "dualDivs", fn := fun _ => fun
  | [d1, d2] => { results := [.lit (.bool true)], args := [d1, d2] }
  | _ => none }
def dualDivsRow : OpenClaim := { program := "ytfeoeonhfcjmgaa", sum := "f4156eea092f1230dbfc4fe43470fdeb8c7b2736799a2bdc6d40decddd0b09c1", func := "voxsat/voxsatlaw.DualDivs", spec := "dualDivs", apart := false }
def DualDivsSaid : Prop := dualDivsRow.holds Try.pinned (OpenSpec.ofChange dualDivsSpec)

/-- ITS FALSE NEIGHBOUR: 'it returns false'. Refute it at one input. -/
def dualDivsWrong : ChangeSpec := { name := "dualDivs", fn := fun _ => fun
  | [d1, d2] => { results := [.lit (.bool false)], args := [d1, d2] }
  | _ => none }
def DualDivsWrongFalsely : Prop := dualDivsRow.holds Try.pinned (OpenSpec.ofChange dualDivsWrong)

/-- 'voxsatlaw.DualRoots': WHATEVER THE INPUT: true; the input reads as it did. -/
def dualRootsSpec : ChangeSpec := { name := "dualRoots", fn := fun _ => fun
  | [d] => { results := [.lit (.bool true)], args := [d] }
  | _ => none }
def dualRootsRow : OpenClaim := { program := "ytfeoeonhfcjmgaa", sum := "f4156eea092f1230dbfc4fe43470fdeb8c7b2736799a2bdc6d40decddd0b09c1", func := "voxsat/voxsatlaw.DualRoots", spec := "dualRoots", apart := false }
def DualRootsSaid : Prop := dualRootsRow.holds Try.pinned (OpenSpec.ofChange dualRootsSpec)

/-- ITS FALSE NEIGHBOUR: 'it returns false'. Refute it at one input. -/
def dualRootsWrong : ChangeSpec := { name := "dualRoots", fn := fun _ => fun
  | [d] => { results := [.lit (.bool false)], args := [d] }
  | _ => none }
def DualRootsWrongFalsely : Prop := dualRootsRow.holds Try.pinned (OpenSpec.ofChange dualRootsWrong)

/-- 'voxsatlaw.DualLogs': WHATEVER THE INPUT: true; the input reads as it did. -/
def dualLogsSpec : ChangeSpec := { name := "dualLogs", fn := fun _ => fun
  | [d] => { results := [.lit (.bool true)], args := [d] }
  | _ => none }
def dualLogsRow : OpenClaim := { program := "ytfeoeonhfcjmgaa", sum := "f4156eea092f1230dbfc4fe43470fdeb8c7b2736799a2bdc6d40decddd0b09c1", func := "voxsat/voxsatlaw.DualLogs", spec := "dualLogs", apart := false }
def DualLogsSaid : Prop := dualLogsRow.holds Try.pinned (OpenSpec.ofChange dualLogsSpec)

/-- ITS FALSE NEIGHBOUR: 'it returns false'. Refute it at one input. -/
def dualLogsWrong : ChangeSpec := { name := "dualLogs", fn := fun _ => fun
  | [d] => { results := [.lit (.bool false)], args := [d] }
  | _ => none }
def DualLogsWrongFalsely : Prop := dualLogsRow.holds Try.pinned (OpenSpec.ofChange dualLogsWrong)

/- THE SECOND FORM. 'bulk': how many values and letters a reading holds, each counted each time it is reached (what is shared counts as often as it is met; a slice's spare places count too). A statement '..UptoSaid' is the law's where the arguments, and the package variables that the reading takes, are together of bulk at most 1048576: NARROWER than '..Said'. Prove '..Said' where nothing that the law and all that it calls make is longer than what came in: it says more and counts as full. Else prove '..UptoSaid'. A law counts once. -/
mutual
def uptoBulk {H : Type} : DataW H → Nat
  | .lit (.string bytes) => bytes.length + 1
  | .lit _ => 1
  | .nil => 1
  | .ptr d => uptoBulk d + 1
  | .slice elems spare => uptoBulkAll elems + uptoBulkAll spare + 1
  | .agg parts => uptoBulkAll parts + 1
  | .iface _ d => uptoBulk d + 1
  | .map entries => uptoBulkEntries entries + 1
  | .held _ => 1
def uptoBulkAll {H : Type} : List (DataW H) → Nat
  | [] => 0
  | d :: r => uptoBulk d + uptoBulkAll r
def uptoBulkEntries {H : Type} : List (Lit × DataW H) → Nat
  | [] => 0
  | x :: r => uptoBulkEntry x + uptoBulkEntries r
def uptoBulkEntry {H : Type} : Lit × DataW H → Nat
  | (.string bytes, d) => bytes.length + uptoBulk d + 1
  | (_, d) => uptoBulk d + 1
 end
def uptoSmall : (H : Type) → List (DataW H) → Bool := fun _ ds => decide (uptoBulkAll ds ≤ 1048576)
def OpenSpec.upto (s : _root_.Go.ChangeSpec) : _root_.Go.OpenSpec := { _root_.Go.OpenSpec.ofChange s with cond := some uptoSmall }

/-- 'voxsatlaw.DualSplits', WHERE WHAT IT READS IS OF BULK AT MOST 1048576: true; the input reads as it did. -/
def dualSplitsUptoRow : OpenClaim := { program := "ytfeoeonhfcjmgaa", sum := "f4156eea092f1230dbfc4fe43470fdeb8c7b2736799a2bdc6d40decddd0b09c1", func := "voxsat/voxsatlaw.DualSplits", spec := "dualSplits", apart := false, narrowed := true }
def DualSplitsUptoSaid : Prop := dualSplitsUptoRow.holds Try.pinned (OpenSpec.upto dualSplitsSpec)

/-- 'voxsatlaw.DualMuls', WHERE WHAT IT READS IS OF BULK AT MOST 1048576: true; the input reads as it did. -/
def dualMulsUptoRow : OpenClaim := { program := "ytfeoeonhfcjmgaa", sum := "f4156eea092f1230dbfc4fe43470fdeb8c7b2736799a2bdc6d40decddd0b09c1", func := "voxsat/voxsatlaw.DualMuls", spec := "dualMuls", unfollowed := true, recurses := true, apart := false, narrowed := true }
def DualMulsUptoSaid : Prop := dualMulsUptoRow.holds Try.pinned (OpenSpec.upto dualMulsSpec)

/-- 'voxsatlaw.DualDivs', WHERE WHAT IT READS IS OF BULK AT MOST 1048576: true; the input reads as it did. -/
def dualDivsUptoRow : OpenClaim := { program := "ytfeoeonhfcjmgaa", sum := "f4156eea092f1230dbfc4fe43470fdeb8c7b2736799a2bdc6d40decddd0b09c1", func := "voxsat/voxsatlaw.DualDivs", spec := "dualDivs", apart := false, narrowed := true }
def DualDivsUptoSaid : Prop := dualDivsUptoRow.holds Try.pinned (OpenSpec.upto dualDivsSpec)

/-- 'voxsatlaw.DualRoots', WHERE WHAT IT READS IS OF BULK AT MOST 1048576: true; the input reads as it did. -/
def dualRootsUptoRow : OpenClaim := { program := "ytfeoeonhfcjmgaa", sum := "f4156eea092f1230dbfc4fe43470fdeb8c7b2736799a2bdc6d40decddd0b09c1", func := "voxsat/voxsatlaw.DualRoots", spec := "dualRoots", apart := false, narrowed := true }
def DualRootsUptoSaid : Prop := dualRootsUptoRow.holds Try.pinned (OpenSpec.upto dualRootsSpec)

/-- 'voxsatlaw.DualLogs', WHERE WHAT IT READS IS OF BULK AT MOST 1048576: true; the input reads as it did. -/
def dualLogsUptoRow : OpenClaim := { program := "ytfeoeonhfcjmgaa", sum := "f4156eea092f1230dbfc4fe43470fdeb8c7b2736799a2bdc6d40decddd0b09c1", func := "voxsat/voxsatlaw.DualLogs", spec := "dualLogs", apart := false, narrowed := true }
def DualLogsUptoSaid : Prop := dualLogsUptoRow.holds Try.pinned (OpenSpec.upto dualLogsSpec)

end Rows
end Go.Proofs.Ytfeoeonhfcjmgaa
