/-
  No cell of these rows narrows 'for every input' (looked for: loops, veiled, ifaces, maps, wideKeys, modest, calm, conditions, laid).
  DERIVED. THE GIVEN ROWS OF THIS SEAT. 6 by the template 'for every input the law returns true; each argument reads behind the call as it read before'; 0 by the template 'total and deterministic' (their statements: YtinnamogmiobkaaTotals.lean).
  GIVEN WITH THE SEED: the statements are not yours to turn. If you find one false, say at which input.
  Laid BY PROGRAM, IN A SANDBOX (cutbox-rows.mjs): the forced cells as the released guide's own fill.sh prints them over the translation c463905ebdf1d9be… (all of the seat's roots in one cut). By AI agents, Wed Nov 11 2026. No macro, syntax, notation, axiom, sorry.
-/
import Derived.Test.YtinnamogmiobkaaChecked
import GoSem.Claim
import GoSem.ClaimJoined
import GoSem.ClaimMapViews
import Derived.JoinedTies
import Derived.KernelRfl
namespace Go.Proofs.Ytinnamogmiobkaa
/- THE CELL 'sum', in the pinned program and in every row, IS THE sha256 OF THE DUMP (.gsa) THAT YtinnamogmiobkaaProg.lean LOADS. Nothing in Lean hashes anything: it is a label: what it is worth is what the hold of that sum in a sandbox is worth. -/
noncomputable def Try.pinned : Pinned := { name := "ytinnamogmiobkaa", sum := "c463905ebdf1d9bec221368e49ffc7cbc5df257084406cabe7d9a30ca94155c2", checked := Try.checked }
namespace Rows
def none {H : Type} : Left H := { results := [], args := [] }

/-- 'voxsatlaw.BasicSats': WHATEVER THE INPUT: true; the input reads as it did. -/
def basicSatsSpec : ChangeSpec := { name := "basicSats", fn := fun _ => fun
  | [d] => { results := [.lit (.bool true)], args := [d] }
  | _ => none }
def basicSatsRow : OpenClaim := { program := "ytinnamogmiobkaa", sum := "c463905ebdf1d9bec221368e49ffc7cbc5df257084406cabe7d9a30ca94155c2", func := "voxsat/voxsatlaw.BasicSats", spec := "basicSats", apart := false }
def BasicSatsSaid : Prop := basicSatsRow.holds Try.pinned (OpenSpec.ofChange basicSatsSpec)

/-- ITS FALSE NEIGHBOUR: 'it returns false'. Refute it at one input. -/
def basicSatsWrong : ChangeSpec := { name := "basicSats", fn := fun _ => fun
  | [d] => { results := [.lit (.bool false)], args := [d] }
  | _ => none }
def BasicSatsWrongFalsely : Prop := basicSatsRow.holds Try.pinned (OpenSpec.ofChange basicSatsWrong)

/-- 'voxsatlaw.BasicDoes': WHATEVER THE INPUT: true; the input reads as it did. -/
def basicDoesSpec : ChangeSpec := { name := "basicDoes", fn := fun _ => fun
  | [d1, d2, d3, d4] => { results := [.lit (.bool true)], args := [d1, d2, d3, d4] }
  | _ => none }
def basicDoesRow : OpenClaim := { program := "ytinnamogmiobkaa", sum := "c463905ebdf1d9bec221368e49ffc7cbc5df257084406cabe7d9a30ca94155c2", func := "voxsat/voxsatlaw.BasicDoes", spec := "basicDoes", unfollowed := true, recurses := true, apart := false }
def BasicDoesSaid : Prop := basicDoesRow.holds Try.pinned (OpenSpec.ofChange basicDoesSpec)

/-- ITS FALSE NEIGHBOUR: 'it returns false'. Refute it at one input. -/
def basicDoesWrong : ChangeSpec := { name := "basicDoes", fn := fun _ => fun
  | [d1, d2, d3, d4] => { results := [.lit (.bool false)], args := [d1, d2, d3, d4] }
  | _ => none }
def BasicDoesWrongFalsely : Prop := basicDoesRow.holds Try.pinned (OpenSpec.ofChange basicDoesWrong)

/-- 'voxsatlaw.BasicNorms': WHATEVER THE INPUT: true; the input reads as it did. -/
def basicNormsSpec : ChangeSpec := { name := "basicNorms", fn := fun _ => fun
  | [d] => { results := [.lit (.bool true)], args := [d] }
  | _ => none }
def basicNormsRow : OpenClaim := { program := "ytinnamogmiobkaa", sum := "c463905ebdf1d9bec221368e49ffc7cbc5df257084406cabe7d9a30ca94155c2", func := "voxsat/voxsatlaw.BasicNorms", spec := "basicNorms", apart := false }
def BasicNormsSaid : Prop := basicNormsRow.holds Try.pinned (OpenSpec.ofChange basicNormsSpec)

/-- ITS FALSE NEIGHBOUR: 'it returns false'. Refute it at one input. -/
def basicNormsWrong : ChangeSpec := { name := "basicNorms", fn := fun _ => fun
  | [d] => { results := [.lit (.bool false)], args := [d] }
  | _ => none }
def BasicNormsWrongFalsely : Prop := basicNormsRow.holds Try.pinned (OpenSpec.ofChange basicNormsWrong)

/-- 'voxsatlaw.BasicBetters': WHATEVER THE INPUT: true; the input reads as it did. -/
def basicBettersSpec : ChangeSpec := { name := "basicBetters", fn := fun _ => fun
  | [d1, d2, d3, d4] => { results := [.lit (.bool true)], args := [d1, d2, d3, d4] }
  | _ => none }
def basicBettersRow : OpenClaim := { program := "ytinnamogmiobkaa", sum := "c463905ebdf1d9bec221368e49ffc7cbc5df257084406cabe7d9a30ca94155c2", func := "voxsat/voxsatlaw.BasicBetters", spec := "basicBetters", inPlace := ["math/bits.Add64"], apart := false }
def BasicBettersSaid : Prop := basicBettersRow.holds Try.pinned (OpenSpec.ofChange basicBettersSpec)

/-- ITS FALSE NEIGHBOUR: 'it returns false'. Refute it at one input. -/
def basicBettersWrong : ChangeSpec := { name := "basicBetters", fn := fun _ => fun
  | [d1, d2, d3, d4] => { results := [.lit (.bool false)], args := [d1, d2, d3, d4] }
  | _ => none }
def BasicBettersWrongFalsely : Prop := basicBettersRow.holds Try.pinned (OpenSpec.ofChange basicBettersWrong)

/-- 'voxsatkeep.BasicEnds': WHATEVER THE INPUT: true; the input reads as it did. -/
def basicEndsSpec : ChangeSpec := { name := "basicEnds", fn := fun _ => fun
  | [d1, d2, d3] => { results := [.lit (.bool true)], args := [d1, d2, d3] }
  | _ => none }
def basicEndsRow : OpenClaim := { program := "ytinnamogmiobkaa", sum := "c463905ebdf1d9bec221368e49ffc7cbc5df257084406cabe7d9a30ca94155c2", func := "voxsat/voxsatkeep.BasicEnds", spec := "basicEnds", unfollowed := true, recurses := true, apart := false }
def BasicEndsSaid : Prop := basicEndsRow.holds Try.pinned (OpenSpec.ofChange basicEndsSpec)

/-- ITS FALSE NEIGHBOUR: 'it returns false'. Refute it at one input. -/
def basicEndsWrong : ChangeSpec := { name := "basicEnds", fn := fun _ => fun
  | [d1, d2, d3] => { results := [.lit (.bool false)], args := [d1, d2, d3] }
  | _ => none }
def BasicEndsWrongFalsely : Prop := basicEndsRow.holds Try.pinned (OpenSpec.ofChange basicEndsWrong)

/-- 'voxsatkeep.BasicOrder': WHATEVER THE INPUT: true; the input reads as it did. -/
def basicOrderSpec : ChangeSpec := { name := "basicOrder", fn := fun _ => fun
  | [d1, d2, d3] => { results := [.lit (.bool true)], args := [d1, d2, d3] }
  | _ => none }
def basicOrderRow : OpenClaim := { program := "ytinnamogmiobkaa", sum := "c463905ebdf1d9bec221368e49ffc7cbc5df257084406cabe7d9a30ca94155c2", func := "voxsat/voxsatkeep.BasicOrder", spec := "basicOrder", unfollowed := true, recurses := true, apart := false }
def BasicOrderSaid : Prop := basicOrderRow.holds Try.pinned (OpenSpec.ofChange basicOrderSpec)

/-- ITS FALSE NEIGHBOUR: 'it returns false'. Refute it at one input. -/
def basicOrderWrong : ChangeSpec := { name := "basicOrder", fn := fun _ => fun
  | [d1, d2, d3] => { results := [.lit (.bool false)], args := [d1, d2, d3] }
  | _ => none }
def BasicOrderWrongFalsely : Prop := basicOrderRow.holds Try.pinned (OpenSpec.ofChange basicOrderWrong)

/- THE SECOND FORM. 'bulk': how many values and letters a reading holds, each counted each time it is reached (what is shared counts as often as it is met; a slice's spare places count too). A statement '..UptoSaid' is the law's where the arguments, and the package variables that the reading takes, are together of bulk at most 1048576: NARROWER than '..Said'. Prove '..Said' where nothing that the law and all that it calls make is longer than what came in: it says more and counts as full. Else prove '..UptoSaid'. A law counts once. -/
mutual
def uptoBulk {H : Type} : DataW H → Nat
  | .lit (.string bytes) => bytes.length + 1
  | .lit _ => 1
  | .nil => 1
  | .ptr d => uptoBulk d + 1
  | .slice elems spare => uptoBulkAll elems + uptoBulkAll spare + 1
  | .agg parts => uptoBulkAll parts + 1
  | .iface _ d => uptoBulk d + 1
  | .map entries => uptoBulkEntries entries + 1
  | .held _ => 1
def uptoBulkAll {H : Type} : List (DataW H) → Nat
  | [] => 0
  | d :: r => uptoBulk d + uptoBulkAll r
def uptoBulkEntries {H : Type} : List (Lit × DataW H) → Nat
  | [] => 0
  | x :: r => uptoBulkEntry x + uptoBulkEntries r
def uptoBulkEntry {H : Type} : Lit × DataW H → Nat
  | (.string bytes, d) => bytes.length + uptoBulk d + 1
  | (_, d) => uptoBulk d + 1
 end
def uptoSmall : (H : Type) → List (DataW H) → Bool := fun _ ds => decide (uptoBulkAll ds ≤ 1048576)
def OpenSpec.upto (s : _root_.Go.ChangeSpec) : _root_.Go.OpenSpec := { _root_.Go.OpenSpec.ofChange s with cond := some uptoSmall }

/-- 'voxsatlaw.BasicSats', WHERE WHAT IT READS IS OF BULK AT MOST 1048576: true; the input reads as it did. -/
def basicSatsUptoRow : OpenClaim := { program := "ytinnamogmiobkaa", sum := "c463905ebdf1d9bec221368e49ffc7cbc5df257084406cabe7d9a30ca94155c2", func := "voxsat/voxsatlaw.BasicSats", spec := "basicSats", apart := false, narrowed := true }
def BasicSatsUptoSaid : Prop := basicSatsUptoRow.holds Try.pinned (OpenSpec.upto basicSatsSpec)

/-- 'voxsatlaw.BasicDoes', WHERE WHAT IT READS IS OF BULK AT MOST 1048576: true; the input reads as it did. -/
def basicDoesUptoRow : OpenClaim := { program := "ytinnamogmiobkaa", sum := "c463905ebdf1d9bec221368e49ffc7cbc5df257084406cabe7d9a30ca94155c2", func := "voxsat/voxsatlaw.BasicDoes", spec := "basicDoes", unfollowed := true, recurses := true, apart := false, narrowed := true }
def BasicDoesUptoSaid : Prop := basicDoesUptoRow.holds Try.pinned (OpenSpec.upto basicDoesSpec)

/-- 'voxsatlaw.BasicNorms', WHERE WHAT IT READS IS OF BULK AT MOST 1048576: true; the input reads as it did. -/
def basicNormsUptoRow : OpenClaim := { program := "ytinnamogmiobkaa", sum := "c463905ebdf1d9bec221368e49ffc7cbc5df257084406cabe7d9a30ca94155c2", func := "voxsat/voxsatlaw.BasicNorms", spec := "basicNorms", apart := false, narrowed := true }
def BasicNormsUptoSaid : Prop := basicNormsUptoRow.holds Try.pinned (OpenSpec.upto basicNormsSpec)

/-- 'voxsatlaw.BasicBetters', WHERE WHAT IT READS IS OF BULK AT MOST 1048576: true; the input reads as it did. -/
def basicBettersUptoRow : OpenClaim := { program := "ytinnamogmiobkaa", sum := "c463905ebdf1d9bec221368e49ffc7cbc5df257084406cabe7d9a30ca94155c2", func := "voxsat/voxsatlaw.BasicBetters", spec := "basicBetters", inPlace := ["math/bits.Add64"], apart := false, narrowed := true }
def BasicBettersUptoSaid : Prop := basicBettersUptoRow.holds Try.pinned (OpenSpec.upto basicBettersSpec)

/-- 'voxsatkeep.BasicEnds', WHERE WHAT IT READS IS OF BULK AT MOST 1048576: true; the input reads as it did. -/
def basicEndsUptoRow : OpenClaim := { program := "ytinnamogmiobkaa", sum := "c463905ebdf1d9bec221368e49ffc7cbc5df257084406cabe7d9a30ca94155c2", func := "voxsat/voxsatkeep.BasicEnds", spec := "basicEnds", unfollowed := true, recurses := true, apart := false, narrowed := true }
def BasicEndsUptoSaid : Prop := basicEndsUptoRow.holds Try.pinned (OpenSpec.upto basicEndsSpec)

/-- 'voxsatkeep.BasicOrder', WHERE WHAT IT READS IS OF BULK AT MOST 1048576: true; the input reads as it did. -/
def basicOrderUptoRow : OpenClaim := { program := "ytinnamogmiobkaa", sum := "c463905ebdf1d9bec221368e49ffc7cbc5df257084406cabe7d9a30ca94155c2", func := "voxsat/voxsatkeep.BasicOrder", spec := "basicOrder", unfollowed := true, recurses := true, apart := false, narrowed := true }
def BasicOrderUptoSaid : Prop := basicOrderUptoRow.holds Try.pinned (OpenSpec.upto basicOrderSpec)

end Rows
end Go.Proofs.Ytinnamogmiobkaa
