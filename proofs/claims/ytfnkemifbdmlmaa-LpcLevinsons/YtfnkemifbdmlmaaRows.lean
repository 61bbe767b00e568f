/-
  No cell of these rows narrows 'for every input' (looked for: loops, veiled, ifaces, maps, wideKeys, modest, calm, conditions, laid).
  DERIVED. THE GIVEN ROWS OF THIS SEAT. 6 by the template 'for every input the law returns true; each argument reads behind the call as it read before'; 0 by the template 'total and deterministic' (their statements: YtfnkemifbdmlmaaTotals.lean).
  GIVEN WITH THE SEED: the statements are not yours to turn. If you find one false, say at which input.
  Laid BY PROGRAM, IN A SANDBOX (cutbox-rows.mjs): the forced cells as the released guide's own fill.sh prints them over the translation c6a20edd40a9e299… (all of the seat's roots in one cut). By AI agents, Wed Nov 11 2026. No macro, syntax, notation, axiom, sorry.
-/
import Derived.Test.YtfnkemifbdmlmaaChecked
import GoSem.Claim
import GoSem.ClaimJoined
import GoSem.ClaimMapViews
import Derived.JoinedTies
import Derived.KernelRfl
namespace Go.Proofs.Ytfnkemifbdmlmaa
/- THE CELL 'sum', in the pinned program and in every row, IS THE sha256 OF THE DUMP (.gsa) THAT YtfnkemifbdmlmaaProg.lean LOADS. Nothing in Lean hashes anything: it is a label: what it is worth is what the hold of that sum in a sandbox is worth. -/
noncomputable def Try.pinned : Pinned := { name := "ytfnkemifbdmlmaa", sum := "c6a20edd40a9e2997ff238bdba422d455210cc91255cf61f1600f86a68b4e077", checked := Try.checked }
namespace Rows
def none {H : Type} : Left H := { results := [], args := [] }

/-- 'voxsatlaw.LpcLevinsons': WHATEVER THE INPUT: true; the input reads as it did. -/
def lpcLevinsonsSpec : ChangeSpec := { name := "lpcLevinsons", fn := fun _ => fun
  | [d] => { results := [.lit (.bool true)], args := [d] }
  | _ => none }
def lpcLevinsonsRow : OpenClaim := { program := "ytfnkemifbdmlmaa", sum := "c6a20edd40a9e2997ff238bdba422d455210cc91255cf61f1600f86a68b4e077", func := "voxsat/voxsatlaw.LpcLevinsons", spec := "lpcLevinsons", apart := false }
def LpcLevinsonsSaid : Prop := lpcLevinsonsRow.holds Try.pinned (OpenSpec.ofChange lpcLevinsonsSpec)

/-- ITS FALSE NEIGHBOUR: 'it returns false'. Refute it at one input. -/
def lpcLevinsonsWrong : ChangeSpec := { name := "lpcLevinsons", fn := fun _ => fun
  | [d] => { results := [.lit (.bool false)], args := [d] }
  | _ => none }
def LpcLevinsonsWrongFalsely : Prop := lpcLevinsonsRow.holds Try.pinned (OpenSpec.ofChange lpcLevinsonsWrong)

/-- 'voxsatlaw.LpcDirects': WHATEVER THE INPUT: true; the input reads as it did. -/
def lpcDirectsSpec : ChangeSpec := { name := "lpcDirects", fn := fun _ => fun
  | [d] => { results := [.lit (.bool true)], args := [d] }
  | _ => none }
def lpcDirectsRow : OpenClaim := { program := "ytfnkemifbdmlmaa", sum := "c6a20edd40a9e2997ff238bdba422d455210cc91255cf61f1600f86a68b4e077", func := "voxsat/voxsatlaw.LpcDirects", spec := "lpcDirects", apart := false }
def LpcDirectsSaid : Prop := lpcDirectsRow.holds Try.pinned (OpenSpec.ofChange lpcDirectsSpec)

/-- ITS FALSE NEIGHBOUR: 'it returns false'. Refute it at one input. -/
def lpcDirectsWrong : ChangeSpec := { name := "lpcDirects", fn := fun _ => fun
  | [d] => { results := [.lit (.bool false)], args := [d] }
  | _ => none }
def LpcDirectsWrongFalsely : Prop := lpcDirectsRow.holds Try.pinned (OpenSpec.ofChange lpcDirectsWrong)

/-- 'voxsatlaw.LpcExpands': WHATEVER THE INPUT: true; the input reads as it did. -/
def lpcExpandsSpec : ChangeSpec := { name := "lpcExpands", fn := fun _ => fun
  | [d1, d2] => { results := [.lit (.bool true)], args := [d1, d2] }
  | _ => none }
def lpcExpandsRow : OpenClaim := { program := "ytfnkemifbdmlmaa", sum := "c6a20edd40a9e2997ff238bdba422d455210cc91255cf61f1600f86a68b4e077", func := "voxsat/voxsatlaw.LpcExpands", spec := "lpcExpands", apart := false }
def LpcExpandsSaid : Prop := lpcExpandsRow.holds Try.pinned (OpenSpec.ofChange lpcExpandsSpec)

/-- ITS FALSE NEIGHBOUR: 'it returns false'. Refute it at one input. -/
def lpcExpandsWrong : ChangeSpec := { name := "lpcExpands", fn := fun _ => fun
  | [d1, d2] => { results := [.lit (.bool false)], args := [d1, d2] }
  | _ => none }
def LpcExpandsWrongFalsely : Prop := lpcExpandsRow.holds Try.pinned (OpenSpec.ofChange lpcExpandsWrong)

/-- 'voxsatlaw.LpcMixes': WHATEVER THE INPUT: true; the input reads as it did. -/
def lpcMixesSpec : ChangeSpec := { name := "lpcMixes", fn := fun _ => fun
  | [d1, d2, d3] => { results := [.lit (.bool true)], args := [d1, d2, d3] }
  | _ => none }
def lpcMixesRow : OpenClaim := { program := "ytfnkemifbdmlmaa", sum := "c6a20edd40a9e2997ff238bdba422d455210cc91255cf61f1600f86a68b4e077", func := "voxsat/voxsatlaw.LpcMixes", spec := "lpcMixes", apart := false }
def LpcMixesSaid : Prop := lpcMixesRow.holds Try.pinned (OpenSpec.ofChange lpcMixesSpec)

/-- ITS FALSE NEIGHBOUR: 'it returns false'. Refute it at one input. -/
def lpcMixesWrong : ChangeSpec := { name := "lpcMixes", fn := fun _ => fun
  | [d1, d2, d3] => { results := [.lit (.bool false)], args := [d1, d2, d3] }
  | _ => none }
def LpcMixesWrongFalsely : Prop := lpcMixesRow.holds Try.pinned (OpenSpec.ofChange lpcMixesWrong)

/-- 'voxsatkeep.LevinsonBounds': WHATEVER THE INPUT: true; the input reads as it did. -/
def levinsonBoundsSpec : ChangeSpec := { name := "levinsonBounds", fn := fun _ => fun
  | [d] => { results := [.lit (.bool true)], args := [d] }
  | _ => none }
def levinsonBoundsRow : OpenClaim := { program := "ytfnkemifbdmlmaa", sum := "c6a20edd40a9e2997ff238bdba422d455210cc91255cf61f1600f86a68b4e077", func := "voxsat/voxsatkeep.LevinsonBounds", spec := "levinsonBounds", apart := false }
def LevinsonBoundsSaid : Prop := levinsonBoundsRow.holds Try.pinned (OpenSpec.ofChange levinsonBoundsSpec)

/-- ITS FALSE NEIGHBOUR: 'it returns false'. Refute it at one input. -/
def levinsonBoundsWrong : ChangeSpec := { name := "levinsonBounds", fn := fun _ => fun
  | [d] => { results := [.lit (.bool false)], args := [d] }
  | _ => none }
def LevinsonBoundsWrongFalsely : Prop := levinsonBoundsRow.holds Try.pinned (OpenSpec.ofChange levinsonBoundsWrong)

/-- 'voxsatkeep.DirectOne': WHATEVER THE INPUT: true; the input reads as it did. -/
def directOneSpec : ChangeSpec := { name := "directOne", fn := fun _ => fun
  | [d] => { results := [.lit (.bool true)], args := [d] }
  | _ => none }
def directOneRow : OpenClaim := { program := "ytfnkemifbdmlmaa", sum := "c6a20edd40a9e2997ff238bdba422d455210cc91255cf61f1600f86a68b4e077", func := "voxsat/voxsatkeep.DirectOne", spec := "directOne", apart := false }
def DirectOneSaid : Prop := directOneRow.holds Try.pinned (OpenSpec.ofChange directOneSpec)

/-- ITS FALSE NEIGHBOUR: 'it returns false'. Refute it at one input. -/
def directOneWrong : ChangeSpec := { name := "directOne", fn := fun _ => fun
  | [d] => { results := [.lit (.bool false)], args := [d] }
  | _ => none }
def DirectOneWrongFalsely : Prop := directOneRow.holds Try.pinned (OpenSpec.ofChange directOneWrong)

/- THE SECOND FORM. 'bulk': how many values and letters a reading holds, each counted each time it is reached (what is shared counts as often as it is met; a slice's spare places count too). A statement '..UptoSaid' is the law's where the arguments, and the package variables that the reading takes, are together of bulk at most 1048576: NARROWER than '..Said'. Prove '..Said' where nothing that the law and all that it calls make is longer than what came in: it says more and counts as full. Else prove '..UptoSaid'. A law counts once. -/
mutual
def uptoBulk {H : Type} : DataW H → Nat
  | .lit (.string bytes) => bytes.length + 1
  | .lit _ => 1
  | .nil => 1
  | .ptr d => uptoBulk d + 1
  | .slice elems spare => uptoBulkAll elems + uptoBulkAll spare + 1
  | .agg parts => uptoBulkAll parts + 1
  | .iface _ d => uptoBulk d + 1
  | .map entries => uptoBulkEntries entries + 1
  | .held _ => 1
def uptoBulkAll {H : Type} : List (DataW H) → Nat
  | [] => 0
  | d :: r => uptoBulk d + uptoBulkAll r
def uptoBulkEntries {H : Type} : List (Lit × DataW H) → Nat
  | [] => 0
  | x :: r => uptoBulkEntry x + uptoBulkEntries r
def uptoBulkEntry {H : Type} : Lit × DataW H → Nat
  | (.string bytes, d) => bytes.length + uptoBulk d + 1
  | (_, d) => uptoBulk d + 1
 end
def uptoSmall : (H : Type) → List (DataW H) → Bool := fun _ ds => decide (uptoBulkAll ds ≤ 1048576)
def OpenSpec.upto (s : _root_.Go.ChangeSpec) : _root_.Go.OpenSpec := { _root_.Go.OpenSpec.ofChange s with cond := some uptoSmall }

/-- 'voxsatlaw.LpcLevinsons', WHERE WHAT IT READS IS OF BULK AT MOST 1048576: true; the input reads as it did. -/
def lpcLevinsonsUptoRow : OpenClaim := { program := "ytfnkemifbdmlmaa", sum := "c6a20edd40a9e2997ff238bdba422d455210cc91255cf61f1600f86a68b4e077", func := "voxsat/voxsatlaw.LpcLevinsons", spec := "lpcLevinsons", apart := false, narrowed := true }
def LpcLevinsonsUptoSaid : Prop := lpcLevinsonsUptoRow.holds Try.pinned (OpenSpec.upto lpcLevinsonsSpec)

/-- 'voxsatlaw.LpcDirects', WHERE WHAT IT READS IS OF BULK AT MOST 1048576: true; the input reads as it did. -/
def lpcDirectsUptoRow : OpenClaim := { program := "ytfnkemifbdmlmaa", sum := "c6a20edd40a9e2997ff238bdba422d455210cc91255cf61f1600f86a68b4e077", func := "voxsat/voxsatlaw.LpcDirects", spec := "lpcDirects", apart := false, narrowed := true }
def LpcDirectsUptoSaid : Prop := lpcDirectsUptoRow.holds Try.pinned (OpenSpec.upto lpcDirectsSpec)

/-- 'voxsatlaw.LpcExpands', WHERE WHAT IT READS IS OF BULK AT MOST 1048576: true; the input reads as it did. -/
def lpcExpandsUptoRow : OpenClaim := { program := "ytfnkemifbdmlmaa", sum := "c6a20edd40a9e2997ff238bdba422d455210cc91255cf61f1600f86a68b4e077", func := "voxsat/voxsatlaw.LpcExpands", spec := "lpcExpands", apart := false, narrowed := true }
def LpcExpandsUptoSaid : Prop := lpcExpandsUptoRow.holds Try.pinned (OpenSpec.upto lpcExpandsSpec)

/-- 'voxsatlaw.LpcMixes', WHERE WHAT IT READS IS OF BULK AT MOST 1048576: true; the input reads as it did. -/
def lpcMixesUptoRow : OpenClaim := { program := "ytfnkemifbdmlmaa", sum := "c6a20edd40a9e2997ff238bdba422d455210cc91255cf61f1600f86a68b4e077", func := "voxsat/voxsatlaw.LpcMixes", spec := "lpcMixes", apart := false, narrowed := true }
def LpcMixesUptoSaid : Prop := lpcMixesUptoRow.holds Try.pinned (OpenSpec.upto lpcMixesSpec)

/-- 'voxsatkeep.LevinsonBounds', WHERE WHAT IT READS IS OF BULK AT MOST 1048576: true; the input reads as it did. -/
def levinsonBoundsUptoRow : OpenClaim := { program := "ytfnkemifbdmlmaa", sum := "c6a20edd40a9e2997ff238bdba422d455210cc91255cf61f1600f86a68b4e077", func := "voxsat/voxsatkeep.LevinsonBounds", spec := "levinsonBounds", apart := false, narrowed := true }
def LevinsonBoundsUptoSaid : Prop := levinsonBoundsUptoRow.holds Try.pinned (OpenSpec.upto levinsonBoundsSpec)

/-- 'voxsatkeep.DirectOne', WHERE WHAT IT READS IS OF BULK AT MOST 1048576: true; the input reads as it did. -/
def directOneUptoRow : OpenClaim := { program := "ytfnkemifbdmlmaa", sum := "c6a20edd40a9e2997ff238bdba422d455210cc91255cf61f1600f86a68b4e077", func := "voxsat/voxsatkeep.DirectOne", spec := "directOne", apart := false, narrowed := true }
def DirectOneUptoSaid : Prop := directOneUptoRow.holds Try.pinned (OpenSpec.upto directOneSpec)

end Rows
end Go.Proofs.Ytfnkemifbdmlmaa
