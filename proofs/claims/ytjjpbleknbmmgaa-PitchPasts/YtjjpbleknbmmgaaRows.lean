/-
  No cell of these rows narrows 'for every input' (looked for: loops, veiled, ifaces, maps, wideKeys, modest, calm, conditions, laid).
  DERIVED. THE GIVEN ROWS OF THIS SEAT. 3 by the template 'for every input the law returns true; each argument reads behind the call as it read before'; 0 by the template 'total and deterministic' (their statements: YtjjpbleknbmmgaaTotals.lean).
  GIVEN WITH THE SEED: the statements are not yours to turn. If you find one false, say at which input.
  Laid BY PROGRAM, IN A SANDBOX (cutbox-rows.mjs): the forced cells as the released guide's own fill.sh prints them over the translation 35f732bfbee4713b… (all of the seat's roots in one cut). By AI agents, Wed Nov 11 2026. No macro, syntax, notation, axiom, sorry.
-/
import Derived.Test.YtjjpbleknbmmgaaChecked
import GoSem.Claim
import GoSem.ClaimJoined
import GoSem.ClaimMapViews
import Derived.JoinedTies
import Derived.KernelRfl
namespace Go.Proofs.Ytjjpbleknbmmgaa
/- THE CELL 'sum', in the pinned program and in every row, IS THE sha256 OF THE DUMP (.gsa) THAT YtjjpbleknbmmgaaProg.lean LOADS. Nothing in Lean hashes anything: it is a label: what it is worth is what the hold of that sum in a sandbox is worth. -/
noncomputable def Try.pinned : Pinned := { name := "ytjjpbleknbmmgaa", sum := "35f732bfbee4713bc1e176627294d0d6c66697d53571dd2794675ad32f6d7434", checked := Try.checked }
namespace Rows
def none {H : Type} : Left H := { results := [], args := [] }

/-- 'voxsatlaw.PitchPasts': WHATEVER THE INPUT: true; the input reads as it did. -/
def pitchPastsSpec : ChangeSpec := { name := "pitchPasts", fn := fun _ => fun
  | [d1, d2] => { results := [.lit (.bool true)], args := [d1, d2] }
  | _ => none }
def pitchPastsRow : OpenClaim := { program := "ytjjpbleknbmmgaa", sum := "35f732bfbee4713bc1e176627294d0d6c66697d53571dd2794675ad32f6d7434", func := "voxsat/voxsatlaw.PitchPasts", spec := "pitchPasts", apart := false }
def PitchPastsSaid : Prop := pitchPastsRow.holds Try.pinned (OpenSpec.ofChange pitchPastsSpec)

/-- ITS FALSE NEIGHBOUR: 'it returns false'. Refute it at one input. -/
def pitchPastsWrong : ChangeSpec := { name := "pitchPasts", fn := fun _ => fun
  | [d1, d2] => { results := [.lit (.bool false)], args := [d1, d2] }
  | _ => none }
def PitchPastsWrongFalsely : Prop := pitchPastsRow.holds Try.pinned (OpenSpec.ofChange pitchPastsWrong)

/-- 'voxsatlaw.PitchPicks': WHATEVER THE INPUT: true; the input reads as it did. -/
def pitchPicksSpec : ChangeSpec := { name := "pitchPicks", fn := fun _ => fun
  | [d1, d2, d3] => { results := [.lit (.bool true)], args := [d1, d2, d3] }
  | _ => none }
def pitchPicksRow : OpenClaim := { program := "ytjjpbleknbmmgaa", sum := "35f732bfbee4713bc1e176627294d0d6c66697d53571dd2794675ad32f6d7434", func := "voxsat/voxsatlaw.PitchPicks", spec := "pitchPicks", inPlace := ["math/bits.Add64"], unfollowed := true, recurses := true, apart := false }
def PitchPicksSaid : Prop := pitchPicksRow.holds Try.pinned (OpenSpec.ofChange pitchPicksSpec)

/-- ITS FALSE NEIGHBOUR: 'it returns false'. Refute it at one input. -/
def pitchPicksWrong : ChangeSpec := { name := "pitchPicks", fn := fun _ => fun
  | [d1, d2, d3] => { results := [.lit (.bool false)], args := [d1, d2, d3] }
  | _ => none }
def PitchPicksWrongFalsely : Prop := pitchPicksRow.holds Try.pinned (OpenSpec.ofChange pitchPicksWrong)

/-- 'voxsatlaw.PitchOpens': WHATEVER THE INPUT: true; the input reads as it did. -/
def pitchOpensSpec : ChangeSpec := { name := "pitchOpens", fn := fun _ => fun
  | [d] => { results := [.lit (.bool true)], args := [d] }
  | _ => none }
def pitchOpensRow : OpenClaim := { program := "ytjjpbleknbmmgaa", sum := "35f732bfbee4713bc1e176627294d0d6c66697d53571dd2794675ad32f6d7434", func := "voxsat/voxsatlaw.PitchOpens", spec := "pitchOpens", inPlace := ["math/bits.Add64"], unfollowed := true, recurses := true, apart := false }
def PitchOpensSaid : Prop := pitchOpensRow.holds Try.pinned (OpenSpec.ofChange pitchOpensSpec)

/-- ITS FALSE NEIGHBOUR: 'it returns false'. Refute it at one input. -/
def pitchOpensWrong : ChangeSpec := { name := "pitchOpens", fn := fun _ => fun
  | [d] => { results := [.lit (.bool false)], args := [d] }
  | _ => none }
def PitchOpensWrongFalsely : Prop := pitchOpensRow.holds Try.pinned (OpenSpec.ofChange pitchOpensWrong)

/- THE SECOND FORM. 'bulk': how many values and letters a reading holds, each counted each time it is reached (what is shared counts as often as it is met; a slice's spare places count too). A statement '..UptoSaid' is the law's where the arguments, and the package variables that the reading takes, are together of bulk at most 1048576: NARROWER than '..Said'. Prove '..Said' where nothing that the law and all that it calls make is longer than what came in: it says more and counts as full. Else prove '..UptoSaid'. A law counts once. -/
mutual
def uptoBulk {H : Type} : DataW H → Nat
  | .lit (.string bytes) => bytes.length + 1
  | .lit _ => 1
  | .nil => 1
  | .ptr d => uptoBulk d + 1
  | .slice elems spare => uptoBulkAll elems + uptoBulkAll spare + 1
  | .agg parts => uptoBulkAll parts + 1
  | .iface _ d => uptoBulk d + 1
  | .map entries => uptoBulkEntries entries + 1
  | .held _ => 1
def uptoBulkAll {H : Type} : List (DataW H) → Nat
  | [] => 0
  | d :: r => uptoBulk d + uptoBulkAll r
def uptoBulkEntries {H : Type} : List (Lit × DataW H) → Nat
  | [] => 0
  | x :: r => uptoBulkEntry x + uptoBulkEntries r
def uptoBulkEntry {H : Type} : Lit × DataW H → Nat
  | (.string bytes, d) => bytes.length + uptoBulk d + 1
  | (_, d) => uptoBulk d + 1
 end
def uptoSmall : (H : Type) → List (DataW H) → Bool := fun _ ds => decide (uptoBulkAll ds ≤ 1048576)
def OpenSpec.upto (s : _root_.Go.ChangeSpec) : _root_.Go.OpenSpec := { _root_.Go.OpenSpec.ofChange s with cond := some uptoSmall }

/-- 'voxsatlaw.PitchPasts', WHERE WHAT IT READS IS OF BULK AT MOST 1048576: true; the input reads as it did. -/
def pitchPastsUptoRow : OpenClaim := { program := "ytjjpbleknbmmgaa", sum := "35f732bfbee4713bc1e176627294d0d6c66697d53571dd2794675ad32f6d7434", func := "voxsat/voxsatlaw.PitchPasts", spec := "pitchPasts", apart := false, narrowed := true }
def PitchPastsUptoSaid : Prop := pitchPastsUptoRow.holds Try.pinned (OpenSpec.upto pitchPastsSpec)

/-- 'voxsatlaw.PitchPicks', WHERE WHAT IT READS IS OF BULK AT MOST 1048576: true; the input reads as it did. -/
def pitchPicksUptoRow : OpenClaim := { program := "ytjjpbleknbmmgaa", sum := "35f732bfbee4713bc1e176627294d0d6c66697d53571dd2794675ad32f6d7434", func := "voxsat/voxsatlaw.PitchPicks", spec := "pitchPicks", inPlace := ["math/bits.Add64"], unfollowed := true, recurses := true, apart := false, narrowed := true }
def PitchPicksUptoSaid : Prop := pitchPicksUptoRow.holds Try.pinned (OpenSpec.upto pitchPicksSpec)

/-- 'voxsatlaw.PitchOpens', WHERE WHAT IT READS IS OF BULK AT MOST 1048576: true; the input reads as it did. -/
def pitchOpensUptoRow : OpenClaim := { program := "ytjjpbleknbmmgaa", sum := "35f732bfbee4713bc1e176627294d0d6c66697d53571dd2794675ad32f6d7434", func := "voxsat/voxsatlaw.PitchOpens", spec := "pitchOpens", inPlace := ["math/bits.Add64"], unfollowed := true, recurses := true, apart := false, narrowed := true }
def PitchOpensUptoSaid : Prop := pitchOpensUptoRow.holds Try.pinned (OpenSpec.upto pitchOpensSpec)

end Rows
end Go.Proofs.Ytjjpbleknbmmgaa
