/-
  NARROWER THAN 'FOR EVERY INPUT', by the rows' own cells (each row's printed sentence says how): PitchGains: laid · PitchNearests: laid · PastRepeats: laid.
  DERIVED. THE GIVEN ROWS OF THIS SEAT. 3 by the template 'for every input the law returns true; each argument reads behind the call as it read before'; 0 by the template 'total and deterministic' (their statements: YtjjpbleknbmmgaaDoorTotals.lean).
  GIVEN WITH THE SEED: the statements are not yours to turn. If you find one false, say at which input.
  Laid BY PROGRAM, IN A SANDBOX (cutbox-rows.mjs): the forced cells as the released guide's own fill.sh prints them over the translation 9d3de2855e17a014… (all of the seat's roots in one cut). By AI agents, Wed Nov 11 2026. No macro, syntax, notation, axiom, sorry.
-/
import Derived.Test.YtjjpbleknbmmgaaDoorChecked
import GoSem.Claim
import GoSem.ClaimJoined
import GoSem.ClaimMapViews
import Derived.JoinedTies
import Derived.KernelRfl
namespace Go.Proofs.YtjjpbleknbmmgaaDoor
/- THE CELL 'sum', in the pinned program and in every row, IS THE sha256 OF THE DUMP (.gsa) THAT YtjjpbleknbmmgaaDoorProg.lean LOADS. Nothing in Lean hashes anything: it is a label: what it is worth is what the hold of that sum in a sandbox is worth. -/
noncomputable def Tryd.pinned : Pinned := { name := "ytjjpbleknbmmgaadoor", sum := "9d3de2855e17a014717054ac9f8427a69415ff934ccbd75d278e7636968f41ad", checked := Tryd.checked }
namespace Rows
def none {H : Type} : Left H := { results := [], args := [] }

/- WHAT THE LISTED PACKAGE-LEVEL VARIABLES READ AS WHEN THE CALL BEGINS. Each datum BY PROGRAM (the guide's laid-datum.mjs) off the statement by which the dump's own 'gosem.cut.vars' lays the variable. In a bare row this is a premise. The card (YtjjpbleknbmmgaaDoorCards.lean) ties it to the program's text. -/
def laid_voxsat_pitch_gains {H : Type} : DataW H := .agg [.lit (.int .i64 0), .lit (.int .i64 3277), .lit (.int .i64 6554), .lit (.int .i64 9830), .lit (.int .i64 12452), .lit (.int .i64 14746), .lit (.int .i64 16384), .lit (.int .i64 18022)]
def laid_voxsat_voxsatref_pitchGains {H : Type} : DataW H := .slice [.lit (.int .i64 0), .lit (.int .i64 3277), .lit (.int .i64 6554), .lit (.int .i64 9830), .lit (.int .i64 12452), .lit (.int .i64 14746), .lit (.int .i64 16384), .lit (.int .i64 18022)] []

/-- 'voxsatlaw.PitchGains': WHATEVER THE INPUT: true; the input reads as it did. -/
def pitchGainsSpec : ChangeSpec := { name := "pitchGains", fn := fun _ => fun
  | [d] => { results := [.lit (.bool true)], args := [d] }
  | _ => none }
def pitchGainsRow : OpenClaim := { program := "ytjjpbleknbmmgaadoor", sum := "9d3de2855e17a014717054ac9f8427a69415ff934ccbd75d278e7636968f41ad", func := "voxsat/voxsatlaw.PitchGains", spec := "pitchGains", named := ["voxsat/pitch.gains", "voxsat/voxsatref.pitchGains"], apart := false, laid := [("voxsat/pitch.gains", laid_voxsat_pitch_gains), ("voxsat/voxsatref.pitchGains", laid_voxsat_voxsatref_pitchGains)] }
def PitchGainsSaid : Prop := pitchGainsRow.holds Tryd.pinned (OpenSpec.ofChange pitchGainsSpec)

/-- ITS FALSE NEIGHBOUR: 'it returns false'. Refute it at one input. -/
def pitchGainsWrong : ChangeSpec := { name := "pitchGains", fn := fun _ => fun
  | [d] => { results := [.lit (.bool false)], args := [d] }
  | _ => none }
def PitchGainsWrongFalsely : Prop := pitchGainsRow.holds Tryd.pinned (OpenSpec.ofChange pitchGainsWrong)

/-- 'voxsatlaw.PitchNearests': WHATEVER THE INPUT: true; the input reads as it did. -/
def pitchNearestsSpec : ChangeSpec := { name := "pitchNearests", fn := fun _ => fun
  | [d1, d2] => { results := [.lit (.bool true)], args := [d1, d2] }
  | _ => none }
def pitchNearestsRow : OpenClaim := { program := "ytjjpbleknbmmgaadoor", sum := "9d3de2855e17a014717054ac9f8427a69415ff934ccbd75d278e7636968f41ad", func := "voxsat/voxsatlaw.PitchNearests", spec := "pitchNearests", named := ["voxsat/pitch.gains", "voxsat/voxsatref.pitchGains"], apart := false, laid := [("voxsat/pitch.gains", laid_voxsat_pitch_gains), ("voxsat/voxsatref.pitchGains", laid_voxsat_voxsatref_pitchGains)] }
def PitchNearestsSaid : Prop := pitchNearestsRow.holds Tryd.pinned (OpenSpec.ofChange pitchNearestsSpec)

/-- ITS FALSE NEIGHBOUR: 'it returns false'. Refute it at one input. -/
def pitchNearestsWrong : ChangeSpec := { name := "pitchNearests", fn := fun _ => fun
  | [d1, d2] => { results := [.lit (.bool false)], args := [d1, d2] }
  | _ => none }
def PitchNearestsWrongFalsely : Prop := pitchNearestsRow.holds Tryd.pinned (OpenSpec.ofChange pitchNearestsWrong)

/-- 'voxsatkeep.PastRepeats': WHATEVER THE INPUT: true; the input reads as it did. -/
def pastRepeatsSpec : ChangeSpec := { name := "pastRepeats", fn := fun _ => fun
  | [d1, d2] => { results := [.lit (.bool true)], args := [d1, d2] }
  | _ => none }
def pastRepeatsRow : OpenClaim := { program := "ytjjpbleknbmmgaadoor", sum := "9d3de2855e17a014717054ac9f8427a69415ff934ccbd75d278e7636968f41ad", func := "voxsat/voxsatkeep.PastRepeats", spec := "pastRepeats", named := ["voxsat/pitch.gains"], apart := false, laid := [("voxsat/pitch.gains", laid_voxsat_pitch_gains)] }
def PastRepeatsSaid : Prop := pastRepeatsRow.holds Tryd.pinned (OpenSpec.ofChange pastRepeatsSpec)

/-- ITS FALSE NEIGHBOUR: 'it returns false'. Refute it at one input. -/
def pastRepeatsWrong : ChangeSpec := { name := "pastRepeats", fn := fun _ => fun
  | [d1, d2] => { results := [.lit (.bool false)], args := [d1, d2] }
  | _ => none }
def PastRepeatsWrongFalsely : Prop := pastRepeatsRow.holds Tryd.pinned (OpenSpec.ofChange pastRepeatsWrong)

/- THE SECOND FORM. 'bulk': how many values and letters a reading holds, each counted each time it is reached (what is shared counts as often as it is met; a slice's spare places count too). A statement '..UptoSaid' is the law's where the arguments, and the package variables that the reading takes, are together of bulk at most 1048576: NARROWER than '..Said'. Prove '..Said' where nothing that the law and all that it calls make is longer than what came in: it says more and counts as full. Else prove '..UptoSaid'. A law counts once. -/
mutual
def uptoBulk {H : Type} : DataW H → Nat
  | .lit (.string bytes) => bytes.length + 1
  | .lit _ => 1
  | .nil => 1
  | .ptr d => uptoBulk d + 1
  | .slice elems spare => uptoBulkAll elems + uptoBulkAll spare + 1
  | .agg parts => uptoBulkAll parts + 1
  | .iface _ d => uptoBulk d + 1
  | .map entries => uptoBulkEntries entries + 1
  | .held _ => 1
def uptoBulkAll {H : Type} : List (DataW H) → Nat
  | [] => 0
  | d :: r => uptoBulk d + uptoBulkAll r
def uptoBulkEntries {H : Type} : List (Lit × DataW H) → Nat
  | [] => 0
  | x :: r => uptoBulkEntry x + uptoBulkEntries r
def uptoBulkEntry {H : Type} : Lit × DataW H → Nat
  | (.string bytes, d) => bytes.length + uptoBulk d + 1
  | (_, d) => uptoBulk d + 1
 end
def uptoSmall : (H : Type) → List (DataW H) → Bool := fun _ ds => decide (uptoBulkAll ds ≤ 1048576)
def OpenSpec.upto (s : _root_.Go.ChangeSpec) : _root_.Go.OpenSpec := { _root_.Go.OpenSpec.ofChange s with cond := some uptoSmall }

/-- 'voxsatlaw.PitchGains', WHERE WHAT IT READS IS OF BULK AT MOST 1048576: true; the input reads as it did. -/
def pitchGainsUptoRow : OpenClaim := { program := "ytjjpbleknbmmgaadoor", sum := "9d3de2855e17a014717054ac9f8427a69415ff934ccbd75d278e7636968f41ad", func := "voxsat/voxsatlaw.PitchGains", spec := "pitchGains", named := ["voxsat/pitch.gains", "voxsat/voxsatref.pitchGains"], apart := false, laid := [("voxsat/pitch.gains", laid_voxsat_pitch_gains), ("voxsat/voxsatref.pitchGains", laid_voxsat_voxsatref_pitchGains)], narrowed := true }
def PitchGainsUptoSaid : Prop := pitchGainsUptoRow.holds Tryd.pinned (OpenSpec.upto pitchGainsSpec)

/-- 'voxsatlaw.PitchNearests', WHERE WHAT IT READS IS OF BULK AT MOST 1048576: true; the input reads as it did. -/
def pitchNearestsUptoRow : OpenClaim := { program := "ytjjpbleknbmmgaadoor", sum := "9d3de2855e17a014717054ac9f8427a69415ff934ccbd75d278e7636968f41ad", func := "voxsat/voxsatlaw.PitchNearests", spec := "pitchNearests", named := ["voxsat/pitch.gains", "voxsat/voxsatref.pitchGains"], apart := false, laid := [("voxsat/pitch.gains", laid_voxsat_pitch_gains), ("voxsat/voxsatref.pitchGains", laid_voxsat_voxsatref_pitchGains)], narrowed := true }
def PitchNearestsUptoSaid : Prop := pitchNearestsUptoRow.holds Tryd.pinned (OpenSpec.upto pitchNearestsSpec)

/-- 'voxsatkeep.PastRepeats', WHERE WHAT IT READS IS OF BULK AT MOST 1048576: true; the input reads as it did. -/
def pastRepeatsUptoRow : OpenClaim := { program := "ytjjpbleknbmmgaadoor", sum := "9d3de2855e17a014717054ac9f8427a69415ff934ccbd75d278e7636968f41ad", func := "voxsat/voxsatkeep.PastRepeats", spec := "pastRepeats", named := ["voxsat/pitch.gains"], apart := false, laid := [("voxsat/pitch.gains", laid_voxsat_pitch_gains)], narrowed := true }
def PastRepeatsUptoSaid : Prop := pastRepeatsUptoRow.holds Tryd.pinned (OpenSpec.upto pastRepeatsSpec)

end Rows
end Go.Proofs.YtjjpbleknbmmgaaDoor
