/-
  DERIVED. GIVEN WITH THE SEED: THE CARDS: each row of YtjjpbleknbmmgaaDoorRows.lean that lists a variable, with what it lists TIED to the program's text (the seventh form; the later family's looks); each row that meets fmt, with fmt's text TOLD by the authors' own Lean function (tested against real Go, not proved from fmt's source: count such statements apart). THE CARD IS WHAT COUNTS. Prove the row's statement (the work); the ties are given (YtjjpbleknbmmgaaDoorTie.lean); close each card by the builder's one call (the guide's Derived/Test/ToyasCard.lean, 'card_holds'). Laid BY PROGRAM, IN A SANDBOX (cutbox-door.mjs). By AI agents, Wed Nov 11 2026. No macro, syntax, notation, axiom, sorry.
-/
import Derived.Test.YtjjpbleknbmmgaaDoorRows
import GoSem.ClaimSeven
namespace Go.Proofs.YtjjpbleknbmmgaaDoor
namespace Rows

/-- THE TIED CARD OF 'voxsatlaw.PitchGains'. -/
def pitchGainsCard : Claim7 := { stood := { row := pitchGainsRow, standIns := [], harness := (true, "3d63bbde03525ce8bd97845888c78fa6f7ee11f974a9507842aaf69508f4b70e"), looks := false }, kinds := [], alts := [], laidByText := true, laidKinds := [.data, .widerDeep], laidTests := true, laidLooks := .later }
def PitchGainsCardSaid : Prop := Claim7.holds Tryd.pinned (.plain (OpenSpec.ofChange pitchGainsSpec)) pitchGainsCard

/-- THE TIED CARD OF 'voxsatlaw.PitchNearests'. -/
def pitchNearestsCard : Claim7 := { stood := { row := pitchNearestsRow, standIns := [], harness := (true, "3d63bbde03525ce8bd97845888c78fa6f7ee11f974a9507842aaf69508f4b70e"), looks := false }, kinds := [], alts := [], laidByText := true, laidKinds := [.data, .widerDeep], laidTests := true, laidLooks := .later }
def PitchNearestsCardSaid : Prop := Claim7.holds Tryd.pinned (.plain (OpenSpec.ofChange pitchNearestsSpec)) pitchNearestsCard

/-- THE TIED CARD OF 'voxsatkeep.PastRepeats'. -/
def pastRepeatsCard : Claim7 := { stood := { row := pastRepeatsRow, standIns := [], harness := (true, "3d63bbde03525ce8bd97845888c78fa6f7ee11f974a9507842aaf69508f4b70e"), looks := false }, kinds := [], alts := [], laidByText := true, laidKinds := [.data], laidTests := true, laidLooks := .later }
def PastRepeatsCardSaid : Prop := Claim7.holds Tryd.pinned (.plain (OpenSpec.ofChange pastRepeatsSpec)) pastRepeatsCard

/-- THE SECOND FORM's CARD OF 'voxsatlaw.PitchGains'. -/
def pitchGainsUptoCard : Claim7 := { stood := { row := pitchGainsUptoRow, standIns := [], harness := (true, "3d63bbde03525ce8bd97845888c78fa6f7ee11f974a9507842aaf69508f4b70e"), looks := false }, kinds := [], alts := [], laidByText := true, laidKinds := [.data, .widerDeep], laidTests := true, laidLooks := .later }
def PitchGainsUptoCardSaid : Prop := Claim7.holds Tryd.pinned (.plain (OpenSpec.upto pitchGainsSpec)) pitchGainsUptoCard

/-- THE SECOND FORM's CARD OF 'voxsatlaw.PitchNearests'. -/
def pitchNearestsUptoCard : Claim7 := { stood := { row := pitchNearestsUptoRow, standIns := [], harness := (true, "3d63bbde03525ce8bd97845888c78fa6f7ee11f974a9507842aaf69508f4b70e"), looks := false }, kinds := [], alts := [], laidByText := true, laidKinds := [.data, .widerDeep], laidTests := true, laidLooks := .later }
def PitchNearestsUptoCardSaid : Prop := Claim7.holds Tryd.pinned (.plain (OpenSpec.upto pitchNearestsSpec)) pitchNearestsUptoCard

/-- THE SECOND FORM's CARD OF 'voxsatkeep.PastRepeats'. -/
def pastRepeatsUptoCard : Claim7 := { stood := { row := pastRepeatsUptoRow, standIns := [], harness := (true, "3d63bbde03525ce8bd97845888c78fa6f7ee11f974a9507842aaf69508f4b70e"), looks := false }, kinds := [], alts := [], laidByText := true, laidKinds := [.data], laidTests := true, laidLooks := .later }
def PastRepeatsUptoCardSaid : Prop := Claim7.holds Tryd.pinned (.plain (OpenSpec.upto pastRepeatsSpec)) pastRepeatsUptoCard
end Rows
end Go.Proofs.YtjjpbleknbmmgaaDoor
