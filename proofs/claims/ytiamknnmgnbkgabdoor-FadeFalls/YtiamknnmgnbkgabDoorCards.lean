/-
  DERIVED. GIVEN WITH THE SEED: THE CARDS: each row of YtiamknnmgnbkgabDoorRows.lean that lists a variable, with what it lists TIED to the program's text (the seventh form; the later family's looks); each row that meets fmt, with fmt's text TOLD by the authors' own Lean function (tested against real Go, not proved from fmt's source: count such statements apart). THE CARD IS WHAT COUNTS. Prove the row's statement (the work); the ties are given (YtiamknnmgnbkgabDoorTie.lean); close each card by the builder's one call (the guide's Derived/Test/ToyasCard.lean, 'card_holds'). Laid BY PROGRAM, IN A SANDBOX (cutbox-door.mjs). By AI agents, Wed Nov 11 2026. No macro, syntax, notation, axiom, sorry.
-/
import Derived.Test.YtiamknnmgnbkgabDoorRows
import GoSem.ClaimSeven
namespace Go.Proofs.YtiamknnmgnbkgabDoor
namespace Rows

/-- THE TIED CARD OF 'voxsatkeep.FadeFalls'. -/
def fadeFallsCard : Claim7 := { stood := { row := fadeFallsRow, standIns := [], harness := (true, "f27552a3d4cf9c372b0f3288807dc8a4d8ef4ffbb1f37e2ec04f3972cf28885b"), looks := false }, kinds := [], alts := [], laidByText := true, laidKinds := [.data], laidTests := true, laidLooks := .later }
def FadeFallsCardSaid : Prop := Claim7.holds Tryd.pinned (.plain (OpenSpec.ofChange fadeFallsSpec)) fadeFallsCard

/-- THE TIED CARD OF 'voxsatkeep.NoiseWithin'. -/
def noiseWithinCard : Claim7 := { stood := { row := noiseWithinRow, standIns := [], harness := (true, "f27552a3d4cf9c372b0f3288807dc8a4d8ef4ffbb1f37e2ec04f3972cf28885b"), looks := false }, kinds := [], alts := [], laidByText := true, laidKinds := [.data], laidTests := true, laidLooks := .later }
def NoiseWithinCardSaid : Prop := Claim7.holds Tryd.pinned (.plain (OpenSpec.ofChange noiseWithinSpec)) noiseWithinCard

/-- THE SECOND FORM's CARD OF 'voxsatkeep.FadeFalls'. -/
def fadeFallsUptoCard : Claim7 := { stood := { row := fadeFallsUptoRow, standIns := [], harness := (true, "f27552a3d4cf9c372b0f3288807dc8a4d8ef4ffbb1f37e2ec04f3972cf28885b"), looks := false }, kinds := [], alts := [], laidByText := true, laidKinds := [.data], laidTests := true, laidLooks := .later }
def FadeFallsUptoCardSaid : Prop := Claim7.holds Tryd.pinned (.plain (OpenSpec.upto fadeFallsSpec)) fadeFallsUptoCard

/-- THE SECOND FORM's CARD OF 'voxsatkeep.NoiseWithin'. -/
def noiseWithinUptoCard : Claim7 := { stood := { row := noiseWithinUptoRow, standIns := [], harness := (true, "f27552a3d4cf9c372b0f3288807dc8a4d8ef4ffbb1f37e2ec04f3972cf28885b"), looks := false }, kinds := [], alts := [], laidByText := true, laidKinds := [.data], laidTests := true, laidLooks := .later }
def NoiseWithinUptoCardSaid : Prop := Claim7.holds Tryd.pinned (.plain (OpenSpec.upto noiseWithinSpec)) noiseWithinUptoCard
end Rows
end Go.Proofs.YtiamknnmgnbkgabDoor
