/-
  DERIVED. GIVEN WITH THE SEED: THE CARDS: each row of YtfeoeonhfcjmgabDoorRows.lean that lists a variable, with what it lists TIED to the program's text (the seventh form; the later family's looks); each row that meets fmt, with fmt's text TOLD by the authors' own Lean function (tested against real Go, not proved from fmt's source: count such statements apart). THE CARD IS WHAT COUNTS. Prove the row's statement (the work); the ties are given (YtfeoeonhfcjmgabDoorTie.lean); close each card by the builder's one call (the guide's Derived/Test/ToyasCard.lean, 'card_holds'). Laid BY PROGRAM, IN A SANDBOX (cutbox-door.mjs). By AI agents, Wed Nov 11 2026. No macro, syntax, notation, axiom, sorry.
-/
import Derived.Test.YtfeoeonhfcjmgabDoorRows
import GoSem.ClaimSeven
namespace Go.Proofs.YtfeoeonhfcjmgabDoor
namespace Rows

/-- THE TIED CARD OF 'voxsatkeep.PowRises'. -/
def powRisesCard : Claim7 := { stood := { row := powRisesRow, standIns := [], harness := (true, "a2f760480134b6719efdaf19bdad1a263b3459f3af9dc52171fcf1c86083b247"), looks := false }, kinds := [], alts := [], laidByText := true, laidKinds := [.data], laidTests := true, laidLooks := .later }
def PowRisesCardSaid : Prop := Claim7.holds Tryd.pinned (.plain (OpenSpec.ofChange powRisesSpec)) powRisesCard

/-- THE SECOND FORM's CARD OF 'voxsatkeep.PowRises'. -/
def powRisesUptoCard : Claim7 := { stood := { row := powRisesUptoRow, standIns := [], harness := (true, "a2f760480134b6719efdaf19bdad1a263b3459f3af9dc52171fcf1c86083b247"), looks := false }, kinds := [], alts := [], laidByText := true, laidKinds := [.data], laidTests := true, laidLooks := .later }
def PowRisesUptoCardSaid : Prop := Claim7.holds Tryd.pinned (.plain (OpenSpec.upto powRisesSpec)) powRisesUptoCard
end Rows
end Go.Proofs.YtfeoeonhfcjmgabDoor
