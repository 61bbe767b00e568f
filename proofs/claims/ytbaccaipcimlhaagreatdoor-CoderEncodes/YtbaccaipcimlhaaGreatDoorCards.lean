/-
  DERIVED. GIVEN WITH THE SEED: THE CARDS: each row of YtbaccaipcimlhaaGreatDoorRows.lean that lists a variable, with what it lists TIED to the program's text (the seventh form; the later family's looks); each row that meets fmt, with fmt's text TOLD by the authors' own Lean function (tested against real Go, not proved from fmt's source: count such statements apart). THE CARD IS WHAT COUNTS. Prove the row's statement (the work); the ties are given (YtbaccaipcimlhaaGreatDoorTie.lean); close each card by the builder's one call (the guide's Derived/Test/ToyasCard.lean, 'card_holds'). Laid BY PROGRAM, IN A SANDBOX (cutbox-door.mjs). By AI agents, Wed Nov 11 2026. No macro, syntax, notation, axiom, sorry.
-/
import Derived.Test.YtbaccaipcimlhaaGreatDoorRows
import GoSem.ClaimSeven
namespace Go.Proofs.YtbaccaipcimlhaaGreatDoor
namespace Rows

/-- THE TIED CARD OF 'voxsatlaw.CoderEncodes'. -/
def coderEncodesCard : Claim7 := { stood := { row := coderEncodesRow, standIns := [], harness := (true, "cbe0c91d246fd1b6daa6f67a561486dd71c1cc23a2b3e880848442cc3ea11a9f"), looks := false }, kinds := [], alts := [], laidByText := true, laidKinds := [.data, .data, .data, .data, .data, .widerDeep], laidTests := true, laidLooks := .later }
def CoderEncodesCardSaid : Prop := Claim7.holds Tryz.pinned (.plain (OpenSpec.ofChange coderEncodesSpec)) coderEncodesCard

/-- THE SECOND FORM's CARD OF 'voxsatlaw.CoderEncodes'. -/
def coderEncodesUptoCard : Claim7 := { stood := { row := coderEncodesUptoRow, standIns := [], harness := (true, "cbe0c91d246fd1b6daa6f67a561486dd71c1cc23a2b3e880848442cc3ea11a9f"), looks := false }, kinds := [], alts := [], laidByText := true, laidKinds := [.data, .data, .data, .data, .data, .widerDeep], laidTests := true, laidLooks := .later }
def CoderEncodesUptoCardSaid : Prop := Claim7.holds Tryz.pinned (.plain (OpenSpec.upto coderEncodesSpec)) coderEncodesUptoCard
end Rows
end Go.Proofs.YtbaccaipcimlhaaGreatDoor
