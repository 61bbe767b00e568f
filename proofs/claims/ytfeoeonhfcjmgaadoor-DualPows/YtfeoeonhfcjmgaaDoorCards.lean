/-
  DERIVED. GIVEN WITH THE SEED: THE CARDS: each row of YtfeoeonhfcjmgaaDoorRows.lean that lists a variable, with what it lists TIED to the program's text (the seventh form; the later family's looks); each row that meets fmt, with fmt's text TOLD by the authors' own Lean function (tested against real Go, not proved from fmt's source: count such statements apart). THE CARD IS WHAT COUNTS. Prove the row's statement (the work); the ties are given (YtfeoeonhfcjmgaaDoorTie.lean); close each card by the builder's one call (the guide's Derived/Test/ToyasCard.lean, 'card_holds'). Laid BY PROGRAM, IN A SANDBOX (cutbox-door.mjs). By AI agents, Wed Nov 11 2026. No macro, syntax, notation, axiom, sorry.
-/
import Derived.Test.YtfeoeonhfcjmgaaDoorRows
import GoSem.ClaimSeven
namespace Go.Proofs.YtfeoeonhfcjmgaaDoor
namespace Rows

/-- THE TIED CARD OF 'voxsatlaw.DualPows'. -/
def dualPowsCard : Claim7 := { stood := { row := dualPowsRow, standIns := [], harness := (true, "3117435fa47029c4e4cbd276de53cc87c0c05f26c3cac201a815a8c4d64bcd8b"), looks := false }, kinds := [], alts := [], laidByText := true, laidKinds := [.data, .data], laidTests := true, laidLooks := .later }
def DualPowsCardSaid : Prop := Claim7.holds Tryd.pinned (.plain (OpenSpec.ofChange dualPowsSpec)) dualPowsCard

/-- THE SECOND FORM's CARD OF 'voxsatlaw.DualPows'. -/
def dualPowsUptoCard : Claim7 := { stood := { row := dualPowsUptoRow, standIns := [], harness := (true, "3117435fa47029c4e4cbd276de53cc87c0c05f26c3cac201a815a8c4d64bcd8b"), looks := false }, kinds := [], alts := [], laidByText := true, laidKinds := [.data, .data], laidTests := true, laidLooks := .later }
def DualPowsUptoCardSaid : Prop := Claim7.holds Tryd.pinned (.plain (OpenSpec.upto dualPowsSpec)) dualPowsUptoCard
end Rows
end Go.Proofs.YtfeoeonhfcjmgaaDoor
