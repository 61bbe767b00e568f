/-
  DERIVED. GIVEN WITH THE SEED: THE CARDS: each row of YtdejpongekicdaaGreatDoorRows.lean that lists a variable, with what it lists TIED to the program's text (the seventh form; the later family's looks); each row that meets fmt, with fmt's text TOLD by the authors' own Lean function (tested against real Go, not proved from fmt's source: count such statements apart). THE CARD IS WHAT COUNTS. Prove the row's statement (the work); the ties are given (YtdejpongekicdaaGreatDoorTie.lean); close each card by the builder's one call (the guide's Derived/Test/ToyasCard.lean, 'card_holds'). Laid BY PROGRAM, IN A SANDBOX (cutbox-door.mjs). By AI agents, Wed Nov 11 2026. No macro, syntax, notation, axiom, sorry.
-/
import Derived.Test.YtdejpongekicdaaGreatDoorRows
import GoSem.ClaimSeven
namespace Go.Proofs.YtdejpongekicdaaGreatDoor
namespace Rows

/-- THE TIED CARD OF 'voxsatlaw.DeskPlays'. -/
def deskPlaysCard : Claim7 := { stood := { row := deskPlaysRow, standIns := [], harness := (true, "4060675587c1d61915d520ba41005abc7f74bc3635cd5fb8bc30a95a2c3e9635"), looks := false }, kinds := [], alts := [], laidByText := true, laidKinds := [.data, .data, .data, .data, .data, .widerDeep], laidTests := true, laidLooks := .later }
def DeskPlaysCardSaid : Prop := Claim7.holds Tryz.pinned (.plain (OpenSpec.ofChange deskPlaysSpec)) deskPlaysCard

/-- THE TIED CARD OF 'voxsatlaw.DeskNil'. -/
def deskNilCard : Claim7 := { stood := { row := deskNilRow, standIns := [], harness := (true, "4060675587c1d61915d520ba41005abc7f74bc3635cd5fb8bc30a95a2c3e9635"), looks := false }, kinds := [], alts := [], laidByText := true, laidKinds := [.data, .data, .data], laidTests := true, laidLooks := .later }
def DeskNilCardSaid : Prop := Claim7.holds Tryz.pinned (.plain (OpenSpec.ofChange deskNilSpec)) deskNilCard

/-- THE TIED CARD OF 'voxsattop.TopLone'. -/
def topLoneCard : Claim7 := { stood := { row := topLoneRow, standIns := [], harness := (true, "4060675587c1d61915d520ba41005abc7f74bc3635cd5fb8bc30a95a2c3e9635"), looks := false }, kinds := [], alts := [], laidByText := true, laidKinds := [.data, .data, .data], laidTests := true, laidLooks := .later }
def TopLoneCardSaid : Prop := Claim7.holds Tryz.pinned (.plain (OpenSpec.ofChange topLoneSpec)) topLoneCard

/-- THE TIED CARD OF 'voxsattop.TopDesk'. -/
def topDeskCard : Claim7 := { stood := { row := topDeskRow, standIns := [], harness := (true, "4060675587c1d61915d520ba41005abc7f74bc3635cd5fb8bc30a95a2c3e9635"), looks := false }, kinds := [], alts := [], laidByText := true, laidKinds := [.data, .data, .data], laidTests := true, laidLooks := .later }
def TopDeskCardSaid : Prop := Claim7.holds Tryz.pinned (.plain (OpenSpec.ofChange topDeskSpec)) topDeskCard

/-- THE SECOND FORM's CARD OF 'voxsatlaw.DeskPlays'. -/
def deskPlaysUptoCard : Claim7 := { stood := { row := deskPlaysUptoRow, standIns := [], harness := (true, "4060675587c1d61915d520ba41005abc7f74bc3635cd5fb8bc30a95a2c3e9635"), looks := false }, kinds := [], alts := [], laidByText := true, laidKinds := [.data, .data, .data, .data, .data, .widerDeep], laidTests := true, laidLooks := .later }
def DeskPlaysUptoCardSaid : Prop := Claim7.holds Tryz.pinned (.plain (OpenSpec.upto deskPlaysSpec)) deskPlaysUptoCard

/-- THE SECOND FORM's CARD OF 'voxsatlaw.DeskNil'. -/
def deskNilUptoCard : Claim7 := { stood := { row := deskNilUptoRow, standIns := [], harness := (true, "4060675587c1d61915d520ba41005abc7f74bc3635cd5fb8bc30a95a2c3e9635"), looks := false }, kinds := [], alts := [], laidByText := true, laidKinds := [.data, .data, .data], laidTests := true, laidLooks := .later }
def DeskNilUptoCardSaid : Prop := Claim7.holds Tryz.pinned (.plain (OpenSpec.upto deskNilSpec)) deskNilUptoCard

/-- THE SECOND FORM's CARD OF 'voxsattop.TopLone'. -/
def topLoneUptoCard : Claim7 := { stood := { row := topLoneUptoRow, standIns := [], harness := (true, "4060675587c1d61915d520ba41005abc7f74bc3635cd5fb8bc30a95a2c3e9635"), looks := false }, kinds := [], alts := [], laidByText := true, laidKinds := [.data, .data, .data], laidTests := true, laidLooks := .later }
def TopLoneUptoCardSaid : Prop := Claim7.holds Tryz.pinned (.plain (OpenSpec.upto topLoneSpec)) topLoneUptoCard

/-- THE SECOND FORM's CARD OF 'voxsattop.TopDesk'. -/
def topDeskUptoCard : Claim7 := { stood := { row := topDeskUptoRow, standIns := [], harness := (true, "4060675587c1d61915d520ba41005abc7f74bc3635cd5fb8bc30a95a2c3e9635"), looks := false }, kinds := [], alts := [], laidByText := true, laidKinds := [.data, .data, .data], laidTests := true, laidLooks := .later }
def TopDeskUptoCardSaid : Prop := Claim7.holds Tryz.pinned (.plain (OpenSpec.upto topDeskSpec)) topDeskUptoCard
end Rows
end Go.Proofs.YtdejpongekicdaaGreatDoor
