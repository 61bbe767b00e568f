/-
  DERIVED. GIVEN WITH THE SEED: THE CARDS: each row of YtihphpcgjeokmaaGreatDoorRows.lean that lists a variable, with what it lists TIED to the program's text (the seventh form; the later family's looks); each row that meets fmt, with fmt's text TOLD by the authors' own Lean function (tested against real Go, not proved from fmt's source: count such statements apart). THE CARD IS WHAT COUNTS. Prove the row's statement (the work); the ties are given (YtihphpcgjeokmaaGreatDoorTie.lean); close each card by the builder's one call (the guide's Derived/Test/ToyasCard.lean, 'card_holds'). Laid BY PROGRAM, IN A SANDBOX (cutbox-door.mjs). By AI agents, Wed Nov 11 2026. No macro, syntax, notation, axiom, sorry.
-/
import Derived.Test.YtihphpcgjeokmaaGreatDoorRows
import GoSem.ClaimSeven
namespace Go.Proofs.YtihphpcgjeokmaaGreatDoor
namespace Rows

/-- THE TIED CARD OF 'voxsattop.TopSync'. -/
def topSyncCard : Claim7 := { stood := { row := topSyncRow, standIns := [], harness := (true, "9c700cea43ac3d01bbd890de51ca12acb6cd7bc2448561138542e1e9dfceb26c"), looks := false }, kinds := [], alts := [], laidByText := true, laidKinds := [.data, .data, .data], laidTests := true, laidLooks := .later }
def TopSyncCardSaid : Prop := Claim7.holds Tryz.pinned (.plain (OpenSpec.ofChange topSyncSpec)) topSyncCard

/-- THE TIED CARD OF 'voxsattop.TopRefresh'. -/
def topRefreshCard : Claim7 := { stood := { row := topRefreshRow, standIns := [], harness := (true, "9c700cea43ac3d01bbd890de51ca12acb6cd7bc2448561138542e1e9dfceb26c"), looks := false }, kinds := [], alts := [], laidByText := true, laidKinds := [.data, .data, .data], laidTests := true, laidLooks := .later }
def TopRefreshCardSaid : Prop := Claim7.holds Tryz.pinned (.plain (OpenSpec.ofChange topRefreshSpec)) topRefreshCard

/-- THE TIED CARD OF 'voxsattop.TopGood'. -/
def topGoodCard : Claim7 := { stood := { row := topGoodRow, standIns := [], harness := (true, "9c700cea43ac3d01bbd890de51ca12acb6cd7bc2448561138542e1e9dfceb26c"), looks := false }, kinds := [], alts := [], laidByText := true, laidKinds := [.data, .data, .data], laidTests := true, laidLooks := .later }
def TopGoodCardSaid : Prop := Claim7.holds Tryz.pinned (.plain (OpenSpec.ofChange topGoodSpec)) topGoodCard

/-- THE TIED CARD OF 'voxsattop.TopFades'. -/
def topFadesCard : Claim7 := { stood := { row := topFadesRow, standIns := [], harness := (true, "9c700cea43ac3d01bbd890de51ca12acb6cd7bc2448561138542e1e9dfceb26c"), looks := false }, kinds := [], alts := [], laidByText := true, laidKinds := [.data, .data, .data], laidTests := true, laidLooks := .later }
def TopFadesCardSaid : Prop := Claim7.holds Tryz.pinned (.plain (OpenSpec.ofChange topFadesSpec)) topFadesCard

/-- THE TIED CARD OF 'voxsattop.TopHeader'. -/
def topHeaderCard : Claim7 := { stood := { row := topHeaderRow, standIns := [], harness := (true, "9c700cea43ac3d01bbd890de51ca12acb6cd7bc2448561138542e1e9dfceb26c"), looks := false }, kinds := [], alts := [], laidByText := true, laidKinds := [.data, .data, .data], laidTests := true, laidLooks := .later }
def TopHeaderCardSaid : Prop := Claim7.holds Tryz.pinned (.plain (OpenSpec.ofChange topHeaderSpec)) topHeaderCard

/-- THE TIED CARD OF 'voxsattop.TopSilence'. -/
def topSilenceCard : Claim7 := { stood := { row := topSilenceRow, standIns := [], harness := (true, "9c700cea43ac3d01bbd890de51ca12acb6cd7bc2448561138542e1e9dfceb26c"), looks := false }, kinds := [], alts := [], laidByText := true, laidKinds := [.data, .data, .data], laidTests := true, laidLooks := .later }
def TopSilenceCardSaid : Prop := Claim7.holds Tryz.pinned (.plain (OpenSpec.ofChange topSilenceSpec)) topSilenceCard

/-- THE SECOND FORM's CARD OF 'voxsattop.TopSync'. -/
def topSyncUptoCard : Claim7 := { stood := { row := topSyncUptoRow, standIns := [], harness := (true, "9c700cea43ac3d01bbd890de51ca12acb6cd7bc2448561138542e1e9dfceb26c"), looks := false }, kinds := [], alts := [], laidByText := true, laidKinds := [.data, .data, .data], laidTests := true, laidLooks := .later }
def TopSyncUptoCardSaid : Prop := Claim7.holds Tryz.pinned (.plain (OpenSpec.upto topSyncSpec)) topSyncUptoCard

/-- THE SECOND FORM's CARD OF 'voxsattop.TopRefresh'. -/
def topRefreshUptoCard : Claim7 := { stood := { row := topRefreshUptoRow, standIns := [], harness := (true, "9c700cea43ac3d01bbd890de51ca12acb6cd7bc2448561138542e1e9dfceb26c"), looks := false }, kinds := [], alts := [], laidByText := true, laidKinds := [.data, .data, .data], laidTests := true, laidLooks := .later }
def TopRefreshUptoCardSaid : Prop := Claim7.holds Tryz.pinned (.plain (OpenSpec.upto topRefreshSpec)) topRefreshUptoCard

/-- THE SECOND FORM's CARD OF 'voxsattop.TopGood'. -/
def topGoodUptoCard : Claim7 := { stood := { row := topGoodUptoRow, standIns := [], harness := (true, "9c700cea43ac3d01bbd890de51ca12acb6cd7bc2448561138542e1e9dfceb26c"), looks := false }, kinds := [], alts := [], laidByText := true, laidKinds := [.data, .data, .data], laidTests := true, laidLooks := .later }
def TopGoodUptoCardSaid : Prop := Claim7.holds Tryz.pinned (.plain (OpenSpec.upto topGoodSpec)) topGoodUptoCard

/-- THE SECOND FORM's CARD OF 'voxsattop.TopFades'. -/
def topFadesUptoCard : Claim7 := { stood := { row := topFadesUptoRow, standIns := [], harness := (true, "9c700cea43ac3d01bbd890de51ca12acb6cd7bc2448561138542e1e9dfceb26c"), looks := false }, kinds := [], alts := [], laidByText := true, laidKinds := [.data, .data, .data], laidTests := true, laidLooks := .later }
def TopFadesUptoCardSaid : Prop := Claim7.holds Tryz.pinned (.plain (OpenSpec.upto topFadesSpec)) topFadesUptoCard

/-- THE SECOND FORM's CARD OF 'voxsattop.TopHeader'. -/
def topHeaderUptoCard : Claim7 := { stood := { row := topHeaderUptoRow, standIns := [], harness := (true, "9c700cea43ac3d01bbd890de51ca12acb6cd7bc2448561138542e1e9dfceb26c"), looks := false }, kinds := [], alts := [], laidByText := true, laidKinds := [.data, .data, .data], laidTests := true, laidLooks := .later }
def TopHeaderUptoCardSaid : Prop := Claim7.holds Tryz.pinned (.plain (OpenSpec.upto topHeaderSpec)) topHeaderUptoCard

/-- THE SECOND FORM's CARD OF 'voxsattop.TopSilence'. -/
def topSilenceUptoCard : Claim7 := { stood := { row := topSilenceUptoRow, standIns := [], harness := (true, "9c700cea43ac3d01bbd890de51ca12acb6cd7bc2448561138542e1e9dfceb26c"), looks := false }, kinds := [], alts := [], laidByText := true, laidKinds := [.data, .data, .data], laidTests := true, laidLooks := .later }
def TopSilenceUptoCardSaid : Prop := Claim7.holds Tryz.pinned (.plain (OpenSpec.upto topSilenceSpec)) topSilenceUptoCard
end Rows
end Go.Proofs.YtihphpcgjeokmaaGreatDoor
