/-
  DERIVED. GIVEN WITH THE SEED: THE CARDS: each row of YtiamknnmgnbkgaaDoorRows.lean that lists a variable, with what it lists TIED to the program's text (the seventh form; the later family's looks); each row that meets fmt, with fmt's text TOLD by the authors' own Lean function (tested against real Go, not proved from fmt's source: count such statements apart). THE CARD IS WHAT COUNTS. Prove the row's statement (the work); the ties are given (YtiamknnmgnbkgaaDoorTie.lean); close each card by the builder's one call (the guide's Derived/Test/ToyasCard.lean, 'card_holds'). Laid BY PROGRAM, IN A SANDBOX (cutbox-door.mjs). By AI agents, Wed Nov 11 2026. No macro, syntax, notation, axiom, sorry.
-/
import Derived.Test.YtiamknnmgnbkgaaDoorRows
import GoSem.ClaimSeven
namespace Go.Proofs.YtiamknnmgnbkgaaDoor
namespace Rows

/-- THE TIED CARD OF 'voxsatlaw.GainLevels'. -/
def gainLevelsCard : Claim7 := { stood := { row := gainLevelsRow, standIns := [], harness := (true, "e85bf8f2f4229b98c67ddda846a28873f7a23db0dfe8ecccace171ed7f60098c"), looks := false }, kinds := [], alts := [], laidByText := true, laidKinds := [.data, .data], laidTests := true, laidLooks := .later }
def GainLevelsCardSaid : Prop := Claim7.holds Tryd.pinned (.plain (OpenSpec.ofChange gainLevelsSpec)) gainLevelsCard

/-- THE TIED CARD OF 'voxsatlaw.GainOnes'. -/
def gainOnesCard : Claim7 := { stood := { row := gainOnesRow, standIns := [], harness := (true, "e85bf8f2f4229b98c67ddda846a28873f7a23db0dfe8ecccace171ed7f60098c"), looks := false }, kinds := [], alts := [], laidByText := true, laidKinds := [.data, .data], laidTests := true, laidLooks := .later }
def GainOnesCardSaid : Prop := Claim7.holds Tryd.pinned (.plain (OpenSpec.ofChange gainOnesSpec)) gainOnesCard

/-- THE TIED CARD OF 'voxsatkeep.GainRises'. -/
def gainRisesCard : Claim7 := { stood := { row := gainRisesRow, standIns := [], harness := (true, "e85bf8f2f4229b98c67ddda846a28873f7a23db0dfe8ecccace171ed7f60098c"), looks := false }, kinds := [], alts := [], laidByText := true, laidKinds := [.data], laidTests := true, laidLooks := .later }
def GainRisesCardSaid : Prop := Claim7.holds Tryd.pinned (.plain (OpenSpec.ofChange gainRisesSpec)) gainRisesCard

/-- THE TIED CARD OF 'voxsatkeep.GainNear'. -/
def gainNearCard : Claim7 := { stood := { row := gainNearRow, standIns := [], harness := (true, "e85bf8f2f4229b98c67ddda846a28873f7a23db0dfe8ecccace171ed7f60098c"), looks := false }, kinds := [], alts := [], laidByText := true, laidKinds := [.data], laidTests := true, laidLooks := .later }
def GainNearCardSaid : Prop := Claim7.holds Tryd.pinned (.plain (OpenSpec.ofChange gainNearSpec)) gainNearCard

/-- THE SECOND FORM's CARD OF 'voxsatlaw.GainLevels'. -/
def gainLevelsUptoCard : Claim7 := { stood := { row := gainLevelsUptoRow, standIns := [], harness := (true, "e85bf8f2f4229b98c67ddda846a28873f7a23db0dfe8ecccace171ed7f60098c"), looks := false }, kinds := [], alts := [], laidByText := true, laidKinds := [.data, .data], laidTests := true, laidLooks := .later }
def GainLevelsUptoCardSaid : Prop := Claim7.holds Tryd.pinned (.plain (OpenSpec.upto gainLevelsSpec)) gainLevelsUptoCard

/-- THE SECOND FORM's CARD OF 'voxsatlaw.GainOnes'. -/
def gainOnesUptoCard : Claim7 := { stood := { row := gainOnesUptoRow, standIns := [], harness := (true, "e85bf8f2f4229b98c67ddda846a28873f7a23db0dfe8ecccace171ed7f60098c"), looks := false }, kinds := [], alts := [], laidByText := true, laidKinds := [.data, .data], laidTests := true, laidLooks := .later }
def GainOnesUptoCardSaid : Prop := Claim7.holds Tryd.pinned (.plain (OpenSpec.upto gainOnesSpec)) gainOnesUptoCard

/-- THE SECOND FORM's CARD OF 'voxsatkeep.GainRises'. -/
def gainRisesUptoCard : Claim7 := { stood := { row := gainRisesUptoRow, standIns := [], harness := (true, "e85bf8f2f4229b98c67ddda846a28873f7a23db0dfe8ecccace171ed7f60098c"), looks := false }, kinds := [], alts := [], laidByText := true, laidKinds := [.data], laidTests := true, laidLooks := .later }
def GainRisesUptoCardSaid : Prop := Claim7.holds Tryd.pinned (.plain (OpenSpec.upto gainRisesSpec)) gainRisesUptoCard

/-- THE SECOND FORM's CARD OF 'voxsatkeep.GainNear'. -/
def gainNearUptoCard : Claim7 := { stood := { row := gainNearUptoRow, standIns := [], harness := (true, "e85bf8f2f4229b98c67ddda846a28873f7a23db0dfe8ecccace171ed7f60098c"), looks := false }, kinds := [], alts := [], laidByText := true, laidKinds := [.data], laidTests := true, laidLooks := .later }
def GainNearUptoCardSaid : Prop := Claim7.holds Tryd.pinned (.plain (OpenSpec.upto gainNearSpec)) gainNearUptoCard
end Rows
end Go.Proofs.YtiamknnmgnbkgaaDoor
