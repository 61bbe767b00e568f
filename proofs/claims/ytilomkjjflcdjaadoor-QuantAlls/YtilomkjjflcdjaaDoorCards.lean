/-
  DERIVED. GIVEN WITH THE SEED: THE CARDS: each row of YtilomkjjflcdjaaDoorRows.lean that lists a variable, with what it lists TIED to the program's text (the seventh form; the later family's looks); each row that meets fmt, with fmt's text TOLD by the authors' own Lean function (tested against real Go, not proved from fmt's source: count such statements apart). THE CARD IS WHAT COUNTS. Prove the row's statement (the work); the ties are given (YtilomkjjflcdjaaDoorTie.lean); close each card by the builder's one call (the guide's Derived/Test/ToyasCard.lean, 'card_holds'). Laid BY PROGRAM, IN A SANDBOX (cutbox-door.mjs). By AI agents, Wed Nov 11 2026. No macro, syntax, notation, axiom, sorry.
-/
import Derived.Test.YtilomkjjflcdjaaDoorRows
import GoSem.ClaimSeven
namespace Go.Proofs.YtilomkjjflcdjaaDoor
namespace Rows

/-- THE TIED CARD OF 'voxsatlaw.QuantLevels'. -/
def quantLevelsCard : Claim7 := { stood := { row := quantLevelsRow, standIns := [], harness := (true, "bd50697c239d437762af3918e0543d7becb96cca8e9eb262e2df72f3e8b229db"), looks := false }, kinds := [], alts := [], laidByText := true, laidKinds := [.data, .data], laidTests := true, laidLooks := .later }
def QuantLevelsCardSaid : Prop := Claim7.holds Tryd.pinned (.plain (OpenSpec.ofChange quantLevelsSpec)) quantLevelsCard

/-- THE TIED CARD OF 'voxsatlaw.QuantOnes'. -/
def quantOnesCard : Claim7 := { stood := { row := quantOnesRow, standIns := [], harness := (true, "bd50697c239d437762af3918e0543d7becb96cca8e9eb262e2df72f3e8b229db"), looks := false }, kinds := [], alts := [], laidByText := true, laidKinds := [.data, .data], laidTests := true, laidLooks := .later }
def QuantOnesCardSaid : Prop := Claim7.holds Tryd.pinned (.plain (OpenSpec.ofChange quantOnesSpec)) quantOnesCard

/-- THE TIED CARD OF 'voxsatlaw.QuantAlls'. -/
def quantAllsCard : Claim7 := { stood := { row := quantAllsRow, standIns := [], harness := (true, "bd50697c239d437762af3918e0543d7becb96cca8e9eb262e2df72f3e8b229db"), looks := false }, kinds := [], alts := [], laidByText := true, laidKinds := [.data, .data], laidTests := true, laidLooks := .later }
def QuantAllsCardSaid : Prop := Claim7.holds Tryd.pinned (.plain (OpenSpec.ofChange quantAllsSpec)) quantAllsCard

/-- THE TIED CARD OF 'voxsatkeep.QuantBack'. -/
def quantBackCard : Claim7 := { stood := { row := quantBackRow, standIns := [], harness := (true, "bd50697c239d437762af3918e0543d7becb96cca8e9eb262e2df72f3e8b229db"), looks := false }, kinds := [], alts := [], laidByText := true, laidKinds := [.data], laidTests := true, laidLooks := .later }
def QuantBackCardSaid : Prop := Claim7.holds Tryd.pinned (.plain (OpenSpec.ofChange quantBackSpec)) quantBackCard

/-- THE TIED CARD OF 'voxsatkeep.QuantRises'. -/
def quantRisesCard : Claim7 := { stood := { row := quantRisesRow, standIns := [], harness := (true, "bd50697c239d437762af3918e0543d7becb96cca8e9eb262e2df72f3e8b229db"), looks := false }, kinds := [], alts := [], laidByText := true, laidKinds := [.data], laidTests := true, laidLooks := .later }
def QuantRisesCardSaid : Prop := Claim7.holds Tryd.pinned (.plain (OpenSpec.ofChange quantRisesSpec)) quantRisesCard

/-- THE TIED CARD OF 'voxsatkeep.QuantNear'. -/
def quantNearCard : Claim7 := { stood := { row := quantNearRow, standIns := [], harness := (true, "bd50697c239d437762af3918e0543d7becb96cca8e9eb262e2df72f3e8b229db"), looks := false }, kinds := [], alts := [], laidByText := true, laidKinds := [.data], laidTests := true, laidLooks := .later }
def QuantNearCardSaid : Prop := Claim7.holds Tryd.pinned (.plain (OpenSpec.ofChange quantNearSpec)) quantNearCard

/-- THE SECOND FORM's CARD OF 'voxsatlaw.QuantLevels'. -/
def quantLevelsUptoCard : Claim7 := { stood := { row := quantLevelsUptoRow, standIns := [], harness := (true, "bd50697c239d437762af3918e0543d7becb96cca8e9eb262e2df72f3e8b229db"), looks := false }, kinds := [], alts := [], laidByText := true, laidKinds := [.data, .data], laidTests := true, laidLooks := .later }
def QuantLevelsUptoCardSaid : Prop := Claim7.holds Tryd.pinned (.plain (OpenSpec.upto quantLevelsSpec)) quantLevelsUptoCard

/-- THE SECOND FORM's CARD OF 'voxsatlaw.QuantOnes'. -/
def quantOnesUptoCard : Claim7 := { stood := { row := quantOnesUptoRow, standIns := [], harness := (true, "bd50697c239d437762af3918e0543d7becb96cca8e9eb262e2df72f3e8b229db"), looks := false }, kinds := [], alts := [], laidByText := true, laidKinds := [.data, .data], laidTests := true, laidLooks := .later }
def QuantOnesUptoCardSaid : Prop := Claim7.holds Tryd.pinned (.plain (OpenSpec.upto quantOnesSpec)) quantOnesUptoCard

/-- THE SECOND FORM's CARD OF 'voxsatlaw.QuantAlls'. -/
def quantAllsUptoCard : Claim7 := { stood := { row := quantAllsUptoRow, standIns := [], harness := (true, "bd50697c239d437762af3918e0543d7becb96cca8e9eb262e2df72f3e8b229db"), looks := false }, kinds := [], alts := [], laidByText := true, laidKinds := [.data, .data], laidTests := true, laidLooks := .later }
def QuantAllsUptoCardSaid : Prop := Claim7.holds Tryd.pinned (.plain (OpenSpec.upto quantAllsSpec)) quantAllsUptoCard

/-- THE SECOND FORM's CARD OF 'voxsatkeep.QuantBack'. -/
def quantBackUptoCard : Claim7 := { stood := { row := quantBackUptoRow, standIns := [], harness := (true, "bd50697c239d437762af3918e0543d7becb96cca8e9eb262e2df72f3e8b229db"), looks := false }, kinds := [], alts := [], laidByText := true, laidKinds := [.data], laidTests := true, laidLooks := .later }
def QuantBackUptoCardSaid : Prop := Claim7.holds Tryd.pinned (.plain (OpenSpec.upto quantBackSpec)) quantBackUptoCard

/-- THE SECOND FORM's CARD OF 'voxsatkeep.QuantRises'. -/
def quantRisesUptoCard : Claim7 := { stood := { row := quantRisesUptoRow, standIns := [], harness := (true, "bd50697c239d437762af3918e0543d7becb96cca8e9eb262e2df72f3e8b229db"), looks := false }, kinds := [], alts := [], laidByText := true, laidKinds := [.data], laidTests := true, laidLooks := .later }
def QuantRisesUptoCardSaid : Prop := Claim7.holds Tryd.pinned (.plain (OpenSpec.upto quantRisesSpec)) quantRisesUptoCard

/-- THE SECOND FORM's CARD OF 'voxsatkeep.QuantNear'. -/
def quantNearUptoCard : Claim7 := { stood := { row := quantNearUptoRow, standIns := [], harness := (true, "bd50697c239d437762af3918e0543d7becb96cca8e9eb262e2df72f3e8b229db"), looks := false }, kinds := [], alts := [], laidByText := true, laidKinds := [.data], laidTests := true, laidLooks := .later }
def QuantNearUptoCardSaid : Prop := Claim7.holds Tryd.pinned (.plain (OpenSpec.upto quantNearSpec)) quantNearUptoCard
end Rows
end Go.Proofs.YtilomkjjflcdjaaDoor
