/-
  DERIVED. GIVEN WITH THE SEED: THE CARDS: each row of YtjepkgdejkifcaaGreatDoorRows.lean that lists a variable, with what it lists TIED to the program's text (the seventh form; the later family's looks); each row that meets fmt, with fmt's text TOLD by the authors' own Lean function (tested against real Go, not proved from fmt's source: count such statements apart). THE CARD IS WHAT COUNTS. Prove the row's statement (the work); the ties are given (YtjepkgdejkifcaaGreatDoorTie.lean); close each card by the builder's one call (the guide's Derived/Test/ToyasCard.lean, 'card_holds'). Laid BY PROGRAM, IN A SANDBOX (cutbox-door.mjs). By AI agents, Wed Nov 11 2026. No macro, syntax, notation, axiom, sorry.
-/
import Derived.Test.YtjepkgdejkifcaaGreatDoorRows
import GoSem.ClaimSeven
namespace Go.Proofs.YtjepkgdejkifcaaGreatDoor
namespace Rows

/-- THE TIED CARD OF 'voxsatlaw.CoderDecodes'. -/
def coderDecodesCard : Claim7 := { stood := { row := coderDecodesRow, standIns := [], harness := (true, "328f5317b806476a97feb02693de0bac6ddc4cc8f53e5280f86ee8ccde0716ff"), looks := false }, kinds := [], alts := [], laidByText := true, laidKinds := [.data, .data, .data, .data, .data, .widerDeep], laidTests := true, laidLooks := .later }
def CoderDecodesCardSaid : Prop := Claim7.holds Tryz.pinned (.plain (OpenSpec.ofChange coderDecodesSpec)) coderDecodesCard

/-- THE TIED CARD OF 'voxsatlaw.CoderEncodes'. -/
def coderEncodesCard : Claim7 := { stood := { row := coderEncodesRow, standIns := [], harness := (true, "328f5317b806476a97feb02693de0bac6ddc4cc8f53e5280f86ee8ccde0716ff"), looks := false }, kinds := [], alts := [], laidByText := true, laidKinds := [.data, .data, .data, .data, .data, .widerDeep], laidTests := true, laidLooks := .later }
def CoderEncodesCardSaid : Prop := Claim7.holds Tryz.pinned (.plain (OpenSpec.ofChange coderEncodesSpec)) coderEncodesCard

/-- THE TIED CARD OF 'voxsatkeep.DecodeGoods'. -/
def decodeGoodsCard : Claim7 := { stood := { row := decodeGoodsRow, standIns := [], harness := (true, "328f5317b806476a97feb02693de0bac6ddc4cc8f53e5280f86ee8ccde0716ff"), looks := false }, kinds := [], alts := [], laidByText := true, laidKinds := [.data, .data, .data], laidTests := true, laidLooks := .later }
def DecodeGoodsCardSaid : Prop := Claim7.holds Tryz.pinned (.plain (OpenSpec.ofChange decodeGoodsSpec)) decodeGoodsCard

/-- THE TIED CARD OF 'voxsatkeep.RefreshForgets'. -/
def refreshForgetsCard : Claim7 := { stood := { row := refreshForgetsRow, standIns := [], harness := (true, "328f5317b806476a97feb02693de0bac6ddc4cc8f53e5280f86ee8ccde0716ff"), looks := false }, kinds := [], alts := [], laidByText := true, laidKinds := [.data, .data, .data], laidTests := true, laidLooks := .later }
def RefreshForgetsCardSaid : Prop := Claim7.holds Tryz.pinned (.plain (OpenSpec.ofChange refreshForgetsSpec)) refreshForgetsCard

/-- THE TIED CARD OF 'voxsatkeep.CoderMemory'. -/
def coderMemoryCard : Claim7 := { stood := { row := coderMemoryRow, standIns := [], harness := (true, "328f5317b806476a97feb02693de0bac6ddc4cc8f53e5280f86ee8ccde0716ff"), looks := false }, kinds := [], alts := [], laidByText := true, laidKinds := [.data, .data, .data], laidTests := true, laidLooks := .later }
def CoderMemoryCardSaid : Prop := Claim7.holds Tryz.pinned (.plain (OpenSpec.ofChange coderMemorySpec)) coderMemoryCard

/-- THE SECOND FORM's CARD OF 'voxsatlaw.CoderDecodes'. -/
def coderDecodesUptoCard : Claim7 := { stood := { row := coderDecodesUptoRow, standIns := [], harness := (true, "328f5317b806476a97feb02693de0bac6ddc4cc8f53e5280f86ee8ccde0716ff"), looks := false }, kinds := [], alts := [], laidByText := true, laidKinds := [.data, .data, .data, .data, .data, .widerDeep], laidTests := true, laidLooks := .later }
def CoderDecodesUptoCardSaid : Prop := Claim7.holds Tryz.pinned (.plain (OpenSpec.upto coderDecodesSpec)) coderDecodesUptoCard

/-- THE SECOND FORM's CARD OF 'voxsatlaw.CoderEncodes'. -/
def coderEncodesUptoCard : Claim7 := { stood := { row := coderEncodesUptoRow, standIns := [], harness := (true, "328f5317b806476a97feb02693de0bac6ddc4cc8f53e5280f86ee8ccde0716ff"), looks := false }, kinds := [], alts := [], laidByText := true, laidKinds := [.data, .data, .data, .data, .data, .widerDeep], laidTests := true, laidLooks := .later }
def CoderEncodesUptoCardSaid : Prop := Claim7.holds Tryz.pinned (.plain (OpenSpec.upto coderEncodesSpec)) coderEncodesUptoCard

/-- THE SECOND FORM's CARD OF 'voxsatkeep.DecodeGoods'. -/
def decodeGoodsUptoCard : Claim7 := { stood := { row := decodeGoodsUptoRow, standIns := [], harness := (true, "328f5317b806476a97feb02693de0bac6ddc4cc8f53e5280f86ee8ccde0716ff"), looks := false }, kinds := [], alts := [], laidByText := true, laidKinds := [.data, .data, .data], laidTests := true, laidLooks := .later }
def DecodeGoodsUptoCardSaid : Prop := Claim7.holds Tryz.pinned (.plain (OpenSpec.upto decodeGoodsSpec)) decodeGoodsUptoCard

/-- THE SECOND FORM's CARD OF 'voxsatkeep.RefreshForgets'. -/
def refreshForgetsUptoCard : Claim7 := { stood := { row := refreshForgetsUptoRow, standIns := [], harness := (true, "328f5317b806476a97feb02693de0bac6ddc4cc8f53e5280f86ee8ccde0716ff"), looks := false }, kinds := [], alts := [], laidByText := true, laidKinds := [.data, .data, .data], laidTests := true, laidLooks := .later }
def RefreshForgetsUptoCardSaid : Prop := Claim7.holds Tryz.pinned (.plain (OpenSpec.upto refreshForgetsSpec)) refreshForgetsUptoCard

/-- THE SECOND FORM's CARD OF 'voxsatkeep.CoderMemory'. -/
def coderMemoryUptoCard : Claim7 := { stood := { row := coderMemoryUptoRow, standIns := [], harness := (true, "328f5317b806476a97feb02693de0bac6ddc4cc8f53e5280f86ee8ccde0716ff"), looks := false }, kinds := [], alts := [], laidByText := true, laidKinds := [.data, .data, .data], laidTests := true, laidLooks := .later }
def CoderMemoryUptoCardSaid : Prop := Claim7.holds Tryz.pinned (.plain (OpenSpec.upto coderMemorySpec)) coderMemoryUptoCard
end Rows
end Go.Proofs.YtjepkgdejkifcaaGreatDoor
