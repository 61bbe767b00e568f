/-
  DERIVED. GIVEN WITH THE SEED: THE PROGRAM's TIES (one call each: nine closed facts by the kernel) AND EACH ROW's TIE, after the 31st guide's Derived/Test/Toyas{Tie, Card}.lean. No idea stands in it: it is a product of the set-up. Laid BY PROGRAM, IN A SANDBOX (cutbox-door.mjs). By AI agents, Wed Nov 11 2026. No macro, syntax, notation, axiom, sorry.
-/
import Derived.Test.YtjjpbleknbmmgaaDoorRows
import Derived.LaidByTextLater
import Derived.SevenTiedAt
import Derived.LaidSub
import Derived.LaidOnce
namespace Go.Proofs.YtjjpbleknbmmgaaDoor
open Go
set_option maxRecDepth 100000
theorem seatTie1 : Tryd.prog.laidByTextLater [("voxsat/pitch.gains", Rows.laid_voxsat_pitch_gains), ("voxsat/voxsatref.pitchGains", Rows.laid_voxsat_voxsatref_pitchGains)] [.data, .widerDeep] true :=
  Program.laidByTextLater_by_one 19 8 9 (by kernel_rfl) (by kernel_rfl) (by kernel_rfl) (by kernel_rfl) (by kernel_rfl) (by kernel_rfl) (fun _ _ => by kernel_rfl)
theorem noOwnUnsafe : Tryd.pinned.checked.prog.headLifts.contains "ownunsafe" = false := by kernel_rfl
theorem tie : Tryd.prog.laidByTextLater [("voxsat/pitch.gains", Rows.laid_voxsat_pitch_gains), ("voxsat/voxsatref.pitchGains", Rows.laid_voxsat_voxsatref_pitchGains)] [.data, .widerDeep] true :=
  Program.laidByTextLater.sub seatTie1 ["voxsat/pitch.gains", "voxsat/voxsatref.pitchGains"] (by kernel_rfl) (by kernel_rfl)
theorem pitchGains_row_tie : Rows.pitchGainsRow.laidByTextAt .later Tryd.pinned [.data, .widerDeep] true :=
  OpenClaim.laidByTextAt_later rfl rfl tie noOwnUnsafe
theorem pitchNearests_row_tie : Rows.pitchNearestsRow.laidByTextAt .later Tryd.pinned [.data, .widerDeep] true :=
  OpenClaim.laidByTextAt_later rfl rfl tie noOwnUnsafe
theorem tie2 : Tryd.prog.laidByTextLater [("voxsat/pitch.gains", Rows.laid_voxsat_pitch_gains)] [.data] true :=
  Program.laidByTextLater.sub seatTie1 ["voxsat/pitch.gains"] (by kernel_rfl) (by kernel_rfl)
theorem pastRepeats_row_tie : Rows.pastRepeatsRow.laidByTextAt .later Tryd.pinned [.data] true :=
  OpenClaim.laidByTextAt_later rfl rfl tie2 noOwnUnsafe
theorem pitchGainsUpto_row_tie : Rows.pitchGainsUptoRow.laidByTextAt .later Tryd.pinned [.data, .widerDeep] true :=
  OpenClaim.laidByTextAt_later rfl rfl tie noOwnUnsafe
theorem pitchNearestsUpto_row_tie : Rows.pitchNearestsUptoRow.laidByTextAt .later Tryd.pinned [.data, .widerDeep] true :=
  OpenClaim.laidByTextAt_later rfl rfl tie noOwnUnsafe
theorem pastRepeatsUpto_row_tie : Rows.pastRepeatsUptoRow.laidByTextAt .later Tryd.pinned [.data] true :=
  OpenClaim.laidByTextAt_later rfl rfl tie2 noOwnUnsafe
end Go.Proofs.YtjjpbleknbmmgaaDoor
