/- Contracts of package synth's Make and Undo. -/
import Derived.Test.YtjjpbleknbmmgabDoorSynB
import Derived.Test.YtjjpbleknbmmgabDoorOrder
namespace Go.Proofs.YtjjpbleknbmmgabDoor
open Go.RowKit
set_option linter.unusedVariables false
set_option linter.unusedSimpArgs false
set_option maxHeartbeats 1000000

/-- A block of ints of any length as a list of the call's own. -/
theorem own_any {w : World} {b base : Nat} {rs : List Int} (h : Blk w b 3 rs) (hb : base ≤ b) (hl : rs.length ≤ 35184372088832) : Own base w (.slice (some ⟨b, 0, none⟩) rs.length rs.length) rs :=
  ⟨by simp, .inr ⟨b, rs.length, arrI rs, rfl, hb, h, Nat.le_refl _, by unfold maxLen; omega, by simp [arrI], by simp [arrI, List.take_of_length_le]⟩⟩
theorem self_tab (l : List Int) : l = tab l.length (fun j => nth l j) := tab_ext rfl (fun i _ => rfl)
end Go.Proofs.YtjjpbleknbmmgabDoor
