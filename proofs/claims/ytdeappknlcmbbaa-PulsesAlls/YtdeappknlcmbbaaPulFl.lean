/- The contract of the statements' own flat. -/
import Derived.Test.YtdeappknlcmbbaaLpcA
import Derived.Test.YtdeappknlcmbbaaPulMath
import Derived.BigQuiet
import Derived.Deep.QuietTactic
namespace Go.Proofs.Ytdeappknlcmbbaa
open Go.RowKit
set_option linter.unusedVariables false
set_option linter.unusedSimpArgs false
set_option maxHeartbeats 1000000

def flatL (n : Int) : List Int := tab 40 (fun _ => n)
theorem flatL_len (n : Int) : (flatL n).length = 40 := tab_len _ _
theorem flat_ints {w : World} {b : Nat} {n : Int} (h : Blk w b 3 (flatL n)) : Ints w (.slice (some ⟨b, 0, none⟩) 40 40) (flatL n) := by
  have := Ints_blk h 40 (by rw [flatL_len]; omega)
  rw [flatL_len] at this
  exact this
theorem flat_any (n : Int) (w : World) : Calls Try.prog 21 #[.int .i64 n] w fun e w' => e = .returned (.slice (some ⟨w.heap.size, 0, none⟩) 40 40) ∧ Blk w' w.heap.size 3 (flatL n) ∧ w.grownBy w' none := by
  have M0 := hide (show Blk (w.alloc (.cells (arrI (zeros 40)) 3)) w.heap.size 3 (zeros 40) ∧ w.grownBy (w.alloc (.cells (arrI (zeros 40)) 3)) none from ⟨Blk.new w 3 (zeros 40), grown_alloc _ _ none⟩)
  have hmk := make_zeros 40 (by omega)
  rw [show ((40 : Nat) : Int) = 40 from rfl] at hmk
  go_enter Try.func21, Try.ntmps21
  go_wp2_with fail
  clear hmk
  generalize w.alloc (.cells (arrI (zeros 40)) 3) = W0 at *
  go_loopw [4] (fun i wr => ∃ (m : Nat) (rs : List Int), i = .int .i64 m ∧ m ≤ 40 ∧ Hid (FillN 40 (fun _ => n) m rs) ∧ Hid (Blk wr w.heap.size 3 rs ∧ w.grownBy wr none)) (fun i _ => 40 - (intOf i).toNat)
  case atStart => exact ⟨0, zeros 40, rfl, Nat.zero_le _, fillN_start 40 _, M0.out⟩
  case round =>
    obtain ⟨m, rs, rfl, hm, hF, hM⟩ := hrel
    clear M0
    by_cases hm40 : m < 40
    · have hlen : rs.length = 40 := hF.out.1
      have cd := hM.out.1.cell m (by omega)
      have fd := hM.out.1.free m
      have NF := hide (fillN_step hF.out hm40)
      have NM := hide (show Blk (wr.setCell ⟨w.heap.size, m, none⟩ (.int .i64 n)) w.heap.size 3 (rs.set m n) ∧ w.grownBy (wr.setCell ⟨w.heap.size, m, none⟩ (.int .i64 n)) none from ⟨hM.out.1.set m _, grown_own hM.out.2 (grown_setCell wr ⟨w.heap.size, m, none⟩ _) (Nat.le_refl _)⟩)
      have i1 : (m : Int) < 40 := by omega
      clear hF hM hlen
      generalize nth rs m = q at *
      go_wp2_with fail
      go_roundw
      case rel => exact ⟨m + 1, _, by go_num, by omega, NF.out, NM.out⟩
      case measure => simp [intOf]; omega
    · obtain rfl : m = 40 := by omega
      have EL := hide (show rs = flatL n from fillN_all hF.out)
      have GF := hide hM.out
      clear hF hM
      rw [show ((40 : Nat) : Int) = 40 from rfl]
      go_wp2_with fail
      go_ret
      rw [EL.out] at GF
      exact ⟨rfl, GF.out.1, GF.out.2⟩
end Go.Proofs.Ytdeappknlcmbbaa
