/- Contracts of package synth's stopped, rounded, samples, predictor, guess, after. -/
import Derived.Test.YtjjpbleknbmmgabDoorLpcA
import Derived.Test.YtjjpbleknbmmgabDoorBase
import Derived.Test.YtjjpbleknbmmgabDoorSynW
import Derived.Laws.CopyOwn
import Derived.BigQuiet
import Derived.Deep.QuietTactic
namespace Go.Proofs.YtjjpbleknbmmgabDoor
open Go.RowKit
set_option linter.unusedVariables false
set_option linter.unusedSimpArgs false
set_option maxHeartbeats 1000000

theorem stopped_any (x : Int) (w : World) : Calls Tryd.prog 21 #[.int .i64 x] w (Ans w (.int .i64 (c16 x))) := by
  have F := hide (show Ans w (.int .i64 (c16 x)) (.returned (.int .i64 (c16 x))) w from ⟨rfl, rfl⟩)
  have S := hide (sat16_any x w)
  generalize Ans w (.int .i64 (c16 x)) = T at *
  go_enter Tryd.func21, Tryd.ntmps21
  go_wp2_with fail
  refine S.out.mono ?_
  rintro e w1 ⟨rfl, rfl⟩
  clear S
  go_wp2_with fail
  exact F.out
theorem synRounded_any (x : Int) (h1 : -4611686018427387904 ≤ x) (h2 : x ≤ 4611686018427387904) (w : World) : Calls Tryd.prog 22 #[.int .i64 x] w (Ans w (.int .i64 ((x + 2048) / 4096))) := by
  have F := hide (show Ans w (.int .i64 ((x + 2048) / 4096)) (.returned (.int .i64 ((x + 2048) / 4096))) w from ⟨rfl, rfl⟩)
  generalize Ans w (.int .i64 ((x + 2048) / 4096)) = T at *
  go_enter Tryd.func22, Tryd.ntmps22
  go_wp2_with fail
  exact F.out
theorem c16_out (z : Int) (h : ¬ (-32768 ≤ z ∧ z ≤ 32767)) : ¬ c16 z = z := by
  unfold c16
  split
  · omega
  · split <;> omega
theorem synSamples_any (v : Value) (l : List Int) (w : World) (h : Ints w v l) (hl : l.length ≤ 1000000000000000000) :
    Calls Tryd.prog 20 #[v] w (Ans w (.bool (rightB l))) := by
  obtain ⟨ad, c, rfl, hc, hcell⟩ := h
  have Y := hide (fun (hh : ∀ i, i < l.length → -32768 ≤ nth l i ∧ nth l i ≤ 32767) => (show Ans w (.bool (rightB l)) (.returned (.bool true)) w from ⟨by rw [(rightB_iff l).2 hh], rfl⟩))
  have N := hide (fun i (hi' : i < l.length) (hh : ¬ (-32768 ≤ nth l i ∧ nth l i ≤ 32767)) => (show Ans w (.bool (rightB l)) (.returned (.bool false)) w from ⟨by
    rcases hb : rightB l with _ | _
    · rfl
    · exact absurd ((rightB_iff l).1 hb i hi') hh, rfl⟩))
  generalize Ans w (.bool (rightB l)) = T at *
  go_enter Tryd.func20, Tryd.ntmps20
  go_wp2_with fail
  go_loop [7] (fun i => ∃ k : Nat, i = .int .i64 k ∧ k ≤ l.length ∧ Hid (∀ i, i < k → -32768 ≤ nth l i ∧ nth l i ≤ 32767)) (fun i => l.length - (intOf i).toNat)
  case atStart => exact ⟨0, rfl, Nat.zero_le _, fun i hi => by omega⟩
  case round =>
    obtain ⟨k, rfl, hk, hG⟩ := hrel
    by_cases hkl : k < l.length
    · obtain ⟨a, rfl, hv⟩ := hcell (by omega)
      have hck := hv k hkl
      have NK := hide (N.out k hkl)
      have GK := hide (fun (hh : -32768 ≤ nth l k ∧ nth l k ≤ 32767) => (show ∀ i, i < k + 1 → -32768 ≤ nth l i ∧ nth l i ≤ 32767 from fun i hi => by
        rcases Nat.lt_or_ge i k with g | g
        · exact hG.out i g
        · obtain rfl : i = k := by omega
          exact hh))
      clear hcell hv Y N hG
      generalize nth l k = z at *
      have kl1 : (k : Int) < l.length := by omega
      have ST := hide (stopped_any z w)
      by_cases hz : -32768 ≤ z ∧ z ≤ 32767
      · have F := hide (GK.out hz)
        rw [c16_id z hz.1 hz.2] at ST
        clear NK GK hz
        go_wp2_with fail
        refine ST.out.mono ?_
        rintro e w1 ⟨rfl, rfl⟩
        clear ST
        go_wp2_with fail
        go_round
        case rel => exact ⟨k + 1, by go_num, by omega, F.out⟩
        case measure => simp [intOf]; omega
      · have F := hide (NK.out hz)
        have hne := c16_out z hz
        have hne' : (c16 z == z) = false := by simpa using hne
        generalize c16 z = y at *
        clear NK GK hz
        go_wp2_with fail
        refine ST.out.mono ?_
        rintro e w1 ⟨rfl, rfl⟩
        clear ST
        go_wp2_with fail
        exact F.out
    · obtain rfl : k = l.length := by omega
      have F := hide (Y.out hG.out)
      clear hcell Y N hG
      go_wp2_with fail
      exact F.out
/-- A predictor. -/
def prdB (a : List Int) : Bool := wide20 a && decide (nth a 0 = 4096)
theorem okF_prd (a p l : List Int) : okF a p l = (prdB a && rightB p && rightB l) := rfl
/-- The guess without its half. -/
def gsum0 (a h : List Int) (n : Nat) : Int := gsum a h n - 2048
theorem gsum0_step (a h : List Int) (n : Nat) : gsum0 a h (n + 1) = gsum0 a h n + nth a (n + 1) * nth h n := by
  unfold gsum0
  show gsum a h n + nth a (n + 1) * nth h n - 2048 = _
  omega
theorem gsum0_gs (a h : List Int) : (gsum0 a h 8 + 2048) / 4096 = gs a h := by unfold gsum0 gs; congr 1; omega
end Go.Proofs.YtjjpbleknbmmgabDoor
