/- Words for what package synth answers: lists of the call's own, with a past and an error. -/
import Derived.Test.YtiamknnmgnbkgaaDoorSynthMath
import Derived.Test.YtiamknnmgnbkgaaDoorOwns
import Derived.Test.YtiamknnmgnbkgaaDoorRegA
import Derived.Test.YtiamknnmgnbkgaaDoorEndMath
namespace Go.Proofs.YtiamknnmgnbkgaaDoor
open Go.RowKit
set_option linter.unusedVariables false
set_option linter.unusedSimpArgs false

/-- What Make and Undo answer. -/
def Filt (w : World) (L P : List Int) (en : Int) (e : Ending) (w' : World) : Prop := ∃ v', e = .returned (.tuple #[v', .agg (arrI P), .int .i64 en]) ∧ Own w.heap.size w' v' L ∧ w.grownBy w' none
theorem mem3_own {w wr wr' : World} {T1 T2 T3 : TypeId} {a b c : List Int} {r : Option Nat} (h : Mem3 w wr T1 T2 T3 a b c) (g : wr.grownBy wr' r) (hr : ∀ x, r = some x → w.heap.size + 1 + 1 + 1 ≤ x) : Mem3 w wr' T1 T2 T3 a b c := by
  rcases r with _ | x
  · exact h.keep g
  · have := hr x rfl
    exact ⟨h.1.keepBut g (by omega), h.2.1.keepBut g (by omega), h.2.2.1.keepBut g (by omega), grown_own h.2.2.2 g (by omega)⟩
/-- What Ring and Fold answer. -/
def ListE (w : World) (L : List Int) (en : Int) (e : Ending) (w' : World) : Prop := ∃ v', e = .returned (.tuple #[v', .int .i64 en]) ∧ Own w.heap.size w' v' L ∧ w.grownBy w' none
theorem own_blk {w : World} {b base : Nat} {rs : List Int} (h : Blk w b 3 rs) (hb : base ≤ b) (hl : rs.length ≤ 1000000) : Own base w (.slice (some ⟨b, 0, none⟩) rs.length rs.length) rs :=
  ⟨by simp, .inr ⟨b, rs.length, arrI rs, rfl, hb, h, Nat.le_refl _, by unfold maxLen; omega, by simp [arrI], by simp [arrI, List.take_of_length_le]⟩⟩
theorem one_set (n : Nat) (h : 0 < n) : (zeros n).set 0 4096 = oneL n := by
  apply tab_ext (by simp [zeros])
  intro i hi
  by_cases h0 : i = 0
  · subst h0; simp [nth, List.getD, zeros, h]
  · rw [if_neg h0, nth_set_ne _ _ _ _ (by omega), zeros_nth]
theorem oneL_right (n : Nat) : rightB (oneL n) = true := by
  rw [rightB_iff]
  intro i hi
  unfold oneL at *
  rw [tab_len] at hi
  rw [tab_nth _ _ _ hi]
  split <;> omega
end Go.Proofs.YtiamknnmgnbkgaaDoor
