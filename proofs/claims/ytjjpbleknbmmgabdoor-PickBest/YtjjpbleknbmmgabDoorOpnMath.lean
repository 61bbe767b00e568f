/- Plain arithmetic for Open; a slice in the midst. -/
import Derived.Test.YtjjpbleknbmmgabDoorPitchMath
import Derived.Test.YtjjpbleknbmmgabDoorOwns
namespace Go.Proofs.YtjjpbleknbmmgabDoor
open Go.RowKit
set_option linter.unusedVariables false
set_option linter.unusedSimpArgs false
set_option maxHeartbeats 1000000

def cutM (l : List Int) (i j : Nat) : List Int := (l.take j).drop i
theorem cutM_len (l : List Int) (i j : Nat) (h : j ≤ l.length) : (cutM l i j).length = j - i := by unfold cutM; rw [List.length_drop, List.length_take]; omega
theorem cutM_right (l : List Int) (i j : Nat) (h : rightB l = true) : rightB (cutM l i j) = true := right_drop _ _ (right_take _ _ h)
theorem slice_m {W : World} {v : Value} {l : List Int} (h : Ints W v l) (hsh : Shp v l) (i j : Nat) (hij : i ≤ j) (hj : j ≤ l.length) (hpos : 0 < l.length) :
    ∃ vB, (∀ u, Sem.run Tryd.prog (Instr.slice 23 v (some (.int .i64 i)) (some (.int .i64 j)) none) u = .ok vB u) ∧ Ints W vB (cutM l i j) ∧ Shp vB (cutM l i j) := by
  rcases hsh with rfl | ⟨a, c, rfl⟩
  · obtain rfl := ints_none h
    simp at hpos
  · obtain ⟨_, hc, hcell⟩ := ints_some h
    have e := cutM_len l i j hj
    refine ⟨.slice (some (if c = i then a else a.add i)) (j - i) (c - i), fun u => ?_, ⟨_, c - i, by rw [e], by rw [e]; omega, fun hp => ⟨_, rfl, fun x hx => ?_⟩⟩, .inr ⟨_, c - i, by rw [e]⟩⟩
    · rw [run_slice_lh (P := Tryd.prog) u 23 (some a) l.length c (by kernel_rfl) .i64 .i64 i j (by omega) (by omega) (by omega)]
      simp [go_sem, sliced]
      split <;> rfl
    · rw [e] at hx hp
      rw [if_neg (by omega), Addr.add_add, hcell (i + x) (by omega)]
      unfold cutM
      rw [nth_drop, nth_take _ _ _ (by omega)]
def opC (l : List Int) (k : Nat) : Int := if rightB l then dotS (l.drop 79) (cutM l (79 - k) (159 - k)) 80 else 0
def opE (l : List Int) (k : Nat) : Int := if rightB l then dotS (cutM l (79 - k) (159 - k)) (cutM l (79 - k) (159 - k)) 80 else 0
theorem opC_le (l : List Int) (k : Nat) : opC l k ≤ 85899345920 := by
  unfold opC
  split
  · rename_i c
    have := dotS_bd (l.drop 79) (cutM l (79 - k) (159 - k)) (right_drop _ _ c) (cutM_right _ _ _ c) 80
    omega
  · omega
theorem opE_le (l : List Int) (k : Nat) : opE l k ≤ 85899345920 := by
  unfold opE
  split
  · rename_i c
    have := dotS_bd (cutM l (79 - k) (159 - k)) (cutM l (79 - k) (159 - k)) (cutM_right _ _ _ c) (cutM_right _ _ _ c) 80
    omega
  · omega
def opV (l : List Int) : Int := if l.length = 159 ∧ rightB l = true then ((pkN (opC l) (opE l) 60).1 : Int) else 0
def opX (l : List Int) : Int := if l.length = 159 then (if rightB l = true then 0 else 2) else 1
theorem wrapJ (x : Int) (h1 : 0 ≤ x) (h2 : x ≤ 1000) : IntKind.i64.wrap x = x := by
  have e : x % 2 ^ 64 = x := Int.emod_eq_of_lt (by omega) (by omega)
  simp only [IntKind.wrap, IntKind.bits, IntKind.signed, e]
  rw [if_neg (by simp; omega)]
end Go.Proofs.YtjjpbleknbmmgabDoor
