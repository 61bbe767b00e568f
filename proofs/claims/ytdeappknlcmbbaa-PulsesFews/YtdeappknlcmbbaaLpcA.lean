/- The contracts of package lpc's within, allWithin, reflections, rounded. -/
import Derived.Test.YtdeappknlcmbbaaLevMath
namespace Go.Proofs.Ytdeappknlcmbbaa
open Go.RowKit
set_option linter.unusedVariables false
set_option linter.unusedSimpArgs false
set_option maxHeartbeats 1000000

/-- The call answers r, and leaves all as it was; the call answers r, and what was there is as it was. -/
def Ans (w : World) (r : Value) (e : Ending) (w' : World) : Prop := e = .returned r ∧ w' = w
def AnsG (w : World) (r : Value) (e : Ending) (w' : World) : Prop := e = .returned r ∧ w.grownBy w' none
def inB (lo hi : Int) (l : List Int) : Bool := l.all fun x => decide (lo ≤ x) && decide (x ≤ hi)
theorem inB_iff (lo hi : Int) (l : List Int) : inB lo hi l = true ↔ ∀ i, i < l.length → lo ≤ nth l i ∧ nth l i ≤ hi := by
  unfold inB
  rw [all_iff]
  simp
theorem inB_no {lo hi : Int} {l : List Int} (i : Nat) (hi' : i < l.length) (h : ¬ (lo ≤ nth l i ∧ nth l i ≤ hi)) : inB lo hi l = false := by
  rcases hb : inB lo hi l with _ | _
  · rfl
  · exact absurd ((inB_iff lo hi l).1 hb i hi') h
theorem inB_steady (k : List Int) : inB (-32767) 32767 k = steadyB k := by
  unfold inB steadyB
  congr 1
  funext q
  congr 1 <;> apply decide_eq_decide.2 <;> omega
theorem inB_wide (k : List Int) : inB (-1073741824) 1073741824 k = wideB k := rfl
theorem inB_rng (k : List Int) : inB (-2147483647) 2147483647 k = rngB k := rfl
/-- An array's block as a list. -/
theorem Ints_blk {w : World} {b : Nat} {T : TypeId} {rs : List Int} (h : Blk w b T rs) (c : Nat) (hc : rs.length ≤ c) : Ints w (.slice (some ⟨b, 0, none⟩) rs.length c) rs := by
  refine ⟨some ⟨b, 0, none⟩, c, rfl, hc, fun _ => ⟨_, rfl, fun i hi => ?_⟩⟩
  rw [Addr.add_mid, Nat.zero_add]
  exact h.cell i hi
end Go.Proofs.Ytdeappknlcmbbaa
