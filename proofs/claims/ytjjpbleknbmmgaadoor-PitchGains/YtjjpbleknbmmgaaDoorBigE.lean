/- Contracts of package voxsatbig: twin, and the methods Add, Sub, Neg, Abs. -/
import Derived.Test.YtjjpbleknbmmgaaDoorBigD
import Derived.Laws.AppendOwnNone
import Derived.Test.YtjjpbleknbmmgaaDoorOrder
namespace Go.Proofs.YtjjpbleknbmmgaaDoor
open Go.RowKit
set_option linter.unusedVariables false
set_option linter.unusedSimpArgs false
set_option maxHeartbeats 1000000

theorem Sl_of_owns {w : World} {base : Nat} {v : Value} {l : List Int} (h : w.ownsRow base 49 1 v l.length (l.map (Value.int .u32))) : Sl w v l := by
  obtain ⟨h1, h2⟩ := h
  rcases h2 with ⟨h2, h3⟩ | ⟨g, cap, cur, h2, _, h4, h5, _, h7, h8⟩
  · exact Or.inl ⟨h2, List.length_eq_zero_iff.1 h3⟩
  · refine Or.inr ⟨g, cap, cur, h2, h5, h4, fun i hi => ?_⟩
    have e : (cur.toList.take (l.length * 1))[i]? = (l.map (Value.int .u32))[i]? := by rw [h8]
    rw [List.getElem?_take, if_pos (by omega), Array.getElem?_toList] at e
    rw [e]
    simp [nth, List.getD, hi]
theorem IsI_cells {w : World} {b : Nat} {z : Int} (h : IsI w b z) : ∃ v l, w.cell? ⟨b, 0, none⟩ = some (.bool (decide (z < 0))) ∧ w.cell? ⟨b, 1, none⟩ = some v ∧ b < w.heap.size ∧ Sl w v l ∧ WF l ∧ Top l ∧ val l = z.natAbs ∧ l.length ≤ 8 := by
  obtain ⟨v, l, h1, h2, h3, h4, h5, h6⟩ := h
  exact ⟨v, l, by rw [cell_of_heap h1]; rfl, by rw [cell_of_heap h1]; rfl, lt_of_some h1, h2, h3, h4, h5, h6⟩
theorem sgn_abs (z : Int) : sgn (decide (z < 0)) (z.natAbs : Int) = z := by
  unfold sgn
  by_cases h : z < 0 <;> simp [h] <;> omega
theorem grown_cell {w w' : World} (h : w.grownBy w' none) {b o : Nat} (hb : b < w.heap.size) : w'.cell? ⟨b, o, none⟩ = w.cell? ⟨b, o, none⟩ := World.cell?_of_block (h.block b hb (by simp))
/-- A number below 2^256 has at most eight words. -/
theorem len8 {l : List Int} (hw : WF l) (ht : Top l) {n : Bool} {z : Int} (h : sgn n (val l) = z) (h1 : -P 8 < z) (h2 : z < P 8) : l.length ≤ 8 := by
  have h0 := (val_bd l hw).1
  refine len_le l hw ht 8 ?_
  cases n <;> simp [sgn] at h <;> omega

end Go.Proofs.YtjjpbleknbmmgaaDoor
