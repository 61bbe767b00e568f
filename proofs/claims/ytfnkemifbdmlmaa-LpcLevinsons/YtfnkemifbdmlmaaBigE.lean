/- Contracts of package voxsatbig: twin, and the methods Add, Sub, Neg, Abs. -/
import Derived.Test.YtfnkemifbdmlmaaBigD
import Derived.Laws.AppendOwnNone
import Derived.Test.YtfnkemifbdmlmaaOrder
namespace Go.Proofs.Ytfnkemifbdmlmaa
open Go.RowKit
set_option linter.unusedVariables false
set_option linter.unusedSimpArgs false
set_option maxHeartbeats 1000000

theorem Sl_of_owns {w : World} {base : Nat} {v : Value} {l : List Int} (h : w.ownsRow base 65 1 v l.length (l.map (Value.int .u32))) : Sl w v l := by
  obtain ⟨h1, h2⟩ := h
  rcases h2 with ⟨h2, h3⟩ | ⟨g, cap, cur, h2, _, h4, h5, _, h7, h8⟩
  · exact Or.inl ⟨h2, List.length_eq_zero_iff.1 h3⟩
  · refine Or.inr ⟨g, cap, cur, h2, h5, h4, fun i hi => ?_⟩
    have e : (cur.toList.take (l.length * 1))[i]? = (l.map (Value.int .u32))[i]? := by rw [h8]
    rw [List.getElem?_take, if_pos (by omega), Array.getElem?_toList] at e
    rw [e]
    simp [nth, List.getD, hi]
theorem twin_any (v : Value) (l : List Int) (w : World) (hs : Sl w v l) (hw : WF l) (ht : Top l) (hl : l.length ≤ 100) :
    Calls Try.prog 50 #[v] w (Gives w (val l) l.length) := by
  rcases hs with ⟨rfl, rfl⟩ | ⟨b, c, cs, rfl, hc, hb, hcs⟩
  · have F := hide (show Gives w (val []) 0 (.returned (.slice none 0 0)) w from ⟨_, [], rfl, Sl_nil _, hw, ht, rfl, Nat.le_refl _, grown_refl _ _⟩)
    show Calls Try.prog 50 _ w (Gives w (val []) 0)
    generalize Gives w (val []) 0 = T at *
    obtain ⟨i0, hi, hz0, hz1, hz2⟩ := info_parts infoU32
    go_enter Try.func50, Try.ntmps50
    go_wp2_with (at_builtin; refine wpList_append_own_none rfl _ _ 45 rfl 0 65 i0 1 Try.underlying45 hi _ 0 [] rfl (World.ownsRow_nil _ _ _ _) rfl ?_)
    exact F.out
  · obtain ⟨i0, hi, hz0, hz1, hz2⟩ := info_parts infoU32
    have hcell : ∀ i, i < l.length → w.cell? ⟨b, i, none⟩ = some (.int .u32 (nth l i)) := fun i hi => by rw [cell_of_heap hb]; exact hcs i hi
    have hnews : Hid (∀ j u, (l.map (Value.int .u32))[j]? = some u → w.cell? ((⟨b, 0, none⟩ : Addr).add j) = some u) := by
      intro j u h
      have hj : j < l.length := by
        by_cases hj : j < l.length
        · exact hj
        · rw [List.getElem?_eq_none (by simp; omega)] at h; cases h
      have e : (⟨b, 0, none⟩ : Addr).add j = ⟨b, j, none⟩ := by unfold Addr.add; split <;> simp_all
      rw [e, hcell j hj]
      simpa [nth, List.getD, hj] using h
    have hone : Hid (∀ u ∈ l.map (Value.int .u32), u.oneCell' = true) := by
      intro u hu
      obtain ⟨x, _, rfl⟩ := List.mem_map.1 hu
      rfl
    have FIN := hide (show ∀ v' w1, w1.ownsRow w.heap.size 65 1 v' l.length (l.map (Value.int .u32)) → w.grownBy w1 none → Gives w (val l) l.length (.returned v') w1 from fun v' w1 h1 h2 =>
      ⟨v', l, rfl, Sl_of_owns h1, hw, ht, rfl, Nat.le_refl _, h2⟩)
    clear hcell hcs hb hw ht
    generalize Gives w (val l) l.length = T at *
    go_enter Try.func50, Try.ntmps50
    go_wp2_with (at_builtin; refine wpList_append_own _ rfl _ _ 45 rfl w.heap.size 65 i0 (.int .u32 0) 1 4 Try.underlying45 hi hz0 hz1 hz2 rfl (by decide) _ 0 [] rfl (World.ownsRow_nil _ _ _ _) ⟨b, 0, none⟩ l.length c (l.map (Value.int .u32)) rfl ?c1 hnews.out hone.out ?c2 ?c3 (Nat.le_refl _) ?_)
    case c1 => simp
    case c2 => unfold maxLen; omega
    case c3 => omega
    intro v' w1 h1 h2 h3
    have F := hide (FIN.out v' w1 h1 h2)
    clear h1 h2 h3 FIN hnews hone
    go_wp2_with fail
    exact F.out

theorem IsI_cells {w : World} {b : Nat} {z : Int} (h : IsI w b z) : ∃ v l, w.cell? ⟨b, 0, none⟩ = some (.bool (decide (z < 0))) ∧ w.cell? ⟨b, 1, none⟩ = some v ∧ b < w.heap.size ∧ Sl w v l ∧ WF l ∧ Top l ∧ val l = z.natAbs ∧ l.length ≤ 8 := by
  obtain ⟨v, l, h1, h2, h3, h4, h5, h6⟩ := h
  exact ⟨v, l, by rw [cell_of_heap h1]; rfl, by rw [cell_of_heap h1]; rfl, lt_of_some h1, h2, h3, h4, h5, h6⟩
theorem sgn_abs (z : Int) : sgn (decide (z < 0)) (z.natAbs : Int) = z := by
  unfold sgn
  by_cases h : z < 0 <;> simp [h] <;> omega
theorem grown_cell {w w' : World} (h : w.grownBy w' none) {b o : Nat} (hb : b < w.heap.size) : w'.cell? ⟨b, o, none⟩ = w.cell? ⟨b, o, none⟩ := World.cell?_of_block (h.block b hb (by simp))
/-- A number below 2^256 has at most eight words. -/
theorem len8 {l : List Int} (hw : WF l) (ht : Top l) {n : Bool} {z : Int} (h : sgn n (val l) = z) (h1 : -P 8 < z) (h2 : z < P 8) : l.length ≤ 8 := by
  have h0 := (val_bd l hw).1
  refine len_le l hw ht 8 ?_
  cases n <;> simp [sgn] at h <;> omega

end Go.Proofs.Ytfnkemifbdmlmaa
