/- Numbers of package voxsatbig as they lie in memory: a slice of words, a struct of a sign and words. -/
import Derived.Test.YtjgdkinnpgiabaaDoorProg
import Derived.Test.YtjgdkinnpgiabaaDoorBigMath
import Derived.Test.YtjgdkinnpgiabaaDoorGrow
import Derived.WalkKit
import Derived.WalkSpells
import Derived.WalkLawsBesides
namespace Go.Proofs.YtjgdkinnpgiabaaDoor
open Go.RowKit
set_option linter.unusedVariables false

/-- Words as cells. -/
def arr (l : List Int) : Array Value := (l.map (Value.int .u32)).toArray
theorem arr_size (l : List Int) : (arr l).size = l.length := by simp [arr]
theorem arr_get (l : List Int) (i : Nat) (h : i < l.length) : (arr l)[i]? = some (.int .u32 (nth l i)) := by
  simp [arr, nth, List.getD, h]
theorem arr_set (l : List Int) (k : Nat) (v : Int) : (arr l).setIfInBounds k (.int .u32 v) = arr (l.set k v) := by
  simp [arr, List.map_set]

/-- A slice value that holds just these words. -/
def Sl (w : World) (v : Value) (l : List Int) : Prop :=
  (v = .slice none 0 0 ∧ l = []) ∨ ∃ (b c : Nat) (cs : Array Value), v = .slice (some ⟨b, 0, none⟩) l.length c ∧ l.length ≤ c ∧ w.heap[b]? = some (.cells cs 84 (0, 0)) ∧ ∀ i, i < l.length → cs[i]? = some (.int .u32 (nth l i))
/-- Block b is one of Int's structs. -/
def Struct (w : World) (b : Nat) : Prop := ∃ x y, w.heap[b]? = some (.cells #[x, y] 61 (0, 0))
/-- The struct in block b is the number z. -/
def IsI (w : World) (b : Nat) (z : Int) : Prop :=
  ∃ (v : Value) (l : List Int), w.heap[b]? = some (.cells #[.bool (decide (z < 0)), v] 61 (0, 0)) ∧ Sl w v l ∧ WF l ∧ Top l ∧ val l = z.natAbs ∧ l.length ≤ 8

theorem Sl_len {w : World} {v : Value} {l : List Int} (h : Sl w v l) : ∃ a c, v = .slice a l.length c := by
  rcases h with ⟨rfl, rfl⟩ | ⟨b, c, cs, rfl, _⟩
  · exact ⟨_, _, rfl⟩
  · exact ⟨_, _, rfl⟩
theorem Sl_nil (w : World) : Sl w (.slice none 0 0) [] := Or.inl ⟨rfl, rfl⟩
/-- What holds of the old blocks holds behind new ones; a struct that turned is no slice's block. -/
theorem Sl_keep {w w' : World} {v : Value} {l : List Int} {r : Option Nat} (h : Sl w v l) (hg : w.grownBy w' r) (hr : ∀ k, r = some k → Struct w k) : Sl w' v l := by
  rcases h with h | ⟨b, c, cs, h1, h2, h3, h4⟩
  · exact Or.inl h
  · refine Or.inr ⟨b, c, cs, h1, h2, ?_, h4⟩
    rw [hg.block b (lt_of_some h3) ?_]
    · exact h3
    · intro e
      obtain ⟨x, y, hc⟩ := hr b e.symm
      rw [h3] at hc
      simp at hc
theorem Sl_new {w w' : World} {v : Value} {l : List Int} (h : Sl w v l) (hg : w.grownBy w' none) : Sl w' v l := Sl_keep h hg (fun k e => by cases e)
theorem Struct_keep {w w' : World} {b : Nat} {r : Option Nat} (h : Struct w b) (hg : w.grownBy w' r) (hb : r ≠ some b) : Struct w' b := by
  obtain ⟨x, y, hc⟩ := h
  exact ⟨x, y, by rw [hg.block b (lt_of_some hc) (fun e => hb e.symm)]; exact hc⟩
theorem IsI_struct {w : World} {b : Nat} {z : Int} (h : IsI w b z) : Struct w b := by
  obtain ⟨v, l, h1, _⟩ := h; exact ⟨_, _, h1⟩
theorem IsI_keep {w w' : World} {b : Nat} {z : Int} {r : Option Nat} (h : IsI w b z) (hg : w.grownBy w' r) (hb : r ≠ some b) (hr : ∀ k, r = some k → Struct w k) : IsI w' b z := by
  obtain ⟨v, l, h1, h2, h3⟩ := h
  exact ⟨v, l, by rw [hg.block b (lt_of_some h1) (fun e => hb e.symm)]; exact h1, Sl_keep h2 hg hr, h3⟩
theorem IsI_new {w w' : World} {b : Nat} {z : Int} (h : IsI w b z) (hg : w.grownBy w' none) : IsI w' b z := IsI_keep h hg (by simp) (fun k e => by cases e)
theorem Sl_own (w : World) (rs : List Int) (n : Nat) (h : rs.length = n) : Sl (w.alloc (.cells (arr rs) 84)) (.slice (some ⟨w.heap.size, 0, none⟩) n n) rs :=
  Or.inr ⟨w.heap.size, n, arr rs, by rw [h], by omega, heap_new _ _, fun i hi => arr_get rs i hi⟩
/-- A slice of words as a walk wants it: where there is a word there is a block. -/
theorem Sl_view {w : World} {v : Value} {l : List Int} (h : Sl w v l) : ∃ ad c, v = .slice ad l.length c ∧ (0 < l.length → ∃ b, ad = some ⟨b, 0, none⟩ ∧ b < w.heap.size ∧ ∀ i, i < l.length → w.cell? ⟨b, i, none⟩ = some (.int .u32 (nth l i))) := by
  rcases h with ⟨rfl, rfl⟩ | ⟨b, c, cs, rfl, hc, hb, hcs⟩
  · exact ⟨_, _, rfl, fun h => by simp at h⟩
  · exact ⟨_, _, rfl, fun _ => ⟨b, rfl, lt_of_some hb, fun i hi => by rw [cell_of_heap hb]; exact hcs i hi⟩⟩
end Go.Proofs.YtjgdkinnpgiabaaDoor
