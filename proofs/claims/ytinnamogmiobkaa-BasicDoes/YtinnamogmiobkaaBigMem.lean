/- Numbers of package voxsatbig as they lie in memory: a slice of words, a struct of a sign and words. -/
import Derived.Test.YtinnamogmiobkaaProg
import Derived.Test.YtinnamogmiobkaaBigMath
import Derived.WalkKit
import Derived.WalkSpells
import Derived.WalkLawsBesides
namespace Go.Proofs.Ytinnamogmiobkaa
open Go.RowKit
set_option linter.unusedVariables false

theorem hide {p : Prop} (h : p) : Hid p := h
/-- Words as cells. -/
def arr (l : List Int) : Array Value := (l.map (Value.int .u32)).toArray
theorem arr_size (l : List Int) : (arr l).size = l.length := by simp [arr]
theorem arr_get (l : List Int) (i : Nat) (h : i < l.length) : (arr l)[i]? = some (.int .u32 (nth l i)) := by
  simp [arr, nth, List.getD, h]
theorem arr_set (l : List Int) (k : Nat) (v : Int) : (arr l).setIfInBounds k (.int .u32 v) = arr (l.set k v) := by
  simp [arr, List.map_set]

/-- A slice value that holds just these words. -/
def Sl (w : World) (v : Value) (l : List Int) : Prop :=
  (v = .slice none 0 0 ∧ l = []) ∨ ∃ (b c : Nat) (cs : Array Value), v = .slice (some ⟨b, 0, none⟩) l.length c ∧ l.length ≤ c ∧ w.heap[b]? = some (.cells cs 48 (0, 0)) ∧ ∀ i, i < l.length → cs[i]? = some (.int .u32 (nth l i))
/-- Block b is one of Int's structs. -/
def Struct (w : World) (b : Nat) : Prop := ∃ x y, w.heap[b]? = some (.cells #[x, y] 40 (0, 0))
/-- The struct in block b is the number z. -/
def IsI (w : World) (b : Nat) (z : Int) : Prop :=
  ∃ (v : Value) (l : List Int), w.heap[b]? = some (.cells #[.bool (decide (z < 0)), v] 40 (0, 0)) ∧ Sl w v l ∧ WF l ∧ Top l ∧ val l = z.natAbs ∧ l.length ≤ 8

theorem lt_of_some {w : World} {b : Nat} {o : Obj} (h : w.heap[b]? = some o) : b < w.heap.size := by
  by_cases hb : b < w.heap.size
  · exact hb
  · rw [Array.getElem?_eq_none (by omega)] at h; cases h
theorem cell_of_heap {w : World} {b : Nat} {cs : Array Value} {t : TypeId} {f : Nat × Nat} (h : w.heap[b]? = some (.cells cs t f)) (i : Nat) : w.cell? ⟨b, i, none⟩ = cs[i]? := by
  simp [World.cell?, h]
theorem frozen_of_heap {w : World} {b : Nat} {cs : Array Value} {t : TypeId} (h : w.heap[b]? = some (.cells cs t (0, 0))) (i : Nat) : w.frozen? ⟨b, i, none⟩ = false := by
  simp [World.frozen?, h]
theorem Sl_len {w : World} {v : Value} {l : List Int} (h : Sl w v l) : ∃ a c, v = .slice a l.length c := by
  rcases h with ⟨rfl, rfl⟩ | ⟨b, c, cs, rfl, _⟩
  · exact ⟨_, _, rfl⟩
  · exact ⟨_, _, rfl⟩
theorem Sl_nil (w : World) : Sl w (.slice none 0 0) [] := Or.inl ⟨rfl, rfl⟩
/-- What holds of the old blocks holds behind new ones; a struct that turned is no slice's block. -/
theorem Sl_keep {w w' : World} {v : Value} {l : List Int} {r : Option Nat} (h : Sl w v l) (hg : w.grownBy w' r) (hr : ∀ k, r = some k → Struct w k) : Sl w' v l := by
  rcases h with h | ⟨b, c, cs, h1, h2, h3, h4⟩
  · exact Or.inl h
  · refine Or.inr ⟨b, c, cs, h1, h2, ?_, h4⟩
    rw [hg.block b (lt_of_some h3) ?_]
    · exact h3
    · intro e
      obtain ⟨x, y, hc⟩ := hr b e.symm
      rw [h3] at hc
      simp at hc
theorem Sl_new {w w' : World} {v : Value} {l : List Int} (h : Sl w v l) (hg : w.grownBy w' none) : Sl w' v l := Sl_keep h hg (fun k e => by cases e)
theorem Struct_keep {w w' : World} {b : Nat} {r : Option Nat} (h : Struct w b) (hg : w.grownBy w' r) (hb : r ≠ some b) : Struct w' b := by
  obtain ⟨x, y, hc⟩ := h
  exact ⟨x, y, by rw [hg.block b (lt_of_some hc) (fun e => hb e.symm)]; exact hc⟩
theorem IsI_struct {w : World} {b : Nat} {z : Int} (h : IsI w b z) : Struct w b := by
  obtain ⟨v, l, h1, _⟩ := h; exact ⟨_, _, h1⟩
theorem IsI_keep {w w' : World} {b : Nat} {z : Int} {r : Option Nat} (h : IsI w b z) (hg : w.grownBy w' r) (hb : r ≠ some b) (hr : ∀ k, r = some k → Struct w k) : IsI w' b z := by
  obtain ⟨v, l, h1, h2, h3⟩ := h
  exact ⟨v, l, by rw [hg.block b (lt_of_some h1) (fun e => hb e.symm)]; exact h1, Sl_keep h2 hg hr, h3⟩
theorem IsI_new {w w' : World} {b : Nat} {z : Int} (h : IsI w b z) (hg : w.grownBy w' none) : IsI w' b z := IsI_keep h hg (by simp) (fun k e => by cases e)
theorem grown_refl (w : World) (r : Option Nat) : w.grownBy w r := ⟨rfl, rfl, rfl, Nat.le_refl _, fun _ _ _ => rfl⟩
theorem grown_alloc (w : World) (o : Obj) (r : Option Nat) : w.grownBy (w.alloc o) r := ⟨rfl, rfl, rfl, by simp, fun k hk _ => Below.heap_alloc _ _ _ hk⟩
theorem grown_trans {a b c : World} {r s : Option Nat} (h : a.grownBy b r) (k : b.grownBy c s) (t : Option Nat) (hr : ∀ i, r = some i → i < a.heap.size → t = some i) (hs : ∀ i, s = some i → i < a.heap.size → t = some i) : a.grownBy c t :=
  ⟨k.os.trans h.os, k.tape.trans h.tape, k.output.trans h.output, Nat.le_trans h.size k.size, fun i hi ht => by
    rw [k.block i (Nat.lt_of_lt_of_le hi h.size) (fun e => ht ((hs i e.symm hi).symm)), h.block i hi (fun e => ht ((hr i e.symm hi).symm))]⟩
theorem grown_none {a b c : World} (h : a.grownBy b none) (k : b.grownBy c none) : a.grownBy c none := grown_trans h k none (fun i e => by cases e) (fun i e => by cases e)
theorem grown_setCell (w : World) (a : Addr) (v : Value) : w.grownBy (w.setCell a v) (some a.block) := ⟨rfl, rfl, rfl, by simp [World.setCell], fun k _ h => Below.heap_setCell _ _ _ _ (fun e => h (by rw [e]))⟩
theorem grown_drew {a b : World} {r : Option Nat} (h : a.grownBy b r) : a.grownBy b.drew r := ⟨h.os, h.tape, h.output, h.size, h.block⟩
theorem heap_new (w : World) (o : Obj) : (w.alloc o).heap[w.heap.size]? = some o := by
  show (w.heap.push o)[w.heap.size]? = _
  simp
theorem heap_set2 {w : World} {b : Nat} {x y : Value} {t : TypeId} (h : w.heap[b]? = some (.cells #[x, y] t (0, 0))) (v u : Value) :
    ((w.setCell ⟨b, 1, none⟩ v).setCell ⟨b, 0, none⟩ u).heap[b]? = some (.cells #[u, v] t (0, 0)) := by
  simp only [World.setCell, Array.getElem?_modify, h]
  simp
theorem grown_set2 (w : World) (b : Nat) (u v : Value) : w.grownBy ((w.setCell ⟨b, 1, none⟩ v).setCell ⟨b, 0, none⟩ u) (some b) :=
  grown_trans (grown_setCell w ⟨b, 1, none⟩ v) (grown_setCell _ ⟨b, 0, none⟩ u) (some b) (fun i e _ => e) (fun i e _ => e)
theorem Sl_own (w : World) (rs : List Int) (n : Nat) (h : rs.length = n) : Sl (w.alloc (.cells (arr rs) 48)) (.slice (some ⟨w.heap.size, 0, none⟩) n n) rs :=
  Or.inr ⟨w.heap.size, n, arr rs, by rw [h], by omega, heap_new _ _, fun i hi => arr_get rs i hi⟩
/-- A slice of words as a walk wants it: where there is a word there is a block. -/
theorem Sl_view {w : World} {v : Value} {l : List Int} (h : Sl w v l) : ∃ ad c, v = .slice ad l.length c ∧ (0 < l.length → ∃ b, ad = some ⟨b, 0, none⟩ ∧ b < w.heap.size ∧ ∀ i, i < l.length → w.cell? ⟨b, i, none⟩ = some (.int .u32 (nth l i))) := by
  rcases h with ⟨rfl, rfl⟩ | ⟨b, c, cs, rfl, hc, hb, hcs⟩
  · exact ⟨_, _, rfl, fun h => by simp at h⟩
  · exact ⟨_, _, rfl, fun _ => ⟨b, rfl, lt_of_some hb, fun i hi => by rw [cell_of_heap hb]; exact hcs i hi⟩⟩
end Go.Proofs.Ytinnamogmiobkaa
