/- For regions that draw their order and make a variable. -/
import Derived.Test.YtmmlppmlkmlgpaaHighAny
import Derived.Deep.RegionHeld
import Derived.RegionTactic
import Derived.Deep.CutRange
namespace Go.Proofs.Ytmmlppmlkmlgpaa
open Go.RowKit
set_option linter.unusedVariables false

def GrownFrom (w w' : World) : Prop := w.grownBy w' none
theorem gf_start (w : World) : GrownFrom w w.drew := grown_drew (grown_refl w none)
theorem gf_trans {w u u' : World} (h : GrownFrom w u) (g : u.grownBy u' none) : GrownFrom w u' := grown_none h g
theorem gf_alloc {w u : World} (h : GrownFrom w u) (o : Obj) : GrownFrom w (u.alloc o) := grown_none h (grown_alloc _ _ none)
theorem gf_size {w u : World} (h : GrownFrom w u) : w.heap.size ≤ u.heap.size := h.size
theorem gf_own {w u u' : World} {b : Nat} (h : GrownFrom w u) (g : u.grownBy u' (some b)) (hb : w.heap.size ≤ b) : GrownFrom w u' := grown_own h g hb
theorem heap_keep {u u' : World} {b : Nat} {o : Obj} (h : u.heap[b]? = some o) (g : u.grownBy u' none) : u'.heap[b]? = some o := (g.block _ (lt_of_some h) (by simp)).trans h
theorem grown_put4 (w : World) (b : Nat) (p q s t : Value) : w.grownBy ((((w.setCell ⟨b, 0, none⟩ p).setCell ⟨b, 1, none⟩ q).setCell ⟨b, 2, none⟩ s).setCell ⟨b, 3, none⟩ t) (some b) :=
  grown_trans (grown_trans (grown_trans (grown_setCell _ ⟨b, 0, none⟩ _) (grown_setCell _ ⟨b, 1, none⟩ _) (some b) (fun i e _ => e) (fun i e _ => e)) (grown_setCell _ ⟨b, 2, none⟩ _) (some b) (fun i e _ => e) (fun i e _ => e)) (grown_setCell _ ⟨b, 3, none⟩ _) (some b) (fun i e _ => e) (fun i e _ => e)
theorem heap_set4 {w : World} {b : Nat} {a0 a1 a2 a3 : Int} (h : w.heap[b]? = some (hp a0 a1 a2 a3)) (p q s t : Int) :
    ((((w.setCell ⟨b, 0, none⟩ (.int .i64 p)).setCell ⟨b, 1, none⟩ (.int .i64 q)).setCell ⟨b, 2, none⟩ (.int .i64 s)).setCell ⟨b, 3, none⟩ (.int .i64 t)).heap[b]? = some (hp p q s t) := by
  have k0 := heap_setCell (k := 0) h (.int .i64 p)
  have k1 := heap_setCell (k := 1) k0 (.int .i64 q)
  have k2 := heap_setCell (k := 2) k1 (.int .i64 s)
  exact heap_setCell (k := 3) k2 (.int .i64 t)
theorem ints_one (u : World) (z : Int) : Ints (u.alloc (.cells #[.int .i64 z] 3)) (.slice (some ⟨u.heap.size, 0, none⟩) 1 1) [z] := by
  refine ⟨some ⟨u.heap.size, 0, none⟩, 1, rfl, Nat.le_refl _, fun _ => ⟨_, rfl, fun i hi => ?_⟩⟩
  rw [Addr.add_mid, Nat.zero_add, cell_of_heap (heap_new u _)]
  match i, hi with
  | 0, _ => rfl
/-- What a call of High leaves: the list, the memory in a block of its own, the error's number. -/
def HiR (W0 : World) (L : List Int) (p q s t en : Int) (v5 v6 v7 : Value) (wx : World) : Prop :=
  ∃ b, v6 = .pointer (some ⟨b, 0, none⟩) ∧ v7 = .int .i64 en ∧ Own W0.heap.size wx v5 L ∧ wx.heap[b]? = some (hp p q s t) ∧ W0.heap.size ≤ b ∧ W0.grownBy wx none
end Go.Proofs.Ytmmlppmlkmlgpaa
