/- Texts put together: Grow, BigMath, Math, Ints, Arrs, LpcMath, LpcS, LevMath, VBlk, DualMath, PowMath, GainMath, SynthMath, Btr, PitchMath, MemMath, Owns, RegA, EndMath, SynW, ConX, ConW, MemEq, BigMem, BigA, BigB, BigC, BigD, Order, BigE, BigF, BigG, BigH, BigS, BigT, Clip, LshN, BigV, BigY, RefWt, RefDown, IntsA, SameU, LConA, LpcA, CnpA, RefMemA, LCnG, Opens, OpensM. -/
import Derived.Test.YtekdgohomaeeeaaProg
import Derived.WalkKit
import Derived.WalkSpells
import Derived.WalkLawsBesides
import Derived.RowKit3
import Derived.Laws.OwnMore
import Derived.Deep.MidRow
import Derived.Laws.AppendOwnNone
import Derived.OrdersHeld
import Derived.RegionTactic
import Derived.Deep.RegionHeld
import Derived.Deep.CutRange
import Derived.Laws.StructEq
import Derived.Laws.BitsAllLaws
import Derived.Deep.QuietTactic
import Derived.BigQuiet
import Derived.StillTail
import Derived.Deep.RegionHeld3
import Derived.Shelf.Small.Bits
import Derived.OwnWalk
import Derived.ProofKit
import Derived.OpenShut
import Derived.SizedLaws
import Derived.Carry
/- Grow -/
namespace Go.Proofs.Ytekdgohomaeeeaa
open Go.RowKit
set_option linter.unusedVariables false
theorem hide {p : Prop} (h : p) : Hid p := h
theorem lt_of_some {w : World} {b : Nat} {o : Obj} (h : w.heap[b]? = some o) : b < w.heap.size := by
  by_cases hb : b < w.heap.size
  · exact hb
  · rw [Array.getElem?_eq_none (by omega)] at h; cases h
theorem cell_of_heap {w : World} {b : Nat} {cs : Array Value} {t : TypeId} {f : Nat × Nat} (h : w.heap[b]? = some (.cells cs t f)) (i : Nat) : w.cell? ⟨b, i, none⟩ = cs[i]? := by
  simp [World.cell?, h]
theorem frozen_of_heap {w : World} {b : Nat} {cs : Array Value} {t : TypeId} (h : w.heap[b]? = some (.cells cs t (0, 0))) (i : Nat) : w.frozen? ⟨b, i, none⟩ = false := by
  simp [World.frozen?, h]
theorem grown_refl (w : World) (r : Option Nat) : w.grownBy w r := ⟨rfl, rfl, rfl, Nat.le_refl _, fun _ _ _ => rfl⟩
theorem grown_alloc (w : World) (o : Obj) (r : Option Nat) : w.grownBy (w.alloc o) r := ⟨rfl, rfl, rfl, by simp, fun k hk _ => Below.heap_alloc _ _ _ hk⟩
theorem grown_trans {a b c : World} {r s : Option Nat} (h : a.grownBy b r) (k : b.grownBy c s) (t : Option Nat) (hr : ∀ i, r = some i → i < a.heap.size → t = some i) (hs : ∀ i, s = some i → i < a.heap.size → t = some i) : a.grownBy c t :=
  ⟨k.os.trans h.os, k.tape.trans h.tape, k.output.trans h.output, Nat.le_trans h.size k.size, fun i hi ht => by
    rw [k.block i (Nat.lt_of_lt_of_le hi h.size) (fun e => ht ((hs i e.symm hi).symm)), h.block i hi (fun e => ht ((hr i e.symm hi).symm))]⟩
theorem grown_none {a b c : World} (h : a.grownBy b none) (k : b.grownBy c none) : a.grownBy c none := grown_trans h k none (fun i e => by cases e) (fun i e => by cases e)
theorem grown_setCell (w : World) (a : Addr) (v : Value) : w.grownBy (w.setCell a v) (some a.block) := ⟨rfl, rfl, rfl, by simp [World.setCell], fun k _ h => Below.heap_setCell _ _ _ _ (fun e => h (by rw [e]))⟩
theorem grown_drew {a b : World} {r : Option Nat} (h : a.grownBy b r) : a.grownBy b.drew r := ⟨h.os, h.tape, h.output, h.size, h.block⟩
theorem heap_new (w : World) (o : Obj) : (w.alloc o).heap[w.heap.size]? = some o := by
  show (w.heap.push o)[w.heap.size]? = _
  simp
theorem grown_own {a b c : World} {i : Nat} (h : a.grownBy b none) (k : b.grownBy c (some i)) (hi : a.heap.size ≤ i) : a.grownBy c none :=
  grown_trans h k none (fun i e _ => by cases e) (fun j e hj => by cases e; omega)
theorem below_of_grown {w w' : World} (h : w.grownBy w' none) : Below w.heap.size w w' := ⟨h.os, h.tape, h.output, h.size, fun k hk => h.block k hk (by simp)⟩
theorem sL {α : Type} : (∀ (l : List α) (i : Nat) (a : α), l.toArray.setIfInBounds i a = (l.set i a).toArray) ∧ (∀ (a b : α) (l : List α), (a :: l).set 0 b = b :: l) ∧ (∀ (a b : α) (l : List α) (n : Nat), (a :: l).set (n + 1) b = a :: l.set n b) ∧ (∀ (xs : List α) (i : Nat) (h : i < xs.toArray.size), xs.toArray[i] = xs[i]'(by simpa using h)) ∧ (∀ (a : α) (l : List α) (h : 0 < (a :: l).length), (a :: l)[0] = a) ∧ (∀ (a : α) (l : List α) (i : Nat) (h : i + 1 < (a :: l).length), (a :: l)[i + 1] = l[i]'(by simpa using h)) :=
  ⟨fun _ _ _ => List.setIfInBounds_toArray .., fun _ _ _ => List.set_cons_zero .., fun _ _ _ _ => List.set_cons_succ .., fun _ _ _ => List.getElem_toArray .., fun _ _ _ => List.getElem_cons_zero .., fun _ _ _ _ => List.getElem_cons_succ ..⟩
end Go.Proofs.Ytekdgohomaeeeaa

/- BigMath -/
namespace Go.Proofs.Ytekdgohomaeeeaa
def nth (l : List Int) (i : Nat) : Int := l.getD i 0
def P (k : Nat) : Int := 4294967296 ^ k
end Go.Proofs.Ytekdgohomaeeeaa

/- Math -/
namespace Go.Proofs.Ytekdgohomaeeeaa

end Go.Proofs.Ytekdgohomaeeeaa

/- Ints -/
namespace Go.Proofs.Ytekdgohomaeeeaa
open Go.RowKit
set_option linter.unusedVariables false
set_option linter.unusedSimpArgs false
set_option maxHeartbeats 1000000
def Ints (w : World) (v : Value) (l : List Int) : Prop :=
  ∃ (ad : Option Addr) (c : Nat), v = .slice ad l.length c ∧ l.length ≤ c ∧ (0 < l.length → ∃ a, ad = some a ∧ ∀ i, i < l.length → w.cell? (a.add i) = some (.int .i64 (nth l i)))
def rightB (l : List Int) : Bool := l.all fun x => decide (-32768 ≤ x) && decide (x ≤ 32767)
theorem rightB_iff (l : List Int) : rightB l = true ↔ ∀ i, i < l.length → -32768 ≤ nth l i ∧ nth l i ≤ 32767 := by
  unfold rightB
  rw [List.all_eq_true]
  constructor
  · intro h i hi
    have := h l[i] (List.getElem_mem hi)
    simp only [Bool.and_eq_true, decide_eq_true_eq] at this
    simpa [nth, List.getD, hi] using this
  · intro h x hx
    obtain ⟨i, hi, rfl⟩ := List.getElem_of_mem hx
    have := h i hi
    simp only [nth, List.getD, List.getElem?_eq_getElem hi, Option.getD_some] at this
    simp [this]
def arrI (l : List Int) : Array Value := (l.map (Value.int .i64)).toArray
theorem arrI_get (l : List Int) (i : Nat) (h : i < l.length) : (arrI l)[i]? = some (.int .i64 (nth l i)) := by
  simp [arrI, nth, List.getD, h]
theorem arrI_set (l : List Int) (k : Nat) (v : Int) : (arrI l).setIfInBounds k (.int .i64 v) = arrI (l.set k v) := by
  simp [arrI, List.map_set]
theorem infoI64 : (Try.prog.info? 3).map (fun i => (i.zero, i.size, i.bytes)) = some (some (.int .i64 0), 1, 8) := by kernel_rfl
theorem Ints_of_owns {w : World} {base : Nat} {v : Value} {l : List Int} (h : w.ownsRow base 3 1 v l.length (l.map (Value.int .i64))) : Ints w v l := by
  obtain ⟨h1, h2⟩ := h
  rcases h2 with ⟨h2, h3⟩ | ⟨g, cap, cur, h2, _, h4, h5, _, h7, h8⟩
  · exact ⟨none, 0, by rw [h2, h3], by omega, fun h => by omega⟩
  · refine ⟨some ⟨g, 0, none⟩, cap, h2, h5, fun _ => ⟨_, rfl, fun i hi => ?_⟩⟩
    have e : (cur.toList.take (l.length * 1))[i]? = (l.map (Value.int .i64))[i]? := by rw [h8]
    rw [List.getElem?_take, if_pos (by omega), Array.getElem?_toList] at e
    have ea : (⟨g, 0, none⟩ : Addr).add i = ⟨g, i, none⟩ := by unfold Addr.add; split <;> simp_all
    rw [ea, cell_of_heap h4, e]
    simp [nth, List.getD, hi]
theorem heap_setCell {w : World} {b k : Nat} {cs : Array Value} {t : TypeId} (h : w.heap[b]? = some (.cells cs t (0, 0))) (v : Value) :
    (w.setCell ⟨b, k, none⟩ v).heap[b]? = some (.cells (cs.setIfInBounds k v) t (0, 0)) := by
  simp only [World.setCell, Array.getElem?_modify, h]
  simp
def In64 (l : List Int) : Prop := ∀ i, -9223372036854775808 ≤ nth l i ∧ nth l i ≤ 9223372036854775807
end Go.Proofs.Ytekdgohomaeeeaa

/- Arrs -/
namespace Go.Proofs.Ytekdgohomaeeeaa
open Go.RowKit
set_option linter.unusedVariables false
set_option linter.unusedSimpArgs false
def Blk (w : World) (b : Nat) (T : TypeId) (rs : List Int) : Prop := w.heap[b]? = some (.cells (arrI rs) T (0, 0))
theorem Blk.cell {w : World} {b : Nat} {T : TypeId} {rs : List Int} (h : Blk w b T rs) (i : Nat) (hi : i < rs.length) : w.cell? ⟨b, i, none⟩ = some (.int .i64 (nth rs i)) := (cell_of_heap h i).trans (arrI_get rs i hi)
theorem Blk.free {w : World} {b : Nat} {T : TypeId} {rs : List Int} (h : Blk w b T rs) (i : Nat) : w.frozen? ⟨b, i, none⟩ = false := frozen_of_heap h i
theorem Blk.lt {w : World} {b : Nat} {T : TypeId} {rs : List Int} (h : Blk w b T rs) : b < w.heap.size := lt_of_some h
theorem Blk.keep {w w' : World} {b : Nat} {T : TypeId} {rs : List Int} (h : Blk w b T rs) (g : w.grownBy w' none) : Blk w' b T rs := (g.block _ (lt_of_some h) (by simp)).trans h
theorem Blk.keepBut {w w' : World} {b : Nat} {T : TypeId} {rs : List Int} {r : Nat} (h : Blk w b T rs) (g : w.grownBy w' (some r)) (hr : b ≠ r) : Blk w' b T rs := (g.block _ (lt_of_some h) (by simpa using hr)).trans h
theorem Blk.new (w : World) (T : TypeId) (rs : List Int) : Blk (w.alloc (.cells (arrI rs) T)) w.heap.size T rs := heap_new w _
theorem Blk.set {w : World} {b : Nat} {T : TypeId} {rs : List Int} (h : Blk w b T rs) (k : Nat) (z : Int) : Blk (w.setCell ⟨b, k, none⟩ (.int .i64 z)) b T (rs.set k z) := by
  unfold Blk
  rw [heap_setCell h, arrI_set]
theorem Blk.range {w : World} {b : Nat} {T : TypeId} {rs : List Int} (h : Blk w b T rs) : w.rangeAt b 0 (rs.map (Value.int .i64)) := fun j v hv => by
  rw [Nat.zero_add, cell_of_heap h]
  simpa [arrI] using hv
theorem Blk.there {w : World} {b : Nat} {T : TypeId} {rs : List Int} (h : Blk w b T rs) : w.there b 0 rs.length := fun j hj => by
  rw [Nat.zero_add]
  exact ⟨by rw [h.cell j hj]; rfl, h.free j⟩
def zeros (n : Nat) : List Int := List.replicate n 0
theorem zeros_len (n : Nat) : (zeros n).length = n := by simp [zeros]
theorem index_arr {T : TypeId} {n : Nat} (rs : List Int) (hu : Try.prog.underlying T = some (.array n 3)) (k : Nat) (hk : k < rs.length) (hn : rs.length = n) (w : World) : Sem.run Try.prog (Instr.index T (.agg (arrI rs)) (.int .i64 k)) w = .ok (.int .i64 (nth rs k)) w := by
  have hg := arrI_get rs k hk
  have hb : (0 : Int) ≤ k ∧ (k : Int) < n := by omega
  obtain ⟨i0, hi, hz0, hz1, hz2⟩ := info_parts infoI64
  simp [Instr.index, run_underlying hu, asIntOf, hb, go_sem, sizeOf, typeInfo, hi, hz1, part, isAgg, run_underlying Try.underlying3, hg]
  intro h; omega
theorem part_int (rs : List Int) (k : Nat) (hk : k < rs.length) (w : World) : Sem.run Try.prog (part 3 (arrI rs) k) w = .ok (.int .i64 (nth rs k)) w := by
  have hg := arrI_get rs k hk
  simp [part, isAgg, run_underlying Try.underlying3, hg]
theorem eq_arr {T : TypeId} {n : Nat} (rs : List Int) (hu : Try.prog.underlying T = some (.array n 3)) (hn : rs.length = n) (d : Nat) (w : World) : Sem.run Try.prog (Op.equalIn (d + 1 + 1) T (.agg (arrI rs)) (.agg (arrI rs))) w = .ok true w := by
  obtain ⟨i0, hi, hz0, hz1, hz2⟩ := info_parts infoI64
  have hE : ∀ a u, Sem.run Try.prog (Op.equalIn (d + 1) 3 (.int .i64 a) (.int .i64 a)) u = .ok true u := fun a u => by
    rw [run_equalIn_int u d 3 .i64 .i64 a a Try.underlying3]; simp
  have hL : ∀ L : List Nat, (∀ i ∈ L, i < n) → ∀ u, Sem.run Try.prog (forIn (m := Sem) L ((none : Option Bool), PUnit.unit) fun i _ => do
      if (!(← Op.equalIn (d + 1) 3 (← part 3 (arrI rs) (i * 1)) (← part 3 (arrI rs) (i * 1)))) = true then pure (ForInStep.done (some false, PUnit.unit)) else pure (ForInStep.yield (none, PUnit.unit))) u = .ok (none, PUnit.unit) u := by
    intro L
    induction L with
    | nil => intro _ u; simp
    | cons i L ih =>
      intro h u
      have hp := part_int rs i (by have := h i (List.mem_cons_self ..); omega)
      simp only [List.forIn_cons, Sem.run_bind, Nat.mul_one, hp, Result.andThen_ok, hE, Bool.not_true, Bool.false_eq_true, if_false, Sem.run_pure]
      exact (by simpa using ih (fun j hj => h j (List.mem_cons_of_mem _ hj)) u)
  rw [Op.equalIn]
  simp only [Sem.run_bind, run_underlying hu, Result.andThen_ok, sizeOf, typeInfo, run_program, hi, Sem.run_pure, hz1]
  rw [Std.Legacy.Range.forIn_eq_forIn_range']
  have := hL (List.range' [:n].start [:n].size [:n].step) (fun i hi => by simp [Std.Legacy.Range.size] at hi; omega) w
  rw [this]
  rfl
end Go.Proofs.Ytekdgohomaeeeaa

/- LpcMath -/
namespace Go.Proofs.Ytekdgohomaeeeaa
open Go.RowKit
set_option linter.unusedVariables false
set_option linter.unusedSimpArgs false
def FillN (n : Nat) (f : Nat → Int) (k : Nat) (rs : List Int) : Prop := rs.length = n ∧ ∀ j, j < k → nth rs j = f j
theorem fillN_all {n : Nat} {f : Nat → Int} {rs : List Int} (h : FillN n f n rs) : rs = (List.range n).map f := by
  apply List.ext_getElem
  · simp [h.1]
  · intro i h1 h2
    have := h.2 i (by have := h.1; omega)
    simpa [nth, List.getD, h1] using this
end Go.Proofs.Ytekdgohomaeeeaa

/- LpcS -/
namespace Go.Proofs.Ytekdgohomaeeeaa
open Go.RowKit
set_option linter.unusedVariables false
set_option linter.unusedSimpArgs false
def Mem2 (w wr : World) (T1 T2 : TypeId) (a b : List Int) : Prop := Blk wr w.heap.size T1 a ∧ Blk wr (w.heap.size + 1) T2 b ∧ w.grownBy wr none
def Mem3 (w wr : World) (T1 T2 T3 : TypeId) (a b c : List Int) : Prop := Blk wr w.heap.size T1 a ∧ Blk wr (w.heap.size + 1) T2 b ∧ Blk wr (w.heap.size + 1 + 1) T3 c ∧ w.grownBy wr none
theorem Mem2.keep {w wr wr' : World} {T1 T2 : TypeId} {a b : List Int} (h : Mem2 w wr T1 T2 a b) (g : wr.grownBy wr' none) : Mem2 w wr' T1 T2 a b := ⟨h.1.keep g, h.2.1.keep g, grown_none h.2.2 g⟩
theorem Mem3.keep {w wr wr' : World} {T1 T2 T3 : TypeId} {a b c : List Int} (h : Mem3 w wr T1 T2 T3 a b c) (g : wr.grownBy wr' none) : Mem3 w wr' T1 T2 T3 a b c := ⟨h.1.keep g, h.2.1.keep g, h.2.2.1.keep g, grown_none h.2.2.2 g⟩
theorem Mem2.set {w wr : World} {T1 T2 : TypeId} {a b : List Int} (h : Mem2 w wr T1 T2 a b) (k : Nat) (z : Int) : Mem2 w (wr.setCell ⟨w.heap.size, k, none⟩ (.int .i64 z)) T1 T2 (a.set k z) b :=
  ⟨h.1.set k z, h.2.1.keepBut (grown_setCell _ ⟨w.heap.size, k, none⟩ _) (by simp), grown_own h.2.2 (grown_setCell _ ⟨w.heap.size, k, none⟩ _) (by simp)⟩
theorem Mem3.set {w wr : World} {T1 T2 T3 : TypeId} {a b c : List Int} (h : Mem3 w wr T1 T2 T3 a b c) (k : Nat) (z : Int) : Mem3 w (wr.setCell ⟨w.heap.size, k, none⟩ (.int .i64 z)) T1 T2 T3 (a.set k z) b c :=
  ⟨h.1.set k z, h.2.1.keepBut (grown_setCell _ ⟨w.heap.size, k, none⟩ _) (by simp), h.2.2.1.keepBut (grown_setCell _ ⟨w.heap.size, k, none⟩ _) (by simp; omega), grown_own h.2.2.2 (grown_setCell _ ⟨w.heap.size, k, none⟩ _) (by simp)⟩
end Go.Proofs.Ytekdgohomaeeeaa

/- LevMath -/
namespace Go.Proofs.Ytekdgohomaeeeaa
open Go.RowKit
set_option linter.unusedVariables false
set_option linter.unusedSimpArgs false
def tab (n : Nat) (p : Nat → Int) : List Int := (List.range n).map p
theorem tab_len (n : Nat) (p : Nat → Int) : (tab n p).length = n := by simp [tab]
theorem tab_nth (n : Nat) (p : Nat → Int) (i : Nat) (h : i < n) : nth (tab n p) i = p i := by simp [tab, nth, List.getD, h]
theorem tab_ext {n : Nat} {p : Nat → Int} {l : List Int} (h1 : l.length = n) (h2 : ∀ i, i < n → nth l i = p i) : l = tab n p := fillN_all (n := n) ⟨h1, h2⟩
def RB (r : Nat → Int) : Prop := ∀ i, -2147483647 ≤ r i ∧ r i ≤ 2147483647
end Go.Proofs.Ytekdgohomaeeeaa

/- VBlk -/
namespace Go.Proofs.Ytekdgohomaeeeaa
open Go.RowKit
set_option linter.unusedVariables false
set_option linter.unusedSimpArgs false
def BlkV (w : World) (b : Nat) (T : TypeId) (cs : List Value) : Prop := w.heap[b]? = some (.cells cs.toArray T (0, 0))
theorem BlkV.cell {w : World} {b : Nat} {T : TypeId} {cs : List Value} (h : BlkV w b T cs) (i : Nat) : w.cell? ⟨b, i, none⟩ = cs[i]? := by rw [cell_of_heap h]; simp
theorem BlkV.free {w : World} {b : Nat} {T : TypeId} {cs : List Value} (h : BlkV w b T cs) (i : Nat) : w.frozen? ⟨b, i, none⟩ = false := frozen_of_heap h i
theorem BlkV.lt {w : World} {b : Nat} {T : TypeId} {cs : List Value} (h : BlkV w b T cs) : b < w.heap.size := lt_of_some h
theorem BlkV.keep {w w' : World} {b : Nat} {T : TypeId} {cs : List Value} (h : BlkV w b T cs) (g : w.grownBy w' none) : BlkV w' b T cs := (g.block _ (lt_of_some h) (by simp)).trans h
theorem BlkV.keepBut {w w' : World} {b : Nat} {T : TypeId} {cs : List Value} {r : Nat} (h : BlkV w b T cs) (g : w.grownBy w' (some r)) (hr : b ≠ r) : BlkV w' b T cs := (g.block _ (lt_of_some h) (by simpa using hr)).trans h
theorem BlkV.new (w : World) (T : TypeId) (cs : List Value) : BlkV (w.alloc (.cells cs.toArray T)) w.heap.size T cs := heap_new w _
theorem BlkV.set {w : World} {b : Nat} {T : TypeId} {cs : List Value} (h : BlkV w b T cs) (k : Nat) (v : Value) : BlkV (w.setCell ⟨b, k, none⟩ v) b T (cs.set k v) := by
  unfold BlkV
  rw [heap_setCell h]
  simp
theorem BlkV.range {w : World} {b : Nat} {T : TypeId} {cs : List Value} (h : BlkV w b T cs) (o n : Nat) : w.rangeAt b o ((cs.drop o).take n) := fun j v hv => by
  rw [h.cell]
  rw [List.getElem?_take] at hv
  split at hv
  · rw [List.getElem?_drop] at hv; exact hv
  · cases hv
theorem BlkV.there {w : World} {b : Nat} {T : TypeId} {cs : List Value} (h : BlkV w b T cs) (o n : Nat) (hn : o + n ≤ cs.length) : w.there b o n := fun j hj =>
  ⟨by rw [h.cell, List.getElem?_eq_getElem (by omega)]; rfl, h.free _⟩
def splV (cs : List Value) (o : Nat) (vs : List Value) : List Value := cs.take o ++ vs ++ cs.drop (o + vs.length)
theorem splV_all (cs vs : List Value) (h : vs.length = cs.length) : splV cs 0 vs = vs := by simp [splV, h]
theorem heap_setV (b : Nat) (T : TypeId) : ∀ (vs : List Value) (o : Nat) (w : World) (cs : List Value), BlkV w b T cs → o + vs.length ≤ cs.length → BlkV (w.setCells b o vs) b T (splV cs o vs) ∧ w.grownBy (w.setCells b o vs) (some b)
  | [], o, w, cs, h, _ => ⟨by show BlkV w b T (splV cs o []); unfold splV; simp; exact h, grown_refl w _⟩
  | z :: M, o, w, cs, h, hl => by
    simp only [List.length_cons] at hl
    have h1 := h.set o z
    obtain ⟨a1, a2⟩ := heap_setV b T M (o + 1) (w.setCell ⟨b, o, none⟩ z) (cs.set o z) h1 (by rw [List.length_set]; omega)
    refine ⟨?_, grown_trans (grown_setCell w ⟨b, o, none⟩ _) a2 (some b) (fun i e _ => e) (fun i e _ => e)⟩
    have e : splV (cs.set o z) (o + 1) M = splV cs o (z :: M) := by
      unfold splV
      rw [List.take_succ_eq_append_getElem (by rw [List.length_set]; omega)]
      simp [show o < cs.length by omega]
      rw [List.drop_set_of_lt (by omega), show o + 1 + M.length = o + (M.length + 1) by omega]
      rw [List.take_set_of_le (Nat.le_refl _)]
    rw [← e]
    exact a1
def putV (w : World) (b o : Nat) (vs : List Value) : World := w.setCells b o vs
theorem put_v {w : World} {b : Nat} {T : TypeId} {cs : List Value} (h : BlkV w b T cs) (o : Nat) (vs : List Value) (hl : o + vs.length ≤ cs.length) : BlkV (putV w b o vs) b T (splV cs o vs) ∧ w.grownBy (putV w b o vs) (some b) := heap_setV b T vs o w cs h hl
theorem wpList_load_v {ops : Array Oper} {rest : List Oper} {op : Oper} {a : Act} {w : World} {Q : Exit → Act → World → Prop} (hgd : op.guard = none) (T : TypeId) (x : Operand) (ho : op.op = .load T x)
    (b o n : Nat) (hx : a.eval x = .pointer (some ⟨b, o, none⟩)) (TB : TypeId) (cs : List Value) (h : BlkV w b TB cs) (d : TypeDesc) (hu : Try.prog.underlying T = some d) (hd : d.isRow = true) (hi : (Try.prog.info? T).map (·.size) = some n) (hn : o + n ≤ cs.length) (vs : List Value) (hvs : (cs.drop o).take n = vs)
    (k : wpList Try.prog ops Q rest (a.put op.dst (.agg vs.toArray)) w) : wpList Try.prog ops Q (op :: rest) a w := by
  subst hvs
  exact wpList_load_mid hgd T x ho b o hx _ d (h.range o n) hu hd (by rw [hi]; simp; omega) k
theorem yields_load_v {w : World} {b o n : Nat} {T TB : TypeId} {cs : List Value} {a : Act} {op : Oper} {x : Operand} (ho : op.op = .load T x) (hx : a.eval x = .pointer (some ⟨b, o, none⟩)) (h : BlkV w b TB cs) (d : TypeDesc) (hu : Try.prog.underlying T = some d) (hd : d.isRow = true) (hi : (Try.prog.info? T).map (·.size) = some n) (hn : o + n ≤ cs.length) (vs : List Value) (hvs : (cs.drop o).take n = vs) :
    (execOp a.eval op).run Try.prog w = .ok (.value (.agg vs.toArray)) w := by
  subst hvs
  have := run_loadAt_mid (P := Try.prog) w b o T _ d (h.range o n) hu hd (by rw [hi]; simp; omega)
  unfold execOp
  simp [ho, hx, this]
theorem loadVar_v {w : World} {b : Nat} {T : TypeId} {cs : List Value} (h : BlkV w b T cs) (d : TypeDesc) (hu : Try.prog.underlying T = some d) (hd : d.isRow = true) (hi : (Try.prog.info? T).map (·.size) = some cs.length) :
    Sem.run Try.prog (loadVar T ⟨b, 0, none⟩) w = .ok (.agg cs.toArray) w := by
  have := run_loadVar_mid (P := Try.prog) w b 0 T ((cs.drop 0).take cs.length) d (h.range 0 cs.length) hu hd (by rw [hi]; simp)
  simpa using this
theorem ones_v {vs : List Value} (h : ∀ v ∈ vs, v.oneCell' = true) : vs.toArray.all (·.oneCell') = true := all_oneCell_toArray h
theorem wpList_store_v {ops : Array Oper} {rest : List Oper} {op : Oper} {a : Act} {w : World} {Q : Exit → Act → World → Prop} (hgd : op.guard = none) (T : TypeId) (x y : Operand) (ho : op.op = .store T x y)
    (b o : Nat) (TB : TypeId) (cs vs : List Value) (hx : a.eval x = .pointer (some ⟨b, o, none⟩)) (hy : a.eval y = .agg vs.toArray) (h : BlkV w b TB cs) (hl : o + vs.length ≤ cs.length) (hi : (Try.prog.info? T).map (·.size) = some vs.length) (h1 : ∀ v ∈ vs, v.oneCell' = true)
    (k : wpList Try.prog ops Q rest (a.put op.dst undef) (putV w b o vs)) : wpList Try.prog ops Q (op :: rest) a w :=
  wpList_store_mid hgd T x y ho b o vs.toArray hx hy (by simpa using h.there o vs.length hl) (by simpa using hi) (ones_v h1) (by simpa [putV] using k)
def intsV (l : List Int) : List Value := l.map (Value.int .i64)
theorem intsV_one (l : List Int) : ∀ v ∈ intsV l, v.oneCell' = true := by
  intro v hv
  obtain ⟨x, _, rfl⟩ := List.mem_map.1 hv
  rfl
theorem intsV_len (l : List Int) : (intsV l).length = l.length := by simp [intsV]
def prt (l : List Int) (o n : Nat) : List Int := tab n (fun i => nth l (o + i))
theorem prt_len (l : List Int) (o n : Nat) : (prt l o n).length = n := tab_len _ _
theorem prt_nth (l : List Int) (o n i : Nat) (h : i < n) : nth (prt l o n) i = nth l (o + i) := tab_nth _ _ _ h
theorem prt_eq (l : List Int) (o n : Nat) (h : o + n ≤ l.length) : (l.drop o).take n = prt l o n := by
  refine tab_ext (by simp; omega) (fun i hi => ?_)
  simp [nth, List.getD, List.getElem?_take, List.getElem?_drop, hi]
def ovr (l : List Int) (o : Nat) (M : List Int) : List Int := tab l.length (fun i => if o ≤ i ∧ i < o + M.length then nth M (i - o) else nth l i)
theorem ovr_eq (l : List Int) (o : Nat) (M : List Int) (h : o + M.length ≤ l.length) : l.take o ++ M ++ l.drop (o + M.length) = ovr l o M := by
  refine tab_ext (by simp; omega) (fun i hi => ?_)
  unfold nth List.getD
  by_cases h1 : i < o
  · rw [if_neg (by omega), List.getElem?_append_left (by simp; omega), List.getElem?_append_left (by simp; omega), List.getElem?_take, if_pos h1]
  · by_cases h2 : i < o + M.length
    · rw [if_pos (by omega), List.getElem?_append_left (by simp; omega), List.getElem?_append_right (by simp; omega)]
      congr 2
      simp; omega
    · rw [if_neg (by omega), List.getElem?_append_right (by simp; omega), List.getElem?_drop]
      congr 2
      simp; omega
def mixC (l : List Int) (z : List Value) : List Value := intsV l ++ z
theorem mixC_len (l : List Int) (z : List Value) : (mixC l z).length = l.length + z.length := by simp [mixC, intsV]
theorem mixC_get (l : List Int) (z : List Value) (i : Nat) (h : i < l.length) : (mixC l z)[i]? = some (.int .i64 (nth l i)) := by
  unfold mixC
  rw [List.getElem?_append_left (by rw [intsV_len]; exact h)]
  simp [intsV, nth, List.getD, h]
theorem mixC_set (l : List Int) (z : List Value) (i : Nat) (x : Int) (h : i < l.length) : (mixC l z).set i (.int .i64 x) = mixC (l.set i x) z := by
  unfold mixC intsV
  rw [List.set_append_left _ _ (by simpa using h), List.map_set]
theorem mixC_part (l : List Int) (z : List Value) (o n : Nat) (h : o + n ≤ l.length) : ((mixC l z).drop o).take n = intsV (prt l o n) := by
  rw [← prt_eq l o n h]
  unfold mixC intsV
  rw [List.drop_append_of_le_length (by simp; omega), List.take_append_of_le_length (by simp; omega), ← List.map_drop, ← List.map_take]
theorem mixC_spl (l : List Int) (z : List Value) (o : Nat) (M : List Int) (h : o + M.length ≤ l.length) : splV (mixC l z) o (intsV M) = mixC (ovr l o M) z := by
  rw [← ovr_eq l o M h]
  unfold splV mixC
  rw [intsV_len, List.take_append_of_le_length (by rw [intsV_len]; omega), List.drop_append_of_le_length (by rw [intsV_len]; exact h)]
  simp [intsV, List.map_take, List.map_drop]
theorem mixC_one (l : List Int) (z : List Value) (h : ∀ v ∈ z, v.oneCell' = true) : ∀ v ∈ mixC l z, v.oneCell' = true := by
  intro v hv
  rcases List.mem_append.1 hv with q | q
  · exact intsV_one l v q
  · exact h v q
theorem BlkV.ints {w : World} {b : Nat} {T : TypeId} {l : List Int} {z : List Value} (h : BlkV w b T (mixC l z)) (o n c : Nat) (hn : o + n ≤ l.length) (hc : n ≤ c) : Ints w (.slice (some ⟨b, o, none⟩) n c) (prt l o n) := by
  refine ⟨some ⟨b, o, none⟩, c, by rw [prt_len], by rw [prt_len]; exact hc, fun _ => ⟨_, rfl, fun i hi => ?_⟩⟩
  rw [prt_len] at hi
  rw [Addr.add_mid, h.cell, mixC_get _ _ _ (by omega), prt_nth _ _ _ _ hi]
end Go.Proofs.Ytekdgohomaeeeaa

/- DualMath -/
namespace Go.Proofs.Ytekdgohomaeeeaa

end Go.Proofs.Ytekdgohomaeeeaa

/- PowMath -/
namespace Go.Proofs.Ytekdgohomaeeeaa

end Go.Proofs.Ytekdgohomaeeeaa

/- GainMath -/
namespace Go.Proofs.Ytekdgohomaeeeaa

end Go.Proofs.Ytekdgohomaeeeaa

/- SynthMath -/
namespace Go.Proofs.Ytekdgohomaeeeaa
open Go.RowKit
set_option linter.unusedVariables false
set_option linter.unusedSimpArgs false
def gsum (a h : List Int) : Nat → Int
  | 0 => 2048
  | i + 1 => gsum a h i + nth a (i + 1) * nth h i
def gs (a h : List Int) : Int := gsum a h 8 / 4096
end Go.Proofs.Ytekdgohomaeeeaa

/- Btr -/
namespace Go.Proofs.Ytekdgohomaeeeaa

end Go.Proofs.Ytekdgohomaeeeaa

/- PitchMath -/
namespace Go.Proofs.Ytekdgohomaeeeaa

end Go.Proofs.Ytekdgohomaeeeaa

/- MemMath -/
namespace Go.Proofs.Ytekdgohomaeeeaa
open Go.RowKit
set_option linter.unusedVariables false
set_option linter.unusedSimpArgs false
def mlo (i : Nat) : Int := if i < 8 then -31000 else if i < 96 then -32768 else if i = 98 then 20 else 0
def mhi (i : Nat) : Int := if i < 8 then 31000 else if i < 97 then 32767 else if i = 97 then 18022 else if i = 98 then 79 else if i = 99 then 6 else 65535
def goodM (l : List Int) : Bool := (List.range 101).all fun i => decide (mlo i ≤ nth l i) && decide (nth l i ≤ mhi i)
theorem goodM_iff (l : List Int) : goodM l = true ↔ ∀ i, i < 101 → mlo i ≤ nth l i ∧ nth l i ≤ mhi i := by
  unfold goodM
  rw [List.all_eq_true]
  constructor
  · intro h i hi
    have := h i (List.mem_range.2 hi)
    simpa using this
  · intro h i hi
    have := h i (List.mem_range.1 hi)
    simpa using this
theorem rfl_at (i : Nat) (h : i < 8) : mlo i = -31000 ∧ mhi i = 31000 := ⟨if_pos h, if_pos h⟩
theorem smp_at (i : Nat) (h : 8 ≤ i) (h2 : i < 96) : mlo i = -32768 ∧ mhi i = 32767 := by
  unfold mlo mhi
  rw [if_neg (by omega), if_pos h2, if_neg (by omega), if_pos (by omega)]
  exact ⟨rfl, rfl⟩
def reflB (l : List Int) : Bool := (List.range 8).all fun i => decide (-31000 ≤ nth l i) && decide (nth l i ≤ 31000)
theorem reflB_iff (l : List Int) : reflB l = true ↔ ∀ i, i < 8 → -31000 ≤ nth l i ∧ nth l i ≤ 31000 := by
  unfold reflB
  rw [List.all_eq_true]
  constructor
  · intro h i hi
    have := h i (List.mem_range.2 hi)
    simpa using this
  · intro h i hi
    have := h i (List.mem_range.1 hi)
    simpa using this
theorem right_prt (l : List Int) (o n : Nat) : rightB (prt l o n) = true ↔ ∀ i, i < n → -32768 ≤ nth l (o + i) ∧ nth l (o + i) ≤ 32767 := by
  rw [rightB_iff, prt_len]
  constructor
  · intro h i hi; have := h i hi; rwa [prt_nth _ _ _ _ hi] at this
  · intro h i hi; rw [prt_nth _ _ _ _ hi]; exact h i hi
theorem goodM_parts (l : List Int) : goodM l = true ↔ reflB l = true ∧ rightB (prt l 8 8) = true ∧ rightB (prt l 16 80) = true ∧ (0 ≤ nth l 96 ∧ nth l 96 ≤ 32767) ∧ (0 ≤ nth l 97 ∧ nth l 97 ≤ 18022) ∧ (20 ≤ nth l 98 ∧ nth l 98 ≤ 79) ∧ (0 ≤ nth l 99 ∧ nth l 99 ≤ 6) ∧ (0 ≤ nth l 100 ∧ nth l 100 ≤ 65535) := by
  rw [goodM_iff, reflB_iff, right_prt, right_prt]
  constructor
  · intro h
    refine ⟨fun i hi => ?_, fun i hi => ?_, fun i hi => ?_, h 96 (by omega), h 97 (by omega), h 98 (by omega), h 99 (by omega), h 100 (by omega)⟩
    · have := h i (by omega); rw [(rfl_at i hi).1, (rfl_at i hi).2] at this; exact this
    · have := h (8 + i) (by omega); rw [(smp_at (8 + i) (by omega) (by omega)).1, (smp_at (8 + i) (by omega) (by omega)).2] at this; exact this
    · have := h (16 + i) (by omega); rw [(smp_at (16 + i) (by omega) (by omega)).1, (smp_at (16 + i) (by omega) (by omega)).2] at this; exact this
  · rintro ⟨h1, h2, h3, h4, h5, h6, h7, h8⟩ i hi
    by_cases e1 : i < 8
    · rw [(rfl_at i e1).1, (rfl_at i e1).2]; exact h1 i e1
    · by_cases e2 : i < 16
      · rw [(smp_at i (by omega) (by omega)).1, (smp_at i (by omega) (by omega)).2]
        have := h2 (i - 8) (by omega)
        rwa [show 8 + (i - 8) = i by omega] at this
      · by_cases e3 : i < 96
        · rw [(smp_at i (by omega) (by omega)).1, (smp_at i (by omega) (by omega)).2]
          have := h3 (i - 16) (by omega)
          rwa [show 16 + (i - 16) = i by omega] at this
        · obtain rfl | rfl | rfl | rfl | rfl : i = 96 ∨ i = 97 ∨ i = 98 ∨ i = 99 ∨ i = 100 := by omega
          · exact h4
          · exact h5
          · exact h6
          · exact h7
          · exact h8
def freL : List Int := ((zeros 101).set 98 20).set 100 21845
theorem freL_len : freL.length = 101 := by unfold freL; rw [List.length_set, List.length_set, zeros_len]
abbrev mxO (lag g : Int) (b : List Int) : Prop := b.length = 40 ∧ (20 ≤ lag ∧ lag ≤ 79) ∧ 0 ≤ g ∧ g ≤ 32767
abbrev erO (l : List Int) (half : Int) : Prop := goodM l = true ∧ 0 ≤ half ∧ half ≤ 1
end Go.Proofs.Ytekdgohomaeeeaa

/- Owns -/
namespace Go.Proofs.Ytekdgohomaeeeaa
open Go.RowKit
set_option linter.unusedVariables false
set_option linter.unusedSimpArgs false
set_option maxHeartbeats 1000000
def Own (base : Nat) (w : World) (v : Value) (l : List Int) : Prop := w.ownsRow base 3 1 v l.length (l.map (Value.int .i64))
theorem Own.ints {base : Nat} {w : World} {v : Value} {l : List Int} (h : Own base w v l) : Ints w v l := Ints_of_owns h
theorem Own.keep {base : Nat} {w w' : World} {v : Value} {l : List Int} (h : Own base w v l) (g : w.grownBy w' none) : Own base w' v l :=
  h.kept g (by rcases v.ownBlock with _ | b <;> simp)
theorem Own.keepBut {base : Nat} {w w' : World} {v : Value} {l : List Int} {b : Nat} {cs : Array Value} {t : TypeId} {f : Nat × Nat} (h : Own base w v l) (g : w.grownBy w' (some b)) (hb : w.heap[b]? = some (.cells cs t f)) (ht : t ≠ 3) : Own base w' v l := by
  refine h.kept g ?_
  rcases h.2 with ⟨rfl, _⟩ | ⟨g', cap, cur, rfl, _, hg, _⟩
  · exact .inl rfl
  · right
    intro e
    simp [Value.ownBlock] at e
    subst e
    rw [hg] at hb
    simp at hb
    exact ht hb.2.1.symm
theorem Own.base {b b' : Nat} {w : World} {v : Value} {l : List Int} (h : Own b w v l) (hb : b' ≤ b) : Own b' w v l := by
  refine ⟨h.1, ?_⟩
  rcases h.2 with h | ⟨g, cap, cur, e, h1, h2⟩
  · exact .inl h
  · exact .inr ⟨g, cap, cur, e, by omega, h2⟩
theorem Own.lt {base : Nat} {w : World} {v : Value} {l : List Int} (h : Own base w v l) (g : Nat) (hg : v.ownBlock = some g) : base ≤ g ∧ g < w.heap.size := by
  rcases h.2 with ⟨rfl, _⟩ | ⟨g', cap, cur, rfl, h1, h2, _⟩
  · cases hg
  · simp [Value.ownBlock] at hg
    subst hg
    exact ⟨h1, lt_of_some h2⟩
theorem Own.cell {base : Nat} {w : World} {g cap n : Nat} {l : List Int} (h : Own base w (.slice (some ⟨g, 0, none⟩) n cap) l) (hn : n = l.length) (j : Nat) (hj : j < l.length) : w.cell? ⟨g, j, none⟩ = some (.int .i64 (nth l j)) := by
  subst hn
  have := World.ownsRow.cellAt h j (by omega)
  rw [this]
  simp [nth, List.getD, hj]
theorem Own.free {base : Nat} {w : World} {g cap n : Nat} {l : List Int} (h : Own base w (.slice (some ⟨g, 0, none⟩) n cap) l) (hn : n = l.length) (j : Nat) : w.frozen? ⟨g, j, none⟩ = false := by
  subst hn
  exact World.ownsRow.frozenAt h j
theorem Own.set {base : Nat} {w : World} {g cap n : Nat} {l : List Int} (h : Own base w (.slice (some ⟨g, 0, none⟩) n cap) l) (hn : n = l.length) (j : Nat) (z : Int) : Own base (w.setCell ⟨g, j, none⟩ (.int .i64 z)) (.slice (some ⟨g, 0, none⟩) n cap) (l.set j z) ∧ w.grownBy (w.setCell ⟨g, j, none⟩ (.int .i64 z)) (some g) := by
  subst hn
  have := World.ownsRow.stored h j (.int .i64 z)
  refine ⟨?_, this.2⟩
  unfold Own
  rw [List.length_set, List.map_set]
  exact this.1
end Go.Proofs.Ytekdgohomaeeeaa

/- RegA -/
namespace Go.Proofs.Ytekdgohomaeeeaa
open Go.RowKit
set_option linter.unusedVariables false
def GrownW (w w' : World) : Prop := w.grownBy w' none
theorem gw_start (w : World) : GrownW w w.drew := grown_drew (grown_refl w none)
theorem gw_trans {w u u' : World} (h : GrownW w u) (g : u.grownBy u' none) : GrownW w u' := grown_none h g
end Go.Proofs.Ytekdgohomaeeeaa

/- EndMath -/
namespace Go.Proofs.Ytekdgohomaeeeaa
open Go.RowKit
set_option linter.unusedVariables false
set_option linter.unusedSimpArgs false
def Mem1 (w wr : World) (T : TypeId) (a : List Int) : Prop := Blk wr w.heap.size T a ∧ w.grownBy wr none
theorem Mem1.set {w wr : World} {T : TypeId} {a : List Int} (h : Mem1 w wr T a) (k : Nat) (z : Int) : Mem1 w (wr.setCell ⟨w.heap.size, k, none⟩ (.int .i64 z)) T (a.set k z) :=
  ⟨h.1.set k z, grown_own h.2 (grown_setCell _ ⟨w.heap.size, k, none⟩ _) (by simp)⟩
end Go.Proofs.Ytekdgohomaeeeaa

/- SynW -/
namespace Go.Proofs.Ytekdgohomaeeeaa

end Go.Proofs.Ytekdgohomaeeeaa

/- ConX -/
namespace Go.Proofs.Ytekdgohomaeeeaa
open Go.RowKit
set_option linter.unusedVariables false
set_option linter.unusedSimpArgs false
theorem size80c : (Try.prog.info? 23).map (·.size) = some 80 := by kernel_rfl
def AnsC (w : World) (v : Value) (e : Ending) (w' : World) : Prop := e = .returned v ∧ w.grownBy w' none
end Go.Proofs.Ytekdgohomaeeeaa

/- ConW -/
namespace Go.Proofs.Ytekdgohomaeeeaa
open Go.RowKit
set_option linter.unusedVariables false
set_option linter.unusedSimpArgs false
def memC (l : List Int) (s : Bool) : List Value := mixC l [.bool s]
def memV (l : List Int) (s : Bool) : Value := .agg (memC l s).toArray
theorem memC_len {l : List Int} (h : l.length = 101) (s : Bool) : (memC l s).length = 102 := by unfold memC; rw [mixC_len, h]; rfl
theorem memC_one (l : List Int) (s : Bool) : ∀ v ∈ memC l s, v.oneCell' = true := mixC_one _ _ (by intro v hv; simp at hv; subst hv; rfl)
theorem zMem : (Try.prog.info? 25).bind (·.zero) = some (memV (zeros 101) false) := by kernel_rfl
theorem size102 : (Try.prog.info? 25).map (·.size) = some 102 := by kernel_rfl
theorem size8 : (Try.prog.info? 22).map (·.size) = some 8 := by kernel_rfl
theorem zero_mem (w : World) : Sem.run Try.prog (zeroValue 25) w = .ok (memV (zeros 101) false) w := by
  have hz := zMem
  cases hq : Try.prog.info? 25 with
  | none => simp [hq] at hz
  | some i =>
    have hi : i.zero = some (memV (zeros 101) false) := by simpa [hq] using hz
    simp [zeroValue, typeInfo, hq, hi]
def BlkM (w : World) (b : Nat) (l : List Int) (s : Bool) : Prop := BlkV w b 25 (memC l s)
theorem BlkM.cell {w : World} {b : Nat} {l : List Int} {s : Bool} (h : BlkM w b l s) (i : Nat) (hi : i < l.length) : w.cell? ⟨b, i, none⟩ = some (.int .i64 (nth l i)) := (BlkV.cell h i).trans (mixC_get _ _ _ hi)
theorem BlkM.free {w : World} {b : Nat} {l : List Int} {s : Bool} (h : BlkM w b l s) (i : Nat) : w.frozen? ⟨b, i, none⟩ = false := BlkV.free h i
theorem BlkM.keep {w w' : World} {b : Nat} {l : List Int} {s : Bool} (h : BlkM w b l s) (g : w.grownBy w' none) : BlkM w' b l s := BlkV.keep h g
theorem BlkM.keepBut {w w' : World} {b : Nat} {l : List Int} {s : Bool} {r : Nat} (h : BlkM w b l s) (g : w.grownBy w' (some r)) (hr : b ≠ r) : BlkM w' b l s := BlkV.keepBut h g hr
theorem BlkM.lt {w : World} {b : Nat} {l : List Int} {s : Bool} (h : BlkM w b l s) : b < w.heap.size := BlkV.lt h
theorem BlkM.new (w : World) (l : List Int) (s : Bool) : BlkM (w.alloc (.cells (memC l s).toArray 25)) w.heap.size l s := BlkV.new w _ _
theorem BlkM.set {w : World} {b : Nat} {l : List Int} {s : Bool} (h : BlkM w b l s) (k : Nat) (z : Int) (hk : k < l.length) : BlkM (w.setCell ⟨b, k, none⟩ (.int .i64 z)) b (l.set k z) s := by
  have := BlkV.set h k (.int .i64 z)
  unfold memC at this
  rw [mixC_set _ _ _ _ hk] at this
  exact this
theorem BlkM.put {w : World} {b : Nat} {l : List Int} {s : Bool} (h : BlkM w b l s) (o : Nat) (M : List Int) (hl : o + M.length ≤ l.length) : BlkM (putV w b o (intsV M)) b (ovr l o M) s ∧ w.grownBy (putV w b o (intsV M)) (some b) := by
  have := put_v h o (intsV M) (by rw [intsV_len]; unfold memC; rw [mixC_len]; omega)
  unfold memC at this
  rw [mixC_spl _ _ _ _ hl] at this
  exact this
theorem BlkM.putAll {w : World} {b : Nat} {l m : List Int} {s t : Bool} (h : BlkM w b l s) (hl : l.length = 101) (hm : m.length = 101) : BlkM (putV w b 0 (memC m t)) b m t ∧ w.grownBy (putV w b 0 (memC m t)) (some b) := by
  have := put_v h 0 (memC m t) (by rw [memC_len hm, memC_len hl]; omega)
  rw [splV_all _ _ (by rw [memC_len hm, memC_len hl])] at this
  exact this
theorem BlkM.part {l : List Int} (s : Bool) (o n : Nat) (h : o + n ≤ l.length) : ((memC l s).drop o).take n = intsV (prt l o n) := mixC_part _ _ _ _ h
theorem BlkM.all {l : List Int} (s : Bool) (h : l.length = 101) : ((memC l s).drop 0).take 102 = memC l s := by rw [List.drop_zero, List.take_of_length_le (by rw [memC_len h]; omega)]
theorem BlkM.ints {w : World} {b : Nat} {l : List Int} {s : Bool} (h : BlkM w b l s) (o n c : Nat) (hn : o + n ≤ l.length) (hc : n ≤ c) : Ints w (.slice (some ⟨b, o, none⟩) n c) (prt l o n) := BlkV.ints h o n c hn hc
def CGd (f : Nat) (w : World) : Prop := ∀ (l : List Int) (s : Bool), l.length = 101 → In64 l → ∀ wr, w.grownBy wr none → Calls Try.prog f #[memV l s] wr (AnsC wr (.bool (goodM l)))
def CFr (f : Nat) (w : World) : Prop := ∀ wr, w.grownBy wr none → Calls Try.prog f #[] wr (AnsC wr (memV freL false))
end Go.Proofs.Ytekdgohomaeeeaa

/- MemEq -/
namespace Go.Proofs.Ytekdgohomaeeeaa
set_option maxRecDepth 100000
open Go.RowKit
set_option linter.unusedVariables false
set_option linter.unusedSimpArgs false
set_option maxHeartbeats 4000000
theorem part_v {T : TypeId} {d : TypeDesc} {n : Nat} (hu : Try.prog.underlying T = some d) (hd : (match d with | .struct _ | .array _ _ => true | _ => false) = true) (hs : (Try.prog.info? T).map (·.size) = some n) (cs : List Value) (k : Nat) (vs : List Value) (hv : (cs.drop k).take n = vs) (w : World) :
    Sem.run Try.prog (part T cs.toArray k) w = .ok (.agg vs.toArray) w := by
  obtain ⟨i0, hi, hz1⟩ : ∃ i0, Try.prog.info? T = some i0 ∧ i0.size = n := by
    cases hq : Try.prog.info? T with
    | none => rw [hq] at hs; cases hs
    | some i => exact ⟨i, rfl, by rw [hq] at hs; simpa using hs⟩
  have e : cs.toArray.extract k (k + n) = vs.toArray := by
    rw [List.extract_toArray, ← hv]
    congr 1
    simp [List.extract_eq_take_drop, List.drop_take]
  rw [← e]
  cases d <;> simp_all [part, isAgg, run_underlying hu, sizeOf, typeInfo, go_sem]
theorem part_i (cs : List Value) (k : Nat) (x : Int) (h : cs[k]? = some (.int .i64 x)) (w : World) : Sem.run Try.prog (part 3 cs.toArray k) w = .ok (.int .i64 x) w := by
  simp [part, isAgg, run_underlying Try.underlying3, h]
theorem part_b (cs : List Value) (k : Nat) (x : Bool) (h : cs[k]? = some (.bool x)) (w : World) : Sem.run Try.prog (part 4 cs.toArray k) w = .ok (.bool x) w := by
  simp [part, isAgg, run_underlying Try.underlying4, h]
theorem eq_intM (d : Nat) (a : Int) (w : World) : Sem.run Try.prog (Op.equalIn (d + 1) 3 (.int .i64 a) (.int .i64 a)) w = .ok true w := by
  rw [run_equalIn_int w d 3 .i64 .i64 a a Try.underlying3]; simp
theorem eq_boolM (d : Nat) (a : Bool) (w : World) : Sem.run Try.prog (Op.equalIn (d + 1) 4 (.bool a) (.bool a)) w = .ok true w := by
  rw [Op.equalIn]
  cases a <;> simp [run_underlying Try.underlying4, go_sem]
theorem eqF_step {d : Nat} {cs : Array Value} {f : Field} {fs : List Field} {v : Value} {w : World} (hn : f.name ≠ "_") (hp : Sem.run Try.prog (part f.type cs f.offset) w = .ok v w) (he : Sem.run Try.prog (Op.equalIn d f.type v v) w = .ok true w) (h : Sem.run Try.prog (Op.eqFields d cs cs fs) w = .ok true w) :
    Sem.run Try.prog (Op.eqFields d cs cs (f :: fs)) w = .ok true w := by
  unfold Op.eqFields
  rw [if_pos hn]
  simp only [Sem.run_bind, hp, Result.andThen_ok, he, Bool.not_true, Bool.false_eq_true, if_false]
  exact h
theorem eqF_nil {d : Nat} {cs : Array Value} {w : World} : Sem.run Try.prog (Op.eqFields d cs cs []) w = .ok true w := by
  unfold Op.eqFields
  exact Sem.run_pure ..
theorem memF : ∃ n0 n1 n2 n3 n4 n5 n6 n7 n8 : Field, (Try.prog.fieldsOf 25).toList = [n0, n1, n2, n3, n4, n5, n6, n7, n8] ∧
    (n0.name ≠ "_" ∧ n0.type = 22 ∧ n0.offset = 0) ∧ (n1.name ≠ "_" ∧ n1.type = 22 ∧ n1.offset = 8) ∧ (n2.name ≠ "_" ∧ n2.type = 23 ∧ n2.offset = 16) ∧ (n3.name ≠ "_" ∧ n3.type = 3 ∧ n3.offset = 96) ∧ (n4.name ≠ "_" ∧ n4.type = 3 ∧ n4.offset = 97) ∧
    (n5.name ≠ "_" ∧ n5.type = 3 ∧ n5.offset = 98) ∧ (n6.name ≠ "_" ∧ n6.type = 3 ∧ n6.offset = 99) ∧ (n7.name ≠ "_" ∧ n7.type = 3 ∧ n7.offset = 100) ∧ (n8.name ≠ "_" ∧ n8.type = 4 ∧ n8.offset = 101) := by
  unfold Program.fieldsOf
  rw [Try.underlying25]
  exact ⟨_, _, _, _, _, _, _, _, _, rfl, ⟨by decide, rfl, rfl⟩, ⟨by decide, rfl, rfl⟩, ⟨by decide, rfl, rfl⟩, ⟨by decide, rfl, rfl⟩, ⟨by decide, rfl, rfl⟩, ⟨by decide, rfl, rfl⟩, ⟨by decide, rfl, rfl⟩, ⟨by decide, rfl, rfl⟩, ⟨by decide, rfl, rfl⟩⟩
theorem eq_memD (d : Nat) (l : List Int) (s : Bool) (hl : l.length = 101) (w : World) : Sem.run Try.prog (Op.equalIn (d + 1 + 1 + 1) 25 (memV l s) (memV l s)) w = .ok true w := by
  obtain ⟨n0, n1, n2, n3, n4, n5, n6, n7, n8, hf, ⟨a0, b0, c0⟩, ⟨a1, b1, c1⟩, ⟨a2, b2, c2⟩, ⟨a3, b3, c3⟩, ⟨a4, b4, c4⟩, ⟨a5, b5, c5⟩, ⟨a6, b6, c6⟩, ⟨a7, b7, c7⟩, ⟨a8, b8, c8⟩⟩ := memF
  unfold memV
  rw [run_equalIn_struct w (d + 1 + 1) 25 _ _ (by kernel_rfl) (by kernel_rfl), hf]
  refine eqF_step a0 (v := .agg (arrI (prt l 0 8))) (by rw [b0, c0]; exact part_v Try.underlying22 rfl size8 (memC l s) 0 _ (BlkM.part s 0 8 (by omega)) w) (by rw [b0]; exact eq_arr (prt l 0 8) Try.underlying22 (prt_len _ _ _) d w) ?_
  refine eqF_step a1 (v := .agg (arrI (prt l 8 8))) (by rw [b1, c1]; exact part_v Try.underlying22 rfl size8 (memC l s) 8 _ (BlkM.part s 8 8 (by omega)) w) (by rw [b1]; exact eq_arr (prt l 8 8) Try.underlying22 (prt_len _ _ _) d w) ?_
  refine eqF_step a2 (v := .agg (arrI (prt l 16 80))) (by rw [b2, c2]; exact part_v Try.underlying23 rfl size80c (memC l s) 16 _ (BlkM.part s 16 80 (by omega)) w) (by rw [b2]; exact eq_arr (prt l 16 80) Try.underlying23 (prt_len _ _ _) d w) ?_
  refine eqF_step a3 (by rw [b3, c3]; exact part_i (memC l s) 96 _ (mixC_get _ _ _ (by omega)) w) (by rw [b3]; exact eq_intM (d + 1) _ w) ?_
  refine eqF_step a4 (by rw [b4, c4]; exact part_i (memC l s) 97 _ (mixC_get _ _ _ (by omega)) w) (by rw [b4]; exact eq_intM (d + 1) _ w) ?_
  refine eqF_step a5 (by rw [b5, c5]; exact part_i (memC l s) 98 _ (mixC_get _ _ _ (by omega)) w) (by rw [b5]; exact eq_intM (d + 1) _ w) ?_
  refine eqF_step a6 (by rw [b6, c6]; exact part_i (memC l s) 99 _ (mixC_get _ _ _ (by omega)) w) (by rw [b6]; exact eq_intM (d + 1) _ w) ?_
  refine eqF_step a7 (by rw [b7, c7]; exact part_i (memC l s) 100 _ (mixC_get _ _ _ (by omega)) w) (by rw [b7]; exact eq_intM (d + 1) _ w) ?_
  refine eqF_step a8 (by rw [b8, c8]; exact part_b (memC l s) 101 s (by unfold memC mixC; rw [List.getElem?_append_right (by rw [intsV_len]; omega), intsV_len, hl]; rfl) w) (by rw [b8]; exact eq_boolM (d + 1) _ w) ?_
  exact eqF_nil
theorem eq_mem (l : List Int) (s : Bool) (hl : l.length = 101) (w : World) : Sem.run Try.prog (Op.equalIn 10000 25 (memV l s) (memV l s)) w = .ok true w := eq_memD 9997 l s hl w
theorem bin_mem (l : List Int) (s : Bool) (hl : l.length = 101) (w : World) : Sem.run Try.prog (binOp .eql 25 (memV l s) (memV l s)) w = .ok (.bool true) w := by
  have h := eq_mem l s hl w
  unfold memV at h ⊢
  rw [run_eql_struct, h]
  rfl
theorem guard_mem (x y : Operand) (l m : List Int) (s t : Bool) (w : World) : Sem.run Try.prog (eqGuard .eql 25 x y (memV l s) (memV m t)) w = .ok () w := run_eqGuard_agg w .eql 25 x y _ _ (by kernel_rfl)
theorem exec_mem {o : Oper} {a : Act} {w : World} (x y : Operand) (ho : o.op = .binOp .eql 25 x y 25) (l : List Int) (s : Bool) (hl : l.length = 101) (hx : a.eval x = memV l s) (hy : a.eval y = memV l s) : (execOp a.eval o).run Try.prog w = .ok (.value (.bool true)) w := by
  have h1 := guard_mem x y l l s s w
  have h2 := bin_mem l s hl w
  unfold execOp
  simp [ho, hx, hy, h1, h2]
end Go.Proofs.Ytekdgohomaeeeaa

/- BigMem -/
namespace Go.Proofs.Ytekdgohomaeeeaa

end Go.Proofs.Ytekdgohomaeeeaa

/- BigA -/
namespace Go.Proofs.Ytekdgohomaeeeaa
open Go.RowKit
set_option linter.unusedVariables false
set_option maxHeartbeats 1000000
theorem P8 : P 8 = 115792089237316195423570985008687907853269984665640564039457584007913129639936 := rfl
end Go.Proofs.Ytekdgohomaeeeaa

/- BigB -/
namespace Go.Proofs.Ytekdgohomaeeeaa

end Go.Proofs.Ytekdgohomaeeeaa

/- BigC -/
namespace Go.Proofs.Ytekdgohomaeeeaa

end Go.Proofs.Ytekdgohomaeeeaa

/- BigD -/
namespace Go.Proofs.Ytekdgohomaeeeaa

end Go.Proofs.Ytekdgohomaeeeaa

/- Order -/
namespace Go.Proofs.Ytekdgohomaeeeaa
set_option linter.unusedVariables false
section
variable {P : Program} {ops : Array Oper} {Q : Exit → Act → World → Prop} {md : Region.Mode} {S : World → Prop} {g : Nat}
def Closed (md : Region.Mode) (ops : Array Oper) (listed : Array Bool) : Prop :=
  ∀ j oj, ops[j]? = some oj → listed.getD j false = true → ∀ e ∈ oj.after, Region.binds md e = true → listed.getD e.on false = true
theorem getD_set_inv {listed : Array Bool} {i j : Nat} (h : (listed.setIfInBounds i true).getD j false = true) : j = i ∨ listed.getD j false = true := by
  by_cases hij : i = j
  · exact Or.inl hij.symm
  · rw [getD_set_ne false hij] at h; exact Or.inr h
theorem Closed.set {listed : Array Bool} {i : Nat} (h : Closed md ops listed) (hi : i ∈ Region.ready md ops listed) : Closed md ops (listed.setIfInBounds i true) := by
  intro j oj hj hl e he hb
  apply getD_set_true
  rcases getD_set_inv hl with rfl | hl
  · obtain ⟨_, o, ho, hall⟩ := mem_ready.1 hi
    rw [hj] at ho; cases ho
    exact hall e he hb
  · exact h j oj hj hl e he hb
theorem Closed.zero (n : Nat) : Closed md ops (Array.replicate n false) := fun j oj _ hl => by rw [getD_replicate_false] at hl; cases hl
end
end Go.Proofs.Ytekdgohomaeeeaa

/- BigE -/
namespace Go.Proofs.Ytekdgohomaeeeaa

end Go.Proofs.Ytekdgohomaeeeaa

/- BigF -/
namespace Go.Proofs.Ytekdgohomaeeeaa

end Go.Proofs.Ytekdgohomaeeeaa

/- BigG -/
namespace Go.Proofs.Ytekdgohomaeeeaa

end Go.Proofs.Ytekdgohomaeeeaa

/- BigH -/
namespace Go.Proofs.Ytekdgohomaeeeaa
open Go.RowKit
set_option linter.unusedVariables false
set_option maxHeartbeats 1000000
def Says (w : World) (r : Value) (e : Ending) (w' : World) : Prop := e = .returned r ∧ w' = w
end Go.Proofs.Ytekdgohomaeeeaa

/- BigS -/
namespace Go.Proofs.Ytekdgohomaeeeaa

end Go.Proofs.Ytekdgohomaeeeaa

/- BigT -/
namespace Go.Proofs.Ytekdgohomaeeeaa

end Go.Proofs.Ytekdgohomaeeeaa

/- Clip -/
namespace Go.Proofs.Ytekdgohomaeeeaa

end Go.Proofs.Ytekdgohomaeeeaa

/- LshN -/
namespace Go.Proofs.Ytekdgohomaeeeaa

end Go.Proofs.Ytekdgohomaeeeaa

/- BigV -/
namespace Go.Proofs.Ytekdgohomaeeeaa

end Go.Proofs.Ytekdgohomaeeeaa

/- BigY -/
namespace Go.Proofs.Ytekdgohomaeeeaa

end Go.Proofs.Ytekdgohomaeeeaa

/- RefWt -/
namespace Go.Proofs.Ytekdgohomaeeeaa

end Go.Proofs.Ytekdgohomaeeeaa

/- RefDown -/
namespace Go.Proofs.Ytekdgohomaeeeaa
open Go.RowKit
set_option linter.unusedVariables false
set_option linter.unusedSimpArgs false
set_option maxHeartbeats 1000000
theorem refRight_any (v : Value) (l : List Int) (w : World) (h : Ints w v l) (hl : l.length ≤ 1000000000000000000) :
    Calls Try.prog 30 #[v] w (Says w (.bool (rightB l))) := by
  obtain ⟨ad, c, rfl, hc, hcell⟩ := h
  have Y := hide (fun (hh : ∀ i, i < l.length → -32768 ≤ nth l i ∧ nth l i ≤ 32767) => (show Says w (.bool (rightB l)) (.returned (.bool true)) w from ⟨by rw [(rightB_iff l).2 hh], rfl⟩))
  have N := hide (fun i (hi : i < l.length) (hh : ¬ (-32768 ≤ nth l i ∧ nth l i ≤ 32767)) => (show Says w (.bool (rightB l)) (.returned (.bool false)) w from ⟨by
    have : rightB l = false := by
      rcases hb : rightB l with _ | _
      · rfl
      · exact absurd ((rightB_iff l).1 hb i hi) hh
    rw [this], rfl⟩))
  generalize Says w (.bool (rightB l)) = T at *
  go_enter Try.func30, Try.ntmps30
  go_wp2_with fail
  go_loop [7] (fun i => ∃ k : Nat, i = .int .i64 k ∧ k ≤ l.length ∧ Hid (∀ i, i < k → -32768 ≤ nth l i ∧ nth l i ≤ 32767)) (fun i => l.length - (intOf i).toNat)
  case atStart => exact ⟨0, rfl, Nat.zero_le _, fun i hi => by omega⟩
  case round =>
    obtain ⟨k, rfl, hk, hG⟩ := hrel
    by_cases hkl : k < l.length
    · obtain ⟨a, rfl, hv⟩ := hcell (by omega)
      have hck := hv k hkl
      have NK := hide (N.out k hkl)
      have GK := hide (fun (hh : -32768 ≤ nth l k ∧ nth l k ≤ 32767) => (show ∀ i, i < k + 1 → -32768 ≤ nth l i ∧ nth l i ≤ 32767 from fun i hi => by
        rcases Nat.lt_or_ge i k with g | g
        · exact hG.out i g
        · obtain rfl : i = k := by omega
          exact hh))
      clear hcell hv Y N hG
      generalize nth l k = z at *
      by_cases b1 : z < -32768
      · have F := hide (NK.out (by omega))
        clear NK GK
        go_wp2_with fail
        exact F.out
      · by_cases b2 : 32767 < z
        · have F := hide (NK.out (by omega))
          clear NK GK
          go_wp2_with fail
          exact F.out
        · have F := hide (GK.out (by omega))
          clear NK GK
          go_wp2_with fail
          go_round
          case rel => exact ⟨k + 1, by go_num, by omega, F.out⟩
          case measure => simp [intOf]; omega
    · obtain rfl : k = l.length := by omega
      have F := hide (Y.out hG.out)
      clear hcell Y N hG
      go_wp2_with fail
      exact F.out
end Go.Proofs.Ytekdgohomaeeeaa

/- IntsA -/
namespace Go.Proofs.Ytekdgohomaeeeaa

end Go.Proofs.Ytekdgohomaeeeaa

/- SameU -/
namespace Go.Proofs.Ytekdgohomaeeeaa

end Go.Proofs.Ytekdgohomaeeeaa

/- LConA -/
namespace Go.Proofs.Ytekdgohomaeeeaa
open Go.RowKit
set_option linter.unusedVariables false
set_option linter.unusedSimpArgs false
set_option maxHeartbeats 2000000
set_option maxRecDepth 100000 in
theorem law_conGoods (w : World) (pg : CGd 9 w) (rg : CGd 10 w) (pf : CFr 11 w) (rf : CFr 12 w) (l : List Int) (s : Bool) (hl : l.length = 101) (h64 : In64 l) :
    Calls Try.prog 3 #[memV l s] w fun e w' => e = .returned (.bool true) ∧ Below w.heap.size w w' := by
  have M0 := hide (BlkM.new w l s)
  have G0 := hide (grown_alloc w (.cells (memC l s).toArray 25) none)
  have A := hide (fun wr g => pg l s hl h64 wr g)
  have B := hide (fun wr g => rg l s hl h64 wr g)
  have C := hide pf
  have D := hide rf
  have CL := hide (memC_len hl s)
  have AL := hide (BlkM.all s hl)
  clear pg rg pf rf hl h64
  unfold memV at A B ⊢
  generalize goodM l = bg at *
  go_enter Try.func3, Try.ntmps3
  go_upto_region 1 with fail
  generalize w.alloc (.cells (memC l s).toArray 25) = W0 at *
  refine wp_region_held_drew (S := GrownW W0) (by kernel_rfl) (gw_start _) (fun hHeld => ?_)
  refine wpAnyH_take (i := 0) (v := .agg (memC l s).toArray) rfl (by kernel_rfl) (by kernel_rfl) (by kernel_rfl) (fun _ _ _ h => h) (Or.inl ⟨by rfl, ?ycg0⟩) hHeld ?rcg0
  case ycg0 => (intro w' hSw; exact yields_load_v rfl rfl (M0.out.keep hSw) _ Try.underlying25 rfl size102 (by rw [CL.out]; omega) _ AL.out)
  (try simp only [Act.put, sL])
  refine wpAnyH_take (i := 2) (v := .agg (memC l s).toArray) rfl (by kernel_rfl) (by kernel_rfl) (by kernel_rfl) (fun _ _ _ h => h) (Or.inl ⟨by rfl, ?ycg2⟩) hHeld ?rcg2
  case ycg2 => (intro w' hSw; exact yields_load_v rfl rfl (M0.out.keep hSw) _ Try.underlying25 rfl size102 (by rw [CL.out]; omega) _ AL.out)
  (try simp only [Act.put, sL])
  refine wpAnyH_ready (rs := [1]) (by kernel_rfl) (by simp) (AllReadyH.cons rfl (fun K hK => ?_) AllReadyH.nil)
  (try simp only [Act.put, sL])
  go_simp
  refine (A.out _ (grown_none G0.out hHeld)).mono ?_
  rintro e w1 ⟨rfl, g1⟩
  go_wp2_with fail
  refine hK.out _ _ (gw_trans hHeld g1) (fun hHeld => ?_)
  clear hK
  (try simp only [Act.put, sL])
  clear g1
  refine wpAnyH_ready (rs := [3]) (by kernel_rfl) (by simp) (AllReadyH.cons rfl (fun K hK => ?_) AllReadyH.nil)
  (try simp only [Act.put, sL])
  go_simp
  refine (B.out _ (grown_none G0.out hHeld)).mono ?_
  rintro e w2 ⟨rfl, g2⟩
  go_wp2_with fail
  refine hK.out _ _ (gw_trans hHeld g2) (fun hHeld => ?_)
  clear hK
  (try simp only [Act.put, sL])
  clear g2
  refine wpAnyH_take (i := 4) (v := .bool true) rfl (by kernel_rfl) (by kernel_rfl) (by kernel_rfl) (fun _ _ _ h => h) (Or.inl ⟨by rfl, ?ycg4⟩) hHeld ?rcg4
  case ycg4 => (intro w' hSw; go_simp; (first | done | rfl | simp))
  (try simp only [Act.put, sL])
  refine wpAnyH_take (i := 5) (v := ?vcg5) rfl (by kernel_rfl) (by kernel_rfl) (by kernel_rfl) (fun _ _ _ h => h) (Or.inl ⟨by rfl, ?ycg5⟩) hHeld ?rcg5
  case ycg5 => (intro w' hSw; go_simp; (try with_reducible rfl))
  (try simp only [Act.put, sL])
  refine wpAnyH_ready (rs := [6]) (by kernel_rfl) (by simp) (AllReadyH.cons rfl (fun K hK => ?_) AllReadyH.nil)
  (try simp only [Act.put, sL])
  go_simp
  refine (C.out _ (grown_none G0.out hHeld)).mono ?_
  rintro e w3 ⟨rfl, g3⟩
  go_wp2_with fail
  refine hK.out _ _ (gw_trans hHeld g3) (fun hHeld => ?_)
  clear hK
  (try simp only [Act.put, sL])
  clear g3
  refine wpAnyH_ready (rs := [7]) (by kernel_rfl) (by simp) (AllReadyH.cons rfl (fun K hK => ?_) AllReadyH.nil)
  (try simp only [Act.put, sL])
  go_simp
  refine (D.out _ (grown_none G0.out hHeld)).mono ?_
  rintro e w4 ⟨rfl, g4⟩
  go_wp2_with fail
  refine hK.out _ _ (gw_trans hHeld g4) (fun hHeld => ?_)
  clear hK
  (try simp only [Act.put, sL])
  clear g4
  refine wpAnyH_take (i := 8) (v := .bool true) rfl (by kernel_rfl) (by kernel_rfl) (by kernel_rfl) (fun _ _ _ h => h) (Or.inl ⟨by rfl, ?ycg8⟩) hHeld ?rcg8
  case ycg8 => (intro w' hSw; exact exec_mem _ _ rfl freL false freL_len rfl rfl)
  (try simp only [Act.put, sL])
  refine wpAnyH_take (i := 9) (v := ?vcg9) rfl (by kernel_rfl) (by kernel_rfl) (by kernel_rfl) (fun _ _ _ h => h) (Or.inl ⟨by rfl, ?ycg9⟩) hHeld ?rcg9
  case ycg9 => (intro w' hSw; go_simp; (try with_reducible rfl))
  (try simp only [Act.put, sL])
  refine wpAnyH_take (i := 10) (v := ?vcg10) rfl (by kernel_rfl) (by kernel_rfl) (by kernel_rfl) (fun _ _ _ h => h) (Or.inl ⟨by rfl, ?ycg10⟩) hHeld ?rcg10
  case ycg10 => (intro w' hSw; go_simp; (try with_reducible rfl))
  (try simp only [Act.put, sL])
  refine wpAnyH_done (by kernel_rfl) ?_ _
  have GF := hide (grown_none G0.out hHeld)
  clear A B C D hHeld M0 G0
  go_wp2_with fail
  go_ret
  exact ⟨rfl, below_of_grown GF.out⟩
end Go.Proofs.Ytekdgohomaeeeaa

/- LpcA -/
namespace Go.Proofs.Ytekdgohomaeeeaa
open Go.RowKit
set_option linter.unusedVariables false
set_option linter.unusedSimpArgs false
set_option maxHeartbeats 1000000
def Ans (w : World) (r : Value) (e : Ending) (w' : World) : Prop := e = .returned r ∧ w' = w
end Go.Proofs.Ytekdgohomaeeeaa

/- CnpA -/
namespace Go.Proofs.Ytekdgohomaeeeaa
open Go.RowKit
set_option linter.unusedVariables false
set_option linter.unusedSimpArgs false
set_option maxHeartbeats 2000000
theorem conWithin_any (x a b : Int) (w : World) : Calls Try.prog 28 #[.int .i64 x, .int .i64 a, .int .i64 b] w (Ans w (.bool (decide (a ≤ x ∧ x ≤ b)))) := by
  by_cases h1 : a ≤ x
  · by_cases h2 : x ≤ b
    · rw [decide_eq_true (show a ≤ x ∧ x ≤ b from ⟨h1, h2⟩)]
      go_enter Try.func28, Try.ntmps28
      go_wp2_with fail
      go_ret
      exact ⟨rfl, rfl⟩
    · rw [decide_eq_false (show ¬ (a ≤ x ∧ x ≤ b) from fun h => h2 h.2)]
      go_enter Try.func28, Try.ntmps28
      go_wp2_with fail
      go_ret
      exact ⟨rfl, rfl⟩
  · rw [decide_eq_false (show ¬ (a ≤ x ∧ x ≤ b) from fun h => h1 h.1)]
    go_enter Try.func28, Try.ntmps28
    go_wp2_with fail
    go_ret
    exact ⟨rfl, rfl⟩
def betB (lo hi : Int) (l : List Int) : Bool := l.all fun x => decide (lo ≤ x) && decide (x ≤ hi)
theorem betB_iff (lo hi : Int) (l : List Int) : betB lo hi l = true ↔ ∀ i, i < l.length → lo ≤ nth l i ∧ nth l i ≤ hi := by
  unfold betB
  rw [List.all_eq_true]
  constructor
  · intro h i hi'
    have := h l[i] (List.getElem_mem hi')
    simpa [nth, List.getD, hi'] using this
  · intro h x hx
    obtain ⟨i, hi', rfl⟩ := List.getElem_of_mem hx
    have := h i hi'
    simpa [nth, List.getD, hi'] using this
theorem betB_refl (l : List Int) : betB (-31000) 31000 (prt l 0 8) = true ↔ reflB l = true := by
  rw [betB_iff, reflB_iff, prt_len]
  constructor
  · intro h i hi; have := h i hi; rwa [prt_nth _ _ _ _ hi, Nat.zero_add] at this
  · intro h i hi; rw [prt_nth _ _ _ _ hi, Nat.zero_add]; exact h i hi
theorem conAll_any (v : Value) (l : List Int) (lo hi : Int) (w : World) (h : Ints w v l) (hl : l.length ≤ 1000000000000000000) :
    Calls Try.prog 27 #[v, .int .i64 lo, .int .i64 hi] w (Ans w (.bool (betB lo hi l))) := by
  obtain ⟨ad, c, rfl, hc, hcell⟩ := h
  have Y := hide (fun (hh : ∀ i, i < l.length → lo ≤ nth l i ∧ nth l i ≤ hi) => (show Ans w (.bool (betB lo hi l)) (.returned (.bool true)) w from ⟨by rw [(betB_iff lo hi l).2 hh], rfl⟩))
  have N := hide (fun i (hi' : i < l.length) (hh : ¬ (lo ≤ nth l i ∧ nth l i ≤ hi)) => (show Ans w (.bool (betB lo hi l)) (.returned (.bool false)) w from ⟨by
    rcases hb : betB lo hi l with _ | _
    · rfl
    · exact absurd ((betB_iff lo hi l).1 hb i hi') hh, rfl⟩))
  generalize Ans w (.bool (betB lo hi l)) = T at *
  go_enter Try.func27, Try.ntmps27
  go_wp2_with fail
  go_loop [11] (fun i => ∃ k : Nat, i = .int .i64 k ∧ k ≤ l.length ∧ Hid (∀ i, i < k → lo ≤ nth l i ∧ nth l i ≤ hi)) (fun i => l.length - (intOf i).toNat)
  case atStart => exact ⟨0, rfl, Nat.zero_le _, fun i hi => by omega⟩
  case round =>
    obtain ⟨k, rfl, hk, hG⟩ := hrel
    by_cases hkl : k < l.length
    · obtain ⟨a, rfl, hv⟩ := hcell (by omega)
      have hck := hv k hkl
      have NK := hide (N.out k hkl)
      have GK := hide (fun (hh : lo ≤ nth l k ∧ nth l k ≤ hi) => (show ∀ i, i < k + 1 → lo ≤ nth l i ∧ nth l i ≤ hi from fun i hi => by
        rcases Nat.lt_or_ge i k with g | g
        · exact hG.out i g
        · obtain rfl : i = k := by omega
          exact hh))
      clear hcell hv Y N hG
      generalize nth l k = z at *
      have kl1 : (k : Int) < l.length := by omega
      have ST := hide (conWithin_any z lo hi w)
      by_cases hz : lo ≤ z ∧ z ≤ hi
      · have F := hide (GK.out hz)
        rw [decide_eq_true hz] at ST
        clear NK GK hz
        go_wp2_with fail
        refine ST.out.mono ?_
        rintro e w1 ⟨rfl, rfl⟩
        clear ST
        go_wp2_with fail
        go_round
        case rel => exact ⟨k + 1, by go_num, by omega, F.out⟩
        case measure => simp [intOf]; omega
      · have F := hide (NK.out hz)
        rw [decide_eq_false hz] at ST
        clear NK GK hz
        go_wp2_with fail
        refine ST.out.mono ?_
        rintro e w1 ⟨rfl, rfl⟩
        clear ST
        go_wp2_with fail
        exact F.out
    · obtain rfl : k = l.length := by omega
      have F := hide (Y.out hG.out)
      clear hcell Y N hG
      go_wp2_with fail
      exact F.out
set_option maxRecDepth 100000 in
theorem conGood_any (l : List Int) (s : Bool) (hl : l.length = 101) (w : World) : Calls Try.prog 9 #[memV l s] w (AnsC w (.bool (goodM l))) := by
  have B0 := hide (BlkM.new w l s)
  have G0 := hide (grown_alloc w (.cells (memC l s).toArray 25) none)
  have HL := hide hl
  have PT := hide (goodM_parts l)
  obtain ⟨T, hT⟩ : ∃ T : Ending → World → Prop, AnsC w (.bool (goodM l)) = T := ⟨_, rfl⟩
  rw [hT]
  have FN := hide (fun (h : ¬ goodM l = true) w' (g : w.grownBy w' none) => (show T (.returned (.bool false)) w' from by rw [← hT]; exact ⟨by rw [show goodM l = false by simpa using h], g⟩))
  have FY := hide (fun (h : goodM l = true) w' (g : w.grownBy w' none) => (show T (.returned (.bool true)) w' from by rw [← hT]; exact ⟨by rw [h], g⟩))
  clear hT hl
  unfold memV
  generalize memC l s = cs at *
  go_enter Try.func9, Try.ntmps9
  go_upto_region 1 with fail
  generalize w.alloc (.cells cs.toArray 25) = W0 at *
  have c96 := B0.out.cell 96 (by rw [HL.out]; omega)
  have c97 := B0.out.cell 97 (by rw [HL.out]; omega)
  have c98 := B0.out.cell 98 (by rw [HL.out]; omega)
  have c99 := B0.out.cell 99 (by rw [HL.out]; omega)
  have c100 := B0.out.cell 100 (by rw [HL.out]; omega)
  have IR := hide (B0.out.ints 0 8 8 (by rw [HL.out]; omega) (by omega))
  have IP := hide (B0.out.ints 8 8 8 (by rw [HL.out]; omega) (by omega))
  have IE := hide (B0.out.ints 16 80 80 (by rw [HL.out]; omega) (by omega))
  clear B0
  go_wp2_with fail
  refine (conAll_any _ (prt l 0 8) (-31000) 31000 _ IR.out (by rw [prt_len]; omega)).mono ?_
  rintro e w0 ⟨rfl, rfl⟩
  rcases hb0 : betB (-31000) 31000 (prt l 0 8) with _ | _
  · have F := hide (FN.out (fun q => by have : betB (-31000) 31000 (prt l 0 8) = true := (betB_refl l).2 ((PT.out.1 q).1); rw [hb0] at this; cases this) _ G0.out)
    clear FN FY
    go_wp2_with fail
    exact F.out
  go_wp2_with fail
  refine (conAll_any _ (prt l 8 8) (-32768) 32767 _ IP.out (by rw [prt_len]; omega)).mono ?_
  rintro e w1 ⟨rfl, rfl⟩
  rcases hb1 : betB (-32768) 32767 (prt l 8 8) with _ | _
  · have F := hide (FN.out (fun q => by have : betB (-32768) 32767 (prt l 8 8) = true := (PT.out.1 q).2.1; rw [hb1] at this; cases this) _ G0.out)
    clear FN FY
    go_wp2_with fail
    exact F.out
  go_wp2_with fail
  refine (conAll_any _ (prt l 16 80) (-32768) 32767 _ IE.out (by rw [prt_len]; omega)).mono ?_
  rintro e w2 ⟨rfl, rfl⟩
  rcases hb2 : betB (-32768) 32767 (prt l 16 80) with _ | _
  · have F := hide (FN.out (fun q => by have : betB (-32768) 32767 (prt l 16 80) = true := (PT.out.1 q).2.2.1; rw [hb2] at this; cases this) _ G0.out)
    clear FN FY
    go_wp2_with fail
    exact F.out
  go_wp2_with fail
  have WI3 := hide (fun u => conWithin_any (nth l 96) 0 32767 u)
  by_cases hb3 : 0 ≤ nth l 96 ∧ nth l 96 ≤ 32767
  rotate_left
  · rw [decide_eq_false hb3] at WI3
    refine (WI3.out _).mono ?_
    rintro e w3 ⟨rfl, rfl⟩
    have F := hide (FN.out (fun q => hb3 (PT.out.1 q).2.2.2.1) _ G0.out)
    clear FN FY hb3 WI3
    go_wp2_with fail
    exact F.out
  rw [decide_eq_true hb3] at WI3
  refine (WI3.out _).mono ?_
  rintro e w3 ⟨rfl, rfl⟩
  have HB3 := hide hb3
  clear hb3 WI3
  go_wp2_with fail
  have WI4 := hide (fun u => conWithin_any (nth l 97) 0 18022 u)
  by_cases hb4 : 0 ≤ nth l 97 ∧ nth l 97 ≤ 18022
  rotate_left
  · rw [decide_eq_false hb4] at WI4
    refine (WI4.out _).mono ?_
    rintro e w4 ⟨rfl, rfl⟩
    have F := hide (FN.out (fun q => hb4 (PT.out.1 q).2.2.2.2.1) _ G0.out)
    clear FN FY hb4 WI4
    go_wp2_with fail
    exact F.out
  rw [decide_eq_true hb4] at WI4
  refine (WI4.out _).mono ?_
  rintro e w4 ⟨rfl, rfl⟩
  have HB4 := hide hb4
  clear hb4 WI4
  go_wp2_with fail
  have WI5 := hide (fun u => conWithin_any (nth l 98) 20 79 u)
  by_cases hb5 : 20 ≤ nth l 98 ∧ nth l 98 ≤ 79
  rotate_left
  · rw [decide_eq_false hb5] at WI5
    refine (WI5.out _).mono ?_
    rintro e w5 ⟨rfl, rfl⟩
    have F := hide (FN.out (fun q => hb5 (PT.out.1 q).2.2.2.2.2.1) _ G0.out)
    clear FN FY hb5 WI5
    go_wp2_with fail
    exact F.out
  rw [decide_eq_true hb5] at WI5
  refine (WI5.out _).mono ?_
  rintro e w5 ⟨rfl, rfl⟩
  have HB5 := hide hb5
  clear hb5 WI5
  go_wp2_with fail
  have WI6 := hide (fun u => conWithin_any (nth l 99) 0 6 u)
  by_cases hb6 : 0 ≤ nth l 99 ∧ nth l 99 ≤ 6
  rotate_left
  · rw [decide_eq_false hb6] at WI6
    refine (WI6.out _).mono ?_
    rintro e w6 ⟨rfl, rfl⟩
    have F := hide (FN.out (fun q => hb6 (PT.out.1 q).2.2.2.2.2.2.1) _ G0.out)
    clear FN FY hb6 WI6
    go_wp2_with fail
    exact F.out
  rw [decide_eq_true hb6] at WI6
  refine (WI6.out _).mono ?_
  rintro e w6 ⟨rfl, rfl⟩
  have HB6 := hide hb6
  clear hb6 WI6
  go_wp2_with fail
  have WI7 := hide (fun u => conWithin_any (nth l 100) 0 65535 u)
  by_cases hb7 : 0 ≤ nth l 100 ∧ nth l 100 ≤ 65535
  rotate_left
  · rw [decide_eq_false hb7] at WI7
    refine (WI7.out _).mono ?_
    rintro e w7 ⟨rfl, rfl⟩
    have F := hide (FN.out (fun q => hb7 (PT.out.1 q).2.2.2.2.2.2.2) _ G0.out)
    clear FN FY hb7 WI7
    go_wp2_with fail
    exact F.out
  rw [decide_eq_true hb7] at WI7
  refine (WI7.out _).mono ?_
  rintro e w7 ⟨rfl, rfl⟩
  have HB7 := hide hb7
  clear hb7 WI7
  have F := hide (FY.out (PT.out.2 ⟨(betB_refl l).1 hb0, hb1, hb2, HB3.out, HB4.out, HB5.out, HB6.out, HB7.out⟩) _ G0.out)
  clear FN FY
  go_wp2_with fail
  exact F.out
theorem run_build_freshP (w : World) : Sem.run Try.prog (Instr.build 25 #[(5, .int .i64 20), (7, .int .i64 21845)]) w = .ok (memV freL false) w := by kernel_rfl
theorem wpList_build_freshP {ops : Array Oper} {rest : List Oper} {op : Oper} {a : Act} {w : World} {Q : Exit → Act → World → Prop} (hgd : op.guard = none) (x y : Operand) (ho : op.op = .build 25 #[(5, x), (7, y)]) (hx : a.eval x = .int .i64 20) (hy : a.eval y = .int .i64 21845)
    (k : wpList Try.prog ops Q rest (a.put op.dst (memV freL false)) w) : wpList Try.prog ops Q (op :: rest) a w := by
  refine wpList_plain hgd fun _ hK => ?_
  unfold Oper.wp execOp
  have e : (#[(5, x), (7, y)] : Array (Nat × Operand)).map (fun (i, x) => (i, a.eval x)) = #[(5, .int .i64 20), (7, .int .i64 21845)] := by simp [hx, hy]
  simp only [ho, e, Sem.run_bind, run_build_freshP, Result.andThen_ok, Sem.run_pure]
  exact hK _ _ k
theorem conFresh_any (w : World) : Calls Try.prog 11 #[] w (AnsC w (memV freL false)) := by
  have B0 := hide (BlkM.new w (zeros 101) false)
  have PU := B0.out.putAll (m := freL) (t := false) (zeros_len 101) freL_len
  have PB := hide PU.1
  have PG := hide (grown_own (grown_alloc w (.cells (memC (zeros 101) false).toArray 25) none) PU.2 (Nat.le_refl _))
  have S1 := hide (show (memC freL false).length = 102 from memC_len freL_len false)
  have S0 := hide (show (memC (zeros 101) false).length = 102 from memC_len (zeros_len 101) false)
  have O1 := hide (memC_one freL false)
  have hz := zero_mem
  have F := hide (show AnsC w (memV freL false) (.returned (memV freL false)) (putV (w.alloc (.cells (memC (zeros 101) false).toArray 25)) w.heap.size 0 (memC freL false)) from ⟨rfl, PG.out⟩)
  clear PU PG
  generalize AnsC w (memV freL false) = T at *
  have BF := hide (fun ops rest op a w Q => @wpList_build_freshP ops rest op a w Q)
  unfold memV at hz F BF
  unfold BlkM at B0 PB
  generalize memC (zeros 101) false = Z at *
  generalize memC freL false = M at *
  go_enter Try.func11, Try.ntmps11
  go_wp2_with (first | refine BF.out _ _ _ _ _ _ rfl _ _ rfl rfl rfl ?_ | refine wpList_store_v rfl 25 _ _ rfl w.heap.size 0 25 Z M rfl rfl B0.out (by rw [S0.out, S1.out]; omega) (by rw [S1.out]; exact size102) O1.out ?_)
  have hlv := loadVar_v PB.out _ Try.underlying25 rfl (by rw [S1.out]; exact size102)
  refine bodyPost_ret (v := .agg M.toArray) ?_ rfl F.out
  simp [results, Try.results11, asAddr, Act.put, hlv]
end Go.Proofs.Ytekdgohomaeeeaa

/- RefMemA -/
namespace Go.Proofs.Ytekdgohomaeeeaa
open Go.RowKit
set_option linter.unusedVariables false
set_option linter.unusedSimpArgs false
set_option maxHeartbeats 2000000
theorem inB_lag (x : Int) (h0 : -9223372036854775808 ≤ x) (h1 : x ≤ 9223372036854775807) : (0 ≤ wrap64 (x - 20) ∧ wrap64 (x - 20) ≤ 59) ↔ (20 ≤ x ∧ x ≤ 79) := by
  simp only [wrap64]
  omega
theorem refIn_yes (x m : Int) (h : 0 ≤ x ∧ x ≤ m) (w : World) : Calls Try.prog 29 #[.int .i64 x, .int .i64 m] w fun e w' => e = .returned (.bool true) ∧ w' = w := by
  obtain ⟨h1, h2⟩ := h
  go_enter Try.func29, Try.ntmps29
  go_wp2
  go_ret
  exact ⟨rfl, rfl⟩
theorem refIn_no (x m : Int) (h : ¬ (0 ≤ x ∧ x ≤ m)) (w : World) : Calls Try.prog 29 #[.int .i64 x, .int .i64 m] w fun e w' => e = .returned (.bool false) ∧ w' = w := by
  by_cases h1 : 0 ≤ x
  · have h2 : ¬ x ≤ m := by omega
    clear h
    go_enter Try.func29, Try.ntmps29
    go_wp2
    go_ret
    exact ⟨rfl, rfl⟩
  · clear h
    go_enter Try.func29, Try.ntmps29
    go_wp2
    go_ret
    exact ⟨rfl, rfl⟩
set_option maxRecDepth 100000 in
theorem refGoodM_any (l : List Int) (s : Bool) (hl : l.length = 101) (h64 : In64 l) (w : World) : Calls Try.prog 10 #[memV l s] w (AnsC w (.bool (goodM l))) := by
  have B0 := hide (BlkM.new w l s)
  have G0 := hide (grown_alloc w (.cells (memC l s).toArray 25) none)
  have HL := hide hl
  have H64 := hide h64
  have PT := hide (goodM_parts l)
  have RI := hide (reflB_iff l)
  obtain ⟨T, hT⟩ : ∃ T : Ending → World → Prop, AnsC w (.bool (goodM l)) = T := ⟨_, rfl⟩
  rw [hT]
  have FN := hide (fun (h : ¬ goodM l = true) w' (g : w.grownBy w' none) => (show T (.returned (.bool false)) w' from by rw [← hT]; exact ⟨by rw [show goodM l = false by simpa using h], g⟩))
  have FY := hide (fun (h : goodM l = true) w' (g : w.grownBy w' none) => (show T (.returned (.bool true)) w' from by rw [← hT]; exact ⟨by rw [h], g⟩))
  clear hT hl h64
  unfold memV
  have IX := hide (fun (m : Nat) (hm : m < 8) (u : World) => index_arr (T := 22) (prt l 0 8) Try.underlying22 m (by rw [prt_len]; omega) (prt_len _ _ _) u)
  generalize hcs : memC l s = cs at *
  have HCS := hide hcs
  clear hcs
  go_enter Try.func10, Try.ntmps10
  go_upto_region 1 with fail
  generalize w.alloc (.cells cs.toArray 25) = W0 at *
  have P8 := hide (show (cs.drop 0).take 8 = intsV (prt l 0 8) by rw [← HCS.out]; exact BlkM.part s 0 8 (by rw [HL.out]; omega))
  have CL := hide (show cs.length = 102 by rw [← HCS.out]; exact memC_len HL.out s)
  have BV := hide (show BlkV W0 w.heap.size 25 cs by rw [← HCS.out]; exact B0.out)
  go_wp2_with (refine wpList_load_v rfl 22 _ rfl w.heap.size 0 8 rfl 25 cs BV.out _ Try.underlying22 rfl size8 (by rw [CL.out]; omega) _ P8.out ?_)
  rw [show Value.agg (intsV (prt l 0 8)).toArray = .agg (arrI (prt l 0 8)) from rfl]
  clear P8 BV CL
  generalize Value.agg (arrI (prt l 0 8)) = AV at *
  go_loopw [8] (fun i wr => ∃ m : Nat, i = .int .i64 (m : Int) ∧ m ≤ 8 ∧ Hid (∀ j, j < m → -31000 ≤ nth l j ∧ nth l j ≤ 31000) ∧ wr = W0) (fun i _ => 8 - (intOf i).toNat)
  case atStart => exact ⟨0, rfl, Nat.zero_le _, fun j hj => by omega, rfl⟩
  case round =>
    obtain ⟨m, rfl, hm, hA, rfl⟩ := hrel
    by_cases hm8 : m < 8
    · have i1 : (m : Int) < 8 := by omega
      have ix := IX.out m hm8
      rw [prt_nth _ _ _ _ hm8, Nat.zero_add] at ix
      have NO := hide (fun (h : ¬ (-31000 ≤ nth l m ∧ nth l m ≤ 31000)) => (show ¬ goodM l = true from fun q => h ((RI.out.1 (PT.out.1 q).1) m hm8)))
      have YES := hide (fun (h : -31000 ≤ nth l m ∧ nth l m ≤ 31000) => (show ∀ j, j < m + 1 → -31000 ≤ nth l j ∧ nth l j ≤ 31000 from fun j hj => by
        by_cases e : j = m
        · subst e; exact h
        · exact hA.out j (by omega)))
      clear IX hA RI PT
      generalize nth l m = x at *
      by_cases hx : 31000 < x
      · have F := hide (FN.out (NO.out (by omega)) _ G0.out)
        clear NO YES FN FY
        go_wp2_with fail
        exact F.out
      · by_cases hy : x < -31000
        · have F := hide (FN.out (NO.out (by omega)) _ G0.out)
          clear NO YES FN FY
          go_wp2_with fail
          exact F.out
        · have NA := hide (YES.out (by omega))
          clear NO YES
          go_wp2_with fail
          go_roundw
          case rel => exact ⟨m + 1, by go_num, by omega, NA.out, trivial⟩
          case measure => first | (simp [intOf]; done) | (simp [intOf]; omega)
    · obtain rfl : m = 8 := by omega
      rw [show ((8 : Nat) : Int) = 8 from rfl]
      have RB := hide (RI.out.2 hA.out)
      clear IX hA RI
      have c98 := B0.out.cell 98 (by rw [HL.out]; omega)
      have c100 := B0.out.cell 100 (by rw [HL.out]; omega)
      have c96 := B0.out.cell 96 (by rw [HL.out]; omega)
      have c97 := B0.out.cell 97 (by rw [HL.out]; omega)
      have c99 := B0.out.cell 99 (by rw [HL.out]; omega)
      have IP := hide (B0.out.ints 8 8 8 (by rw [HL.out]; omega) (by omega))
      have IE := hide (B0.out.ints 16 80 80 (by rw [HL.out]; omega) (by omega))
      have LG := hide (inB_lag (nth l 98) (H64.out 98).1 (H64.out 98).2)
      clear B0
      go_wp2_with fail
      refine (refRight_any _ (prt l 8 8) _ IP.out (by rw [prt_len]; omega)).mono ?_
      rintro e w0 ⟨rfl, rfl⟩
      rcases hb0 : rightB (prt l 8 8) with _ | _
      · have F := hide (FN.out (fun q => by have := (PT.out.1 q).2.1; rw [hb0] at this; cases this) _ G0.out)
        clear FN FY
        go_wp2_with fail
        exact F.out
      go_wp2_with fail
      refine (refRight_any _ (prt l 16 80) _ IE.out (by rw [prt_len]; omega)).mono ?_
      rintro e w1 ⟨rfl, rfl⟩
      rcases hb1 : rightB (prt l 16 80) with _ | _
      · have F := hide (FN.out (fun q => by have := (PT.out.1 q).2.2.1; rw [hb1] at this; cases this) _ G0.out)
        clear FN FY
        go_wp2_with fail
        exact F.out
      go_wp2_with fail
      by_cases hb2 : 0 ≤ wrap64 (nth l 98 - 20) ∧ wrap64 (nth l 98 - 20) ≤ 59
      rotate_left
      · refine (refIn_no _ _ hb2 _).mono ?_
        rintro e w2 ⟨rfl, rfl⟩
        have F := hide (FN.out (fun q => hb2 (LG.out.2 (PT.out.1 q).2.2.2.2.2.1)) _ G0.out)
        clear FN FY
        go_wp2_with fail
        exact F.out
      refine (refIn_yes _ _ hb2 _).mono ?_
      rintro e w2 ⟨rfl, rfl⟩
      go_wp2_with fail
      by_cases hb3 : 0 ≤ nth l 100 ∧ nth l 100 ≤ 65535
      rotate_left
      · refine (refIn_no _ _ hb3 _).mono ?_
        rintro e w3 ⟨rfl, rfl⟩
        have F := hide (FN.out (fun q => hb3 (PT.out.1 q).2.2.2.2.2.2.2) _ G0.out)
        clear FN FY
        go_wp2_with fail
        exact F.out
      refine (refIn_yes _ _ hb3 _).mono ?_
      rintro e w3 ⟨rfl, rfl⟩
      go_wp2_with fail
      by_cases hb4 : 0 ≤ nth l 96 ∧ nth l 96 ≤ 32767
      rotate_left
      · refine (refIn_no _ _ hb4 _).mono ?_
        rintro e w4 ⟨rfl, rfl⟩
        have F := hide (FN.out (fun q => hb4 (PT.out.1 q).2.2.2.1) _ G0.out)
        clear FN FY
        go_wp2_with fail
        exact F.out
      refine (refIn_yes _ _ hb4 _).mono ?_
      rintro e w4 ⟨rfl, rfl⟩
      go_wp2_with fail
      by_cases hb5 : 0 ≤ nth l 97 ∧ nth l 97 ≤ 18022
      rotate_left
      · refine (refIn_no _ _ hb5 _).mono ?_
        rintro e w5 ⟨rfl, rfl⟩
        have F := hide (FN.out (fun q => hb5 (PT.out.1 q).2.2.2.2.1) _ G0.out)
        clear FN FY
        go_wp2_with fail
        exact F.out
      refine (refIn_yes _ _ hb5 _).mono ?_
      rintro e w5 ⟨rfl, rfl⟩
      go_wp2_with fail
      by_cases hb6 : 0 ≤ nth l 99 ∧ nth l 99 ≤ 6
      rotate_left
      · refine (refIn_no _ _ hb6 _).mono ?_
        rintro e w6 ⟨rfl, rfl⟩
        have F := hide (FN.out (fun q => hb6 (PT.out.1 q).2.2.2.2.2.2.1) _ G0.out)
        clear FN FY
        go_wp2_with fail
        exact F.out
      refine (refIn_yes _ _ hb6 _).mono ?_
      rintro e w6 ⟨rfl, rfl⟩
      have F := hide (FY.out (PT.out.2 ⟨RB.out, hb0, hb1, hb4, hb5, LG.out.1 hb2, hb6, hb3⟩) _ G0.out)
      clear FN FY
      go_wp2_with fail
      exact F.out
theorem run_build_fresh (w : World) : Sem.run Try.prog (Instr.build 25 #[(5, .int .i64 20), (7, .int .i64 21845)]) w = .ok (memV freL false) w := by kernel_rfl
theorem wpList_build_fresh {ops : Array Oper} {rest : List Oper} {op : Oper} {a : Act} {w : World} {Q : Exit → Act → World → Prop} (hgd : op.guard = none) (x y : Operand) (ho : op.op = .build 25 #[(5, x), (7, y)]) (hx : a.eval x = .int .i64 20) (hy : a.eval y = .int .i64 21845)
    (k : wpList Try.prog ops Q rest (a.put op.dst (memV freL false)) w) : wpList Try.prog ops Q (op :: rest) a w := by
  refine wpList_plain hgd fun _ hK => ?_
  unfold Oper.wp execOp
  have e : (#[(5, x), (7, y)] : Array (Nat × Operand)).map (fun (i, x) => (i, a.eval x)) = #[(5, .int .i64 20), (7, .int .i64 21845)] := by simp [hx, hy]
  simp only [ho, e, Sem.run_bind, run_build_fresh, Result.andThen_ok, Sem.run_pure]
  exact hK _ _ k
theorem refFresh_any (w : World) : Calls Try.prog 12 #[] w (AnsC w (memV freL false)) := by
  have B0 := hide (BlkM.new w (zeros 101) false)
  have PU := B0.out.putAll (m := freL) (t := false) (zeros_len 101) freL_len
  have PB := hide PU.1
  have PG := hide (grown_own (grown_alloc w (.cells (memC (zeros 101) false).toArray 25) none) PU.2 (Nat.le_refl _))
  have S1 := hide (show (memC freL false).length = 102 from memC_len freL_len false)
  have S0 := hide (show (memC (zeros 101) false).length = 102 from memC_len (zeros_len 101) false)
  have O1 := hide (memC_one freL false)
  have hz := zero_mem
  have F := hide (show AnsC w (memV freL false) (.returned (memV freL false)) (putV (w.alloc (.cells (memC (zeros 101) false).toArray 25)) w.heap.size 0 (memC freL false)) from ⟨rfl, PG.out⟩)
  clear PU PG
  generalize AnsC w (memV freL false) = T at *
  have BF := hide (fun ops rest op a w Q => @wpList_build_fresh ops rest op a w Q)
  unfold memV at hz F BF
  unfold BlkM at B0 PB
  generalize memC (zeros 101) false = Z at *
  generalize memC freL false = M at *
  go_enter Try.func12, Try.ntmps12
  go_wp2_with (first | refine BF.out _ _ _ _ _ _ rfl _ _ rfl rfl rfl ?_ | refine wpList_store_v rfl 25 _ _ rfl w.heap.size 0 25 Z M rfl rfl B0.out (by rw [S0.out, S1.out]; omega) (by rw [S1.out]; exact size102) O1.out ?_)
  have hlv := loadVar_v PB.out _ Try.underlying25 rfl (by rw [S1.out]; exact size102)
  refine bodyPost_ret (v := .agg M.toArray) ?_ rfl F.out
  simp [results, Try.results12, asAddr, Act.put, hlv]
end Go.Proofs.Ytekdgohomaeeeaa

/- LCnG -/
namespace Go.Proofs.Ytekdgohomaeeeaa
open Go.RowKit
set_option linter.unusedVariables false
theorem win_conGoods (W : World) (l : List Int) (s : Bool) (hl : l.length = 101) (h64 : In64 l) : Calls Try.prog 3 #[memV l s] W fun e w' => e = .returned (.bool true) ∧ Below W.heap.size W w' :=
  law_conGoods W (fun l s hl h64 wr g => conGood_any l s hl wr) (fun l s hl h64 wr g => refGoodM_any l s hl h64 wr) (fun wr g => conFresh_any wr) (fun wr g => refFresh_any wr) l s hl h64
end Go.Proofs.Ytekdgohomaeeeaa

/- Opens -/
namespace Go.Proofs.Ytekdgohomaeeeaa
set_option maxRecDepth 100000
open Go.ChangeShapes Go.WideShapes Go.ChangeAt Go.RowKit
set_option linter.unusedVariables false
set_option linter.unusedSimpArgs false
theorem o_own : ownKnob Try.prog.godebug = none := by kernel_rfl
theorem o_laidOut : laidOutB Try.prog = true := by kernel_rfl
theorem cell_int {W : World} {base : Nat} {v : Value} (h : Cell.okWide Try.prog W .any base 3 v) : ∃ n : Int, v = .int .i64 n ∧ -9223372036854775808 ≤ n ∧ n ≤ 9223372036854775807 := by
  simp only [Cell.okWide, Try.underlying3] at h
  cases v <;> simp_all [Cell.ok, Try.underlying3, IntKind.has, IntKind.min, IntKind.max, IntKind.signed, IntKind.bits]
theorem ints_of_cells : ∀ cs : List Value, (∀ v ∈ cs, ∃ n : Int, v = .int .i64 n ∧ -9223372036854775808 ≤ n ∧ n ≤ 9223372036854775807) → ∃ l : List Int, cs = l.map (Value.int .i64) ∧ In64 l
  | [], _ => ⟨[], rfl, fun i => by simp [nth]⟩
  | c :: cs, h => by
    obtain ⟨n, rfl, n1, n2⟩ := h c (List.mem_cons_self ..)
    obtain ⟨l, rfl, hl⟩ := ints_of_cells cs (fun v hv => h v (List.mem_cons_of_mem _ hv))
    refine ⟨n :: l, rfl, fun i => ?_⟩
    match i with
    | 0 => exact ⟨n1, n2⟩
    | i + 1 => exact hl i
end Go.Proofs.Ytekdgohomaeeeaa

/- OpensM -/
namespace Go.Proofs.Ytekdgohomaeeeaa
set_option maxRecDepth 100000
open Go.ChangeShapes Go.WideShapes Go.ChangeAt Go.RowKit
set_option linter.unusedVariables false
set_option linter.unusedSimpArgs false
theorem cell_bool {W : World} {base : Nat} {v : Value} (h : Cell.okWide Try.prog W .any base 4 v) : ∃ b : Bool, v = .bool b := by
  simp only [Cell.okWide, Try.underlying4] at h
  cases v <;> simp_all [Cell.ok, Try.underlying4]
theorem mem_types : Try.prog.cellTypes Try.prog.depth 25 = some (List.replicate 101 3 ++ [4]) := by kernel_rfl
theorem mem_cells : Try.prog.cellsOf 25 = 102 := by kernel_rfl
theorem mem_row : (match Try.prog.underlying 25 with | some (.struct _) | some (.array _ _) => true | _ => false) = true := by kernel_rfl
theorem open_mem {W : World} {base : Nat} {v : Value} (h : Value.okWide Try.prog W .any base 25 v) : ∃ (l : List Int) (s : Bool), v = memV l s ∧ l.length = 101 ∧ In64 l := by
  have hu := mem_row
  have hr : ∃ cs, v = .agg cs ∧ cs.size = Try.prog.cellsOf 25 ∧ Row.okWide Try.prog W .any base 25 cs := by
    unfold Value.okWide at h
    revert hu
    split at h
    · intro _; exact h
    · intro _; exact h
    · rename_i h1 h2
      intro hu
      split at hu
      · rename_i fs e; exact absurd e (h1 fs)
      · rename_i n e he; exact absurd he (h2 n e)
      · cases hu
  obtain ⟨cs, rfl, hs, ts, hts, _, hcell⟩ := hr
  rw [mem_types] at hts
  obtain rfl := Option.some.inj hts
  rw [mem_cells] at hs
  have hl : cs.toList.length = 102 := by simpa using hs
  obtain ⟨l, hl2, hb⟩ := ints_of_cells (cs.toList.take 101) (fun v hv => by
    obtain ⟨i, hi, rfl⟩ := List.getElem_of_mem hv
    have hi' : i < 101 := by simp at hi; omega
    rw [List.getElem_take]
    obtain ⟨u, hu1, hu2⟩ := hcell i cs.toList[i] (by rw [← Array.getElem?_toList, List.getElem?_eq_getElem (by omega)])
    have : u = 3 := by
      rw [List.getElem?_append_left (by simp; omega)] at hu1
      exact (List.mem_replicate.1 (List.mem_of_getElem? hu1)).2
    subst this
    exact cell_int hu2)
  obtain ⟨u, hu1, hu2⟩ := hcell 101 (cs.toList[101]'(by omega)) (by rw [← Array.getElem?_toList, List.getElem?_eq_getElem (by omega)])
  have : u = 4 := by
    rw [List.getElem?_append_right (by simp), List.length_replicate] at hu1
    simpa using hu1.symm
  subst this
  obtain ⟨s, hsb⟩ := cell_bool hu2
  refine ⟨l, s, ?_, ?_, hb⟩
  · unfold memV memC mixC intsV
    congr 1
    have e : cs.toList = cs.toList.take 101 ++ [cs.toList[101]'(by omega)] := by
      apply List.ext_getElem
      · simp; omega
      · intro i h1 h2
        by_cases k : i < 101
        · rw [List.getElem_append_left (by simp; omega), List.getElem_take]
        · obtain rfl : i = 101 := by omega
          rw [List.getElem_append_right (by simp; omega)]
          simp
    rw [hsb, hl2] at e
    rw [← e]
  · have := congrArg List.length hl2
    simp at this
    omega
end Go.Proofs.Ytekdgohomaeeeaa
