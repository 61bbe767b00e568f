/- Texts put together: Grow, BigMath, Math, Ints, Opens, Arrs, Owns, BytL, LpcMath, LpcS, LevMath, PackMath, OpensB, VBlk, DualMath, PowMath, GainMath, SynthMath, Btr, PitchMath, MemMath, RegA, EndMath, SynW, ConX, ConW, BlkI, EncS, EraMath, QuantMath, PulMath, PlyMath, PikMath, ChoMath, Base, RefWt, CorrMath, BigMem, BigA, BigB, BigC, TabF, QuantA, QuantB, RefQuant, RefOne, LQuantR, QuantC, QuaMath, OpnMath, MemEq, EncEq, BigD, Order, BigE, BigF, BigG, BigH, BigS, BigT, Clip, LshN, BigV, BigY, PkW, PktE, AppL, LpcA, SynA, SynB, SynC, Syn, BaseB, KeepL, Tabs, PkpA. -/
import Derived.Test.YtdejpongekicdaaGreatDoorProg
import Derived.WalkKit
import Derived.WalkSpells
import Derived.WalkLawsBesides
import Derived.RowKit3
import Derived.Laws.OwnMore
import Derived.ProofKit
import Derived.OpenShut
import Derived.SizedLaws
import Derived.Carry
import Derived.Deep.MidRow
import Derived.Laws.AppendOwnNone
import Derived.OrdersHeld
import Derived.RegionTactic
import Derived.Deep.RegionHeld
import Derived.Deep.CutRange
import Derived.Laws.CopyOwn
import Derived.Laws.BitsAllLaws
import Derived.Deep.QuietTactic
import Derived.BigQuiet
import Derived.Deep.RegionHeld3
import Derived.Laws.StructEq
import Derived.StillTail
import Derived.Laws.BytesArg
import Derived.LaidMore
import Derived.Stop.Joined
import Derived.Lib.LaidTab
import Derived.Deep.Cut
/- Grow -/
namespace Go.Proofs.YtdejpongekicdaaGreatDoor
open Go.RowKit
set_option linter.unusedVariables false
theorem hide {p : Prop} (h : p) : Hid p := h
theorem lt_of_some {w : World} {b : Nat} {o : Obj} (h : w.heap[b]? = some o) : b < w.heap.size := by
  by_cases hb : b < w.heap.size
  · exact hb
  · rw [Array.getElem?_eq_none (by omega)] at h; cases h
theorem cell_of_heap {w : World} {b : Nat} {cs : Array Value} {t : TypeId} {f : Nat × Nat} (h : w.heap[b]? = some (.cells cs t f)) (i : Nat) : w.cell? ⟨b, i, none⟩ = cs[i]? := by
  simp [World.cell?, h]
theorem frozen_of_heap {w : World} {b : Nat} {cs : Array Value} {t : TypeId} (h : w.heap[b]? = some (.cells cs t (0, 0))) (i : Nat) : w.frozen? ⟨b, i, none⟩ = false := by
  simp [World.frozen?, h]
theorem grown_refl (w : World) (r : Option Nat) : w.grownBy w r := ⟨rfl, rfl, rfl, Nat.le_refl _, fun _ _ _ => rfl⟩
theorem grown_alloc (w : World) (o : Obj) (r : Option Nat) : w.grownBy (w.alloc o) r := ⟨rfl, rfl, rfl, by simp, fun k hk _ => Below.heap_alloc _ _ _ hk⟩
theorem grown_trans {a b c : World} {r s : Option Nat} (h : a.grownBy b r) (k : b.grownBy c s) (t : Option Nat) (hr : ∀ i, r = some i → i < a.heap.size → t = some i) (hs : ∀ i, s = some i → i < a.heap.size → t = some i) : a.grownBy c t :=
  ⟨k.os.trans h.os, k.tape.trans h.tape, k.output.trans h.output, Nat.le_trans h.size k.size, fun i hi ht => by
    rw [k.block i (Nat.lt_of_lt_of_le hi h.size) (fun e => ht ((hs i e.symm hi).symm)), h.block i hi (fun e => ht ((hr i e.symm hi).symm))]⟩
theorem grown_none {a b c : World} (h : a.grownBy b none) (k : b.grownBy c none) : a.grownBy c none := grown_trans h k none (fun i e => by cases e) (fun i e => by cases e)
theorem grown_setCell (w : World) (a : Addr) (v : Value) : w.grownBy (w.setCell a v) (some a.block) := ⟨rfl, rfl, rfl, by simp [World.setCell], fun k _ h => Below.heap_setCell _ _ _ _ (fun e => h (by rw [e]))⟩
theorem heap_new (w : World) (o : Obj) : (w.alloc o).heap[w.heap.size]? = some o := by
  show (w.heap.push o)[w.heap.size]? = _
  simp
theorem grown_own {a b c : World} {i : Nat} (h : a.grownBy b none) (k : b.grownBy c (some i)) (hi : a.heap.size ≤ i) : a.grownBy c none :=
  grown_trans h k none (fun i e _ => by cases e) (fun j e hj => by cases e; omega)
theorem below_of_grown {w w' : World} (h : w.grownBy w' none) : Below w.heap.size w w' := ⟨h.os, h.tape, h.output, h.size, fun k hk => h.block k hk (by simp)⟩
theorem grown_keep {w w' : World} (h : w.grownBy w' none) {a : Addr} {v : Value} (hc : w.cell? a = some v) : w'.cell? a = some v := by
  have hb : a.block < w.heap.size := by
    rcases Nat.lt_or_ge a.block w.heap.size with g | g
    · exact g
    · unfold World.cell? at hc
      rw [Array.getElem?_eq_none g] at hc
      simp at hc
  rw [World.cell?_of_block (w := w) (h.block a.block hb (by simp))]; exact hc
end Go.Proofs.YtdejpongekicdaaGreatDoor

/- BigMath -/
namespace Go.Proofs.YtdejpongekicdaaGreatDoor
def nth (l : List Int) (i : Nat) : Int := l.getD i 0
def P (k : Nat) : Int := 4294967296 ^ k
theorem getD_out (l : List Int) (k : Nat) (h : l.length ≤ k) : nth l k = 0 := by simp [nth, List.getD, List.getElem?_eq_none h]
end Go.Proofs.YtdejpongekicdaaGreatDoor

/- Math -/
namespace Go.Proofs.YtdejpongekicdaaGreatDoor
open Go.RowKit
def c16 (x : Int) : Int := if x < -32768 then -32768 else if 32767 < x then 32767 else x
end Go.Proofs.YtdejpongekicdaaGreatDoor

/- Ints -/
namespace Go.Proofs.YtdejpongekicdaaGreatDoor
open Go.RowKit
set_option linter.unusedVariables false
set_option linter.unusedSimpArgs false
set_option maxHeartbeats 1000000
def Ints (w : World) (v : Value) (l : List Int) : Prop :=
  ∃ (ad : Option Addr) (c : Nat), v = .slice ad l.length c ∧ l.length ≤ c ∧ (0 < l.length → ∃ a, ad = some a ∧ ∀ i, i < l.length → w.cell? (a.add i) = some (.int .i64 (nth l i)))
def rightB (l : List Int) : Bool := l.all fun x => decide (-32768 ≤ x) && decide (x ≤ 32767)
def arrI (l : List Int) : Array Value := (l.map (Value.int .i64)).toArray
theorem arrI_get (l : List Int) (i : Nat) (h : i < l.length) : (arrI l)[i]? = some (.int .i64 (nth l i)) := by
  simp [arrI, nth, List.getD, h]
theorem arrI_set (l : List Int) (k : Nat) (v : Int) : (arrI l).setIfInBounds k (.int .i64 v) = arrI (l.set k v) := by
  simp [arrI, List.map_set]
theorem infoI64 : (Tryz.prog.info? 3).map (fun i => (i.zero, i.size, i.bytes)) = some (some (.int .i64 0), 1, 8) := by kernel_rfl
theorem Ints_keep {w w' : World} {v : Value} {l : List Int} (h : Ints w v l) (g : w.grownBy w' none) : Ints w' v l := by
  obtain ⟨ad, c, rfl, hc, hcell⟩ := h
  refine ⟨ad, c, rfl, hc, fun h => ?_⟩
  obtain ⟨a, rfl, hv⟩ := hcell h
  exact ⟨a, rfl, fun i hi => grown_keep g (hv i hi)⟩
def Lists (w : World) (l : List Int) (e : Ending) (w' : World) : Prop := ∃ v', e = .returned v' ∧ w'.ownsRow w.heap.size 3 1 v' l.length (l.map (Value.int .i64)) ∧ w.grownBy w' none
theorem Ints_of_owns {w : World} {base : Nat} {v : Value} {l : List Int} (h : w.ownsRow base 3 1 v l.length (l.map (Value.int .i64))) : Ints w v l := by
  obtain ⟨h1, h2⟩ := h
  rcases h2 with ⟨h2, h3⟩ | ⟨g, cap, cur, h2, _, h4, h5, _, h7, h8⟩
  · exact ⟨none, 0, by rw [h2, h3], by omega, fun h => by omega⟩
  · refine ⟨some ⟨g, 0, none⟩, cap, h2, h5, fun _ => ⟨_, rfl, fun i hi => ?_⟩⟩
    have e : (cur.toList.take (l.length * 1))[i]? = (l.map (Value.int .i64))[i]? := by rw [h8]
    rw [List.getElem?_take, if_pos (by omega), Array.getElem?_toList] at e
    have ea : (⟨g, 0, none⟩ : Addr).add i = ⟨g, i, none⟩ := by unfold Addr.add; split <;> simp_all
    rw [ea, cell_of_heap h4, e]
    simp [nth, List.getD, hi]
theorem heap_setCell {w : World} {b k : Nat} {cs : Array Value} {t : TypeId} (h : w.heap[b]? = some (.cells cs t (0, 0))) (v : Value) :
    (w.setCell ⟨b, k, none⟩ v).heap[b]? = some (.cells (cs.setIfInBounds k v) t (0, 0)) := by
  simp only [World.setCell, Array.getElem?_modify, h]
  simp
def hiS (x0 x1 x2 y1 y2 : Int) : Int := c16 ((3798 * (x0 - 2 * x1 + x2) + 7807 * y1 - 3733 * y2 + 2048) / 4096)
def hiY (xs : List Int) (ys0 : List Int) : Nat → List Int
  | 0 => ys0
  | i + 1 => hiY xs ys0 i ++ [hiS (nth xs (i + 2)) (nth xs (i + 1)) (nth xs i) (nth (hiY xs ys0 i) (i + 1)) (nth (hiY xs ys0 i) i)]
def In64 (l : List Int) : Prop := ∀ i, -9223372036854775808 ≤ nth l i ∧ nth l i ≤ 9223372036854775807
end Go.Proofs.YtdejpongekicdaaGreatDoor

/- Opens -/
namespace Go.Proofs.YtdejpongekicdaaGreatDoor
set_option maxRecDepth 100000
open Go.ChangeShapes Go.WideShapes Go.ChangeAt Go.RowKit
set_option linter.unusedVariables false
set_option linter.unusedSimpArgs false
theorem o_own : ownKnob Tryz.prog.godebug = none := by kernel_rfl
theorem o_laidOut : laidOutB Tryz.prog = true := by kernel_rfl
theorem o_cellsInt : Tryz.prog.cellsOf 3 = 1 := by kernel_rfl
theorem o_bytesInt : Tryz.prog.bytesOf 3 = 8 := by kernel_rfl
end Go.Proofs.YtdejpongekicdaaGreatDoor

/- Arrs -/
namespace Go.Proofs.YtdejpongekicdaaGreatDoor
open Go.RowKit
set_option linter.unusedVariables false
set_option linter.unusedSimpArgs false
def Blk (w : World) (b : Nat) (T : TypeId) (rs : List Int) : Prop := w.heap[b]? = some (.cells (arrI rs) T (0, 0))
theorem Blk.cell {w : World} {b : Nat} {T : TypeId} {rs : List Int} (h : Blk w b T rs) (i : Nat) (hi : i < rs.length) : w.cell? ⟨b, i, none⟩ = some (.int .i64 (nth rs i)) := (cell_of_heap h i).trans (arrI_get rs i hi)
theorem Blk.free {w : World} {b : Nat} {T : TypeId} {rs : List Int} (h : Blk w b T rs) (i : Nat) : w.frozen? ⟨b, i, none⟩ = false := frozen_of_heap h i
theorem Blk.lt {w : World} {b : Nat} {T : TypeId} {rs : List Int} (h : Blk w b T rs) : b < w.heap.size := lt_of_some h
theorem Blk.keep {w w' : World} {b : Nat} {T : TypeId} {rs : List Int} (h : Blk w b T rs) (g : w.grownBy w' none) : Blk w' b T rs := (g.block _ (lt_of_some h) (by simp)).trans h
theorem Blk.keepBut {w w' : World} {b : Nat} {T : TypeId} {rs : List Int} {r : Nat} (h : Blk w b T rs) (g : w.grownBy w' (some r)) (hr : b ≠ r) : Blk w' b T rs := (g.block _ (lt_of_some h) (by simpa using hr)).trans h
theorem Blk.new (w : World) (T : TypeId) (rs : List Int) : Blk (w.alloc (.cells (arrI rs) T)) w.heap.size T rs := heap_new w _
theorem Blk.set {w : World} {b : Nat} {T : TypeId} {rs : List Int} (h : Blk w b T rs) (k : Nat) (z : Int) : Blk (w.setCell ⟨b, k, none⟩ (.int .i64 z)) b T (rs.set k z) := by
  unfold Blk
  rw [heap_setCell h, arrI_set]
theorem Blk.range {w : World} {b : Nat} {T : TypeId} {rs : List Int} (h : Blk w b T rs) : w.rangeAt b 0 (rs.map (Value.int .i64)) := fun j v hv => by
  rw [Nat.zero_add, cell_of_heap h]
  simpa [arrI] using hv
theorem Blk.there {w : World} {b : Nat} {T : TypeId} {rs : List Int} (h : Blk w b T rs) : w.there b 0 rs.length := fun j hj => by
  rw [Nat.zero_add]
  exact ⟨by rw [h.cell j hj]; rfl, h.free j⟩
def zeros (n : Nat) : List Int := List.replicate n 0
end Go.Proofs.YtdejpongekicdaaGreatDoor

/- Owns -/
namespace Go.Proofs.YtdejpongekicdaaGreatDoor
open Go.RowKit
set_option linter.unusedVariables false
set_option linter.unusedSimpArgs false
set_option maxHeartbeats 1000000
def Own (base : Nat) (w : World) (v : Value) (l : List Int) : Prop := w.ownsRow base 3 1 v l.length (l.map (Value.int .i64))
theorem Own.ints {base : Nat} {w : World} {v : Value} {l : List Int} (h : Own base w v l) : Ints w v l := Ints_of_owns h
theorem Own.keep {base : Nat} {w w' : World} {v : Value} {l : List Int} (h : Own base w v l) (g : w.grownBy w' none) : Own base w' v l :=
  h.kept g (by rcases v.ownBlock with _ | b <;> simp)
theorem Own.keepBut {base : Nat} {w w' : World} {v : Value} {l : List Int} {b : Nat} {cs : Array Value} {t : TypeId} {f : Nat × Nat} (h : Own base w v l) (g : w.grownBy w' (some b)) (hb : w.heap[b]? = some (.cells cs t f)) (ht : t ≠ 3) : Own base w' v l := by
  refine h.kept g ?_
  rcases h.2 with ⟨rfl, _⟩ | ⟨g', cap, cur, rfl, _, hg, _⟩
  · exact .inl rfl
  · right
    intro e
    simp [Value.ownBlock] at e
    subst e
    rw [hg] at hb
    simp at hb
    exact ht hb.2.1.symm
theorem Own.base {b b' : Nat} {w : World} {v : Value} {l : List Int} (h : Own b w v l) (hb : b' ≤ b) : Own b' w v l := by
  refine ⟨h.1, ?_⟩
  rcases h.2 with h | ⟨g, cap, cur, e, h1, h2⟩
  · exact .inl h
  · exact .inr ⟨g, cap, cur, e, by omega, h2⟩
theorem Own_nil (b : Nat) (w : World) : Own b w (.slice none 0 0) [] := World.ownsRow_nil _ _ _ _
def Shp (v : Value) (l : List Int) : Prop := v = .slice none 0 0 ∨ ∃ a c, v = .slice (some a) l.length c
theorem Own.lt {base : Nat} {w : World} {v : Value} {l : List Int} (h : Own base w v l) (g : Nat) (hg : v.ownBlock = some g) : base ≤ g ∧ g < w.heap.size := by
  rcases h.2 with ⟨rfl, _⟩ | ⟨g', cap, cur, rfl, h1, h2, _⟩
  · cases hg
  · simp [Value.ownBlock] at hg
    subst hg
    exact ⟨h1, lt_of_some h2⟩
theorem Own.shp {base : Nat} {w : World} {v : Value} {l : List Int} (h : Own base w v l) : Shp v l := by
  rcases h.2 with ⟨rfl, _⟩ | ⟨g', cap, cur, rfl, _⟩
  · exact .inl rfl
  · exact .inr ⟨_, cap, rfl⟩
theorem Own.cell {base : Nat} {w : World} {g cap n : Nat} {l : List Int} (h : Own base w (.slice (some ⟨g, 0, none⟩) n cap) l) (hn : n = l.length) (j : Nat) (hj : j < l.length) : w.cell? ⟨g, j, none⟩ = some (.int .i64 (nth l j)) := by
  subst hn
  have := World.ownsRow.cellAt h j (by omega)
  rw [this]
  simp [nth, List.getD, hj]
theorem Own.free {base : Nat} {w : World} {g cap n : Nat} {l : List Int} (h : Own base w (.slice (some ⟨g, 0, none⟩) n cap) l) (hn : n = l.length) (j : Nat) : w.frozen? ⟨g, j, none⟩ = false := by
  subst hn
  exact World.ownsRow.frozenAt h j
theorem Own.set {base : Nat} {w : World} {g cap n : Nat} {l : List Int} (h : Own base w (.slice (some ⟨g, 0, none⟩) n cap) l) (hn : n = l.length) (j : Nat) (z : Int) : Own base (w.setCell ⟨g, j, none⟩ (.int .i64 z)) (.slice (some ⟨g, 0, none⟩) n cap) (l.set j z) ∧ w.grownBy (w.setCell ⟨g, j, none⟩ (.int .i64 z)) (some g) := by
  subst hn
  have := World.ownsRow.stored h j (.int .i64 z)
  refine ⟨?_, this.2⟩
  unfold Own
  rw [List.length_set, List.map_set]
  exact this.1
theorem Own.keepLt {base : Nat} {w w' : World} {v : Value} {l : List Int} {b : Nat} (h : Own base w v l) (g : w.grownBy w' (some b)) (hb : b < base) : Own base w' v l := by
  refine h.kept g ?_
  rcases e : v.ownBlock with _ | c
  · exact .inl rfl
  · right
    intro e'
    have := (h.lt c e).1
    cases e'
    omega
end Go.Proofs.YtdejpongekicdaaGreatDoor

/- BytL -/
namespace Go.Proofs.YtdejpongekicdaaGreatDoor
open Go.RowKit
set_option linter.unusedVariables false
set_option linter.unusedSimpArgs false
set_option maxHeartbeats 1000000
def Byts (w : World) (v : Value) (l : List Int) : Prop :=
  ∃ (ad : Option Addr) (c : Nat), v = .slice ad l.length c ∧ l.length ≤ c ∧ (0 < l.length → ∃ a, ad = some a ∧ ∀ i, i < l.length → w.cell? (a.add i) = some (.int .u8 (nth l i)))
theorem infoU8 : (Tryz.prog.info? 5).map (fun i => (i.zero, i.size, i.bytes)) = some (some (.int .u8 0), 1, 1) := by kernel_rfl
theorem Byts_keep {w w' : World} {v : Value} {l : List Int} (h : Byts w v l) (g : w.grownBy w' none) : Byts w' v l := by
  obtain ⟨ad, c, rfl, hc, hcell⟩ := h
  refine ⟨ad, c, rfl, hc, fun h => ?_⟩
  obtain ⟨a, rfl, hv⟩ := hcell h
  exact ⟨a, rfl, fun i hi => grown_keep g (hv i hi)⟩
theorem Byts_of_owns {w : World} {base : Nat} {v : Value} {l : List Int} (h : w.ownsRow base 5 1 v l.length (l.map (Value.int .u8))) : Byts w v l := by
  obtain ⟨h1, h2⟩ := h
  rcases h2 with ⟨h2, h3⟩ | ⟨g, cap, cur, h2, _, h4, h5, _, h7, h8⟩
  · exact ⟨none, 0, by rw [h2, h3], by omega, fun h => by omega⟩
  · refine ⟨some ⟨g, 0, none⟩, cap, h2, h5, fun _ => ⟨_, rfl, fun i hi => ?_⟩⟩
    have e : (cur.toList.take (l.length * 1))[i]? = (l.map (Value.int .u8))[i]? := by rw [h8]
    rw [List.getElem?_take, if_pos (by omega), Array.getElem?_toList] at e
    have ea : (⟨g, 0, none⟩ : Addr).add i = ⟨g, i, none⟩ := by unfold Addr.add; split <;> simp_all
    rw [ea, cell_of_heap h4, e]
    simp [nth, List.getD, hi]
def OwnB (base : Nat) (w : World) (v : Value) (l : List Int) : Prop := w.ownsRow base 5 1 v l.length (l.map (Value.int .u8))
theorem OwnB.byts {base : Nat} {w : World} {v : Value} {l : List Int} (h : OwnB base w v l) : Byts w v l := Byts_of_owns h
theorem OwnB.keep {base : Nat} {w w' : World} {v : Value} {l : List Int} (h : OwnB base w v l) (g : w.grownBy w' none) : OwnB base w' v l :=
  h.kept g (by rcases v.ownBlock with _ | b <;> simp)
theorem OwnB.keepBut {base : Nat} {w w' : World} {v : Value} {l : List Int} {b : Nat} {cs : Array Value} {t : TypeId} {f : Nat × Nat} (h : OwnB base w v l) (g : w.grownBy w' (some b)) (hb : w.heap[b]? = some (.cells cs t f)) (ht : t ≠ 5) : OwnB base w' v l := by
  refine h.kept g ?_
  rcases h.2 with ⟨rfl, _⟩ | ⟨g', cap, cur, rfl, _, hg, _⟩
  · exact .inl rfl
  · right
    intro e
    simp [Value.ownBlock] at e
    subst e
    rw [hg] at hb
    simp at hb
    exact ht hb.2.1.symm
theorem OwnB.base {b b' : Nat} {w : World} {v : Value} {l : List Int} (h : OwnB b w v l) (hb : b' ≤ b) : OwnB b' w v l := by
  refine ⟨h.1, ?_⟩
  rcases h.2 with h | ⟨g, cap, cur, e, h1, h2⟩
  · exact .inl h
  · exact .inr ⟨g, cap, cur, e, by omega, h2⟩
theorem OwnB_nil (b : Nat) (w : World) : OwnB b w (.slice none 0 0) [] := World.ownsRow_nil _ _ _ _
theorem byts_some {W : World} {a : Addr} {n c : Nat} {l : List Int} (h : Byts W (.slice (some a) n c) l) : n = l.length ∧ n ≤ c ∧ ∀ i, i < l.length → W.cell? (a.add i) = some (.int .u8 (nth l i)) := by
  obtain ⟨ad, c', e, h1, h2⟩ := h
  simp only [Value.slice.injEq] at e
  obtain ⟨rfl, rfl, rfl⟩ := e
  refine ⟨rfl, h1, fun i hi => ?_⟩
  obtain ⟨a', e', h3⟩ := h2 (by omega)
  cases e'
  exact h3 i hi
theorem byts_none {W : World} {l : List Int} (h : Byts W (.slice none 0 0) l) : l = [] := by
  obtain ⟨ad, c, e, _, _⟩ := h
  simp only [Value.slice.injEq] at e
  exact List.length_eq_zero_iff.1 e.2.1.symm
theorem wpList_append_bothB {ops : Array Oper} {rest : List Oper} {o : Oper} {a : Act} {w : World} {Q : Exit → Act → World → Prop} (hgd : Region.wanted o (yielded ops a.tmps) = true) (s x : Operand)
    (hop : o.op = Op.call { callee := Callee.builtin Builtin.append, args := #[s, x], argTypes := #[32, 32] }) (base : Nat) (va vb : Value) (A B : List Int) (hs : a.eval s = va) (hx : a.eval x = vb) (ha : OwnB base w va A) (hb : Byts w vb B) (hsh : Shp vb B)
    (hl : (A.length + B.length) * 1 ≤ 140737488355328) (hbase : base ≤ w.heap.size)
    (h : ∀ v' w', OwnB base w' v' (A ++ B) → w.grownBy w' va.ownBlock → wpList Tryz.prog ops Q rest (a.put o.dst v') w') : wpList Tryz.prog ops Q (o :: rest) a w := by
  obtain ⟨i0, hi, hz0, hz1, hz2⟩ := info_parts infoU8
  have key : ∀ K : Act → World → Prop, (∀ v' w', OwnB base w' v' (A ++ B) → w.grownBy w' va.ownBlock → K (a.put o.dst v') w') → Oper.wp Tryz.prog o a w K Q := by
    intro K hK
    rcases hsh with rfl | ⟨ad, c, rfl⟩
    · obtain rfl := byts_none hb
      have hrun := run_append_owned_none (P := Tryz.prog) (w := w) base 32 o.type 5 i0 1 Tryz.underlying32 hi va _ _ ha
      unfold Oper.wp
      simp [execOp, hop, resolve, invoke, builtin, hs, hx, hrun, Result.andThen]
      exact hK _ _ (by rw [List.append_nil]; exact ha) (grown_refl _ _)
    · obtain ⟨_, hc, hcell⟩ := byts_some hb
      refine wp_append_own w s x 32 hop base 5 i0 (.int .u8 0) 1 1 Tryz.underlying32 hi hz0 hz1 hz2 rfl (by decide) va A.length _ hs ha ad B.length c (B.map (Value.int .u8)) hx (by simp) (fun j u hu => ?_) (fun u hu => ?_) (by unfold maxLen; omega) (by omega) hbase (fun v' w' h2 h3 _ => hK v' w' ?_ h3)
      · have hj : j < B.length := by
          by_cases hj : j < B.length
          · exact hj
          · rw [List.getElem?_eq_none (by simp; omega)] at hu; cases hu
        rw [hcell j hj]
        simpa [nth, List.getD, hj] using hu
      · obtain ⟨x, _, rfl⟩ := List.mem_map.1 hu
        rfl
      · unfold OwnB; simpa using h2
  refine wpList_step fun K hK => ?_
  rw [if_pos hgd]
  exact key K fun v' w' h1 h2 => hK _ _ (h v' w' h1 h2)
theorem OwnB.lt {base : Nat} {w : World} {v : Value} {l : List Int} (h : OwnB base w v l) (g : Nat) (hg : v.ownBlock = some g) : base ≤ g ∧ g < w.heap.size := by
  rcases h.2 with ⟨rfl, _⟩ | ⟨g', cap, cur, rfl, h1, h2, _⟩
  · cases hg
  · simp [Value.ownBlock] at hg
    subst hg
    exact ⟨h1, lt_of_some h2⟩
theorem OwnB.shp {base : Nat} {w : World} {v : Value} {l : List Int} (h : OwnB base w v l) : Shp v l := by
  rcases h.2 with ⟨rfl, _⟩ | ⟨g', cap, cur, rfl, _⟩
  · exact .inl rfl
  · exact .inr ⟨_, cap, rfl⟩
theorem OwnB.cell {base : Nat} {w : World} {g cap n : Nat} {l : List Int} (h : OwnB base w (.slice (some ⟨g, 0, none⟩) n cap) l) (hn : n = l.length) (j : Nat) (hj : j < l.length) : w.cell? ⟨g, j, none⟩ = some (.int .u8 (nth l j)) := by
  subst hn
  have := World.ownsRow.cellAt h j (by omega)
  rw [this]
  simp [nth, List.getD, hj]
theorem OwnB.free {base : Nat} {w : World} {g cap n : Nat} {l : List Int} (h : OwnB base w (.slice (some ⟨g, 0, none⟩) n cap) l) (hn : n = l.length) (j : Nat) : w.frozen? ⟨g, j, none⟩ = false := by
  subst hn
  exact World.ownsRow.frozenAt h j
theorem OwnB.set {base : Nat} {w : World} {g cap n : Nat} {l : List Int} (h : OwnB base w (.slice (some ⟨g, 0, none⟩) n cap) l) (hn : n = l.length) (j : Nat) (z : Int) : OwnB base (w.setCell ⟨g, j, none⟩ (.int .u8 z)) (.slice (some ⟨g, 0, none⟩) n cap) (l.set j z) ∧ w.grownBy (w.setCell ⟨g, j, none⟩ (.int .u8 z)) (some g) := by
  subst hn
  have := World.ownsRow.stored h j (.int .u8 z)
  refine ⟨?_, this.2⟩
  unfold OwnB
  rw [List.length_set, List.map_set]
  exact this.1
theorem OwnB.keepLt {base : Nat} {w w' : World} {v : Value} {l : List Int} {b : Nat} (h : OwnB base w v l) (g : w.grownBy w' (some b)) (hb : b < base) : OwnB base w' v l := by
  refine h.kept g ?_
  rcases e : v.ownBlock with _ | c
  · exact .inl rfl
  · right
    intro e'
    have := (h.lt c e).1
    cases e'
    omega
end Go.Proofs.YtdejpongekicdaaGreatDoor

/- LpcMath -/
namespace Go.Proofs.YtdejpongekicdaaGreatDoor
open Go.RowKit
set_option linter.unusedVariables false
set_option linter.unusedSimpArgs false
def FillN (n : Nat) (f : Nat → Int) (k : Nat) (rs : List Int) : Prop := rs.length = n ∧ ∀ j, j < k → nth rs j = f j
theorem fillN_all {n : Nat} {f : Nat → Int} {rs : List Int} (h : FillN n f n rs) : rs = (List.range n).map f := by
  apply List.ext_getElem
  · simp [h.1]
  · intro i h1 h2
    have := h.2 i (by have := h.1; omega)
    simpa [nth, List.getD, h1] using this
end Go.Proofs.YtdejpongekicdaaGreatDoor

/- LpcS -/
namespace Go.Proofs.YtdejpongekicdaaGreatDoor
open Go.RowKit
set_option linter.unusedVariables false
set_option linter.unusedSimpArgs false
def Mem2 (w wr : World) (T1 T2 : TypeId) (a b : List Int) : Prop := Blk wr w.heap.size T1 a ∧ Blk wr (w.heap.size + 1) T2 b ∧ w.grownBy wr none
def Mem3 (w wr : World) (T1 T2 T3 : TypeId) (a b c : List Int) : Prop := Blk wr w.heap.size T1 a ∧ Blk wr (w.heap.size + 1) T2 b ∧ Blk wr (w.heap.size + 1 + 1) T3 c ∧ w.grownBy wr none
theorem Mem2.keep {w wr wr' : World} {T1 T2 : TypeId} {a b : List Int} (h : Mem2 w wr T1 T2 a b) (g : wr.grownBy wr' none) : Mem2 w wr' T1 T2 a b := ⟨h.1.keep g, h.2.1.keep g, grown_none h.2.2 g⟩
theorem Mem3.keep {w wr wr' : World} {T1 T2 T3 : TypeId} {a b c : List Int} (h : Mem3 w wr T1 T2 T3 a b c) (g : wr.grownBy wr' none) : Mem3 w wr' T1 T2 T3 a b c := ⟨h.1.keep g, h.2.1.keep g, h.2.2.1.keep g, grown_none h.2.2.2 g⟩
theorem Mem2.set {w wr : World} {T1 T2 : TypeId} {a b : List Int} (h : Mem2 w wr T1 T2 a b) (k : Nat) (z : Int) : Mem2 w (wr.setCell ⟨w.heap.size, k, none⟩ (.int .i64 z)) T1 T2 (a.set k z) b :=
  ⟨h.1.set k z, h.2.1.keepBut (grown_setCell _ ⟨w.heap.size, k, none⟩ _) (by simp), grown_own h.2.2 (grown_setCell _ ⟨w.heap.size, k, none⟩ _) (by simp)⟩
theorem Mem3.set {w wr : World} {T1 T2 T3 : TypeId} {a b c : List Int} (h : Mem3 w wr T1 T2 T3 a b c) (k : Nat) (z : Int) : Mem3 w (wr.setCell ⟨w.heap.size, k, none⟩ (.int .i64 z)) T1 T2 T3 (a.set k z) b c :=
  ⟨h.1.set k z, h.2.1.keepBut (grown_setCell _ ⟨w.heap.size, k, none⟩ _) (by simp), h.2.2.1.keepBut (grown_setCell _ ⟨w.heap.size, k, none⟩ _) (by simp; omega), grown_own h.2.2.2 (grown_setCell _ ⟨w.heap.size, k, none⟩ _) (by simp)⟩
end Go.Proofs.YtdejpongekicdaaGreatDoor

/- LevMath -/
namespace Go.Proofs.YtdejpongekicdaaGreatDoor
open Go.RowKit
set_option linter.unusedVariables false
set_option linter.unusedSimpArgs false
def tab (n : Nat) (p : Nat → Int) : List Int := (List.range n).map p
theorem tab_len (n : Nat) (p : Nat → Int) : (tab n p).length = n := by simp [tab]
theorem tab_nth (n : Nat) (p : Nat → Int) (i : Nat) (h : i < n) : nth (tab n p) i = p i := by simp [tab, nth, List.getD, h]
theorem tab_ext {n : Nat} {p : Nat → Int} {l : List Int} (h1 : l.length = n) (h2 : ∀ i, i < n → nth l i = p i) : l = tab n p := fillN_all (n := n) ⟨h1, h2⟩
def gr (p : Nat → Int) (m : Nat) (q : Int) (i : Nat) : Int := if 1 ≤ i ∧ i ≤ m then p i + q * p (m - i) / 32768 else p i
end Go.Proofs.YtdejpongekicdaaGreatDoor

/- PackMath -/
namespace Go.Proofs.YtdejpongekicdaaGreatDoor
open Go.RowKit
set_option linter.unusedVariables false
set_option linter.unusedSimpArgs false
def byB (b : List Int) : Prop := ∀ i, 0 ≤ nth b i ∧ nth b i < 256
end Go.Proofs.YtdejpongekicdaaGreatDoor

/- OpensB -/
namespace Go.Proofs.YtdejpongekicdaaGreatDoor
set_option maxRecDepth 100000
open Go.ChangeShapes Go.WideShapes Go.ChangeAt Go.RowKit
set_option linter.unusedVariables false
set_option linter.unusedSimpArgs false
theorem o_cellsByt : Tryz.prog.cellsOf 5 = 1 := by kernel_rfl
theorem o_bytesByt : Tryz.prog.bytesOf 5 = 1 := by kernel_rfl
theorem byt_wf {n : Int} (h : (Lit.int .u8 n).wf = true) : 0 ≤ n ∧ n < 256 := by
  simp [Lit.wf, IntKind.has, IntKind.min, IntKind.max, IntKind.signed, IntKind.bits] at h
  omega
end Go.Proofs.YtdejpongekicdaaGreatDoor

/- VBlk -/
namespace Go.Proofs.YtdejpongekicdaaGreatDoor
open Go.RowKit
set_option linter.unusedVariables false
set_option linter.unusedSimpArgs false
def BlkV (w : World) (b : Nat) (T : TypeId) (cs : List Value) : Prop := w.heap[b]? = some (.cells cs.toArray T (0, 0))
theorem BlkV.cell {w : World} {b : Nat} {T : TypeId} {cs : List Value} (h : BlkV w b T cs) (i : Nat) : w.cell? ⟨b, i, none⟩ = cs[i]? := by rw [cell_of_heap h]; simp
theorem BlkV.free {w : World} {b : Nat} {T : TypeId} {cs : List Value} (h : BlkV w b T cs) (i : Nat) : w.frozen? ⟨b, i, none⟩ = false := frozen_of_heap h i
theorem BlkV.lt {w : World} {b : Nat} {T : TypeId} {cs : List Value} (h : BlkV w b T cs) : b < w.heap.size := lt_of_some h
theorem BlkV.keep {w w' : World} {b : Nat} {T : TypeId} {cs : List Value} (h : BlkV w b T cs) (g : w.grownBy w' none) : BlkV w' b T cs := (g.block _ (lt_of_some h) (by simp)).trans h
theorem BlkV.keepBut {w w' : World} {b : Nat} {T : TypeId} {cs : List Value} {r : Nat} (h : BlkV w b T cs) (g : w.grownBy w' (some r)) (hr : b ≠ r) : BlkV w' b T cs := (g.block _ (lt_of_some h) (by simpa using hr)).trans h
theorem BlkV.new (w : World) (T : TypeId) (cs : List Value) : BlkV (w.alloc (.cells cs.toArray T)) w.heap.size T cs := heap_new w _
theorem BlkV.set {w : World} {b : Nat} {T : TypeId} {cs : List Value} (h : BlkV w b T cs) (k : Nat) (v : Value) : BlkV (w.setCell ⟨b, k, none⟩ v) b T (cs.set k v) := by
  unfold BlkV
  rw [heap_setCell h]
  simp
theorem BlkV.range {w : World} {b : Nat} {T : TypeId} {cs : List Value} (h : BlkV w b T cs) (o n : Nat) : w.rangeAt b o ((cs.drop o).take n) := fun j v hv => by
  rw [h.cell]
  rw [List.getElem?_take] at hv
  split at hv
  · rw [List.getElem?_drop] at hv; exact hv
  · cases hv
theorem BlkV.there {w : World} {b : Nat} {T : TypeId} {cs : List Value} (h : BlkV w b T cs) (o n : Nat) (hn : o + n ≤ cs.length) : w.there b o n := fun j hj =>
  ⟨by rw [h.cell, List.getElem?_eq_getElem (by omega)]; rfl, h.free _⟩
def splV (cs : List Value) (o : Nat) (vs : List Value) : List Value := cs.take o ++ vs ++ cs.drop (o + vs.length)
theorem splV_all (cs vs : List Value) (h : vs.length = cs.length) : splV cs 0 vs = vs := by simp [splV, h]
theorem heap_setV (b : Nat) (T : TypeId) : ∀ (vs : List Value) (o : Nat) (w : World) (cs : List Value), BlkV w b T cs → o + vs.length ≤ cs.length → BlkV (w.setCells b o vs) b T (splV cs o vs) ∧ w.grownBy (w.setCells b o vs) (some b)
  | [], o, w, cs, h, _ => ⟨by show BlkV w b T (splV cs o []); unfold splV; simp; exact h, grown_refl w _⟩
  | z :: M, o, w, cs, h, hl => by
    simp only [List.length_cons] at hl
    have h1 := h.set o z
    obtain ⟨a1, a2⟩ := heap_setV b T M (o + 1) (w.setCell ⟨b, o, none⟩ z) (cs.set o z) h1 (by rw [List.length_set]; omega)
    refine ⟨?_, grown_trans (grown_setCell w ⟨b, o, none⟩ _) a2 (some b) (fun i e _ => e) (fun i e _ => e)⟩
    have e : splV (cs.set o z) (o + 1) M = splV cs o (z :: M) := by
      unfold splV
      rw [List.take_succ_eq_append_getElem (by rw [List.length_set]; omega)]
      simp [show o < cs.length by omega]
      rw [List.drop_set_of_lt (by omega), show o + 1 + M.length = o + (M.length + 1) by omega]
      rw [List.take_set_of_le (Nat.le_refl _)]
    rw [← e]
    exact a1
def putV (w : World) (b o : Nat) (vs : List Value) : World := w.setCells b o vs
theorem put_v {w : World} {b : Nat} {T : TypeId} {cs : List Value} (h : BlkV w b T cs) (o : Nat) (vs : List Value) (hl : o + vs.length ≤ cs.length) : BlkV (putV w b o vs) b T (splV cs o vs) ∧ w.grownBy (putV w b o vs) (some b) := heap_setV b T vs o w cs h hl
theorem wpList_load_v {ops : Array Oper} {rest : List Oper} {op : Oper} {a : Act} {w : World} {Q : Exit → Act → World → Prop} (hgd : op.guard = none) (T : TypeId) (x : Operand) (ho : op.op = .load T x)
    (b o n : Nat) (hx : a.eval x = .pointer (some ⟨b, o, none⟩)) (TB : TypeId) (cs : List Value) (h : BlkV w b TB cs) (d : TypeDesc) (hu : Tryz.prog.underlying T = some d) (hd : d.isRow = true) (hi : (Tryz.prog.info? T).map (·.size) = some n) (hn : o + n ≤ cs.length) (vs : List Value) (hvs : (cs.drop o).take n = vs)
    (k : wpList Tryz.prog ops Q rest (a.put op.dst (.agg vs.toArray)) w) : wpList Tryz.prog ops Q (op :: rest) a w := by
  subst hvs
  exact wpList_load_mid hgd T x ho b o hx _ d (h.range o n) hu hd (by rw [hi]; simp; omega) k
theorem loadVar_v {w : World} {b : Nat} {T : TypeId} {cs : List Value} (h : BlkV w b T cs) (d : TypeDesc) (hu : Tryz.prog.underlying T = some d) (hd : d.isRow = true) (hi : (Tryz.prog.info? T).map (·.size) = some cs.length) :
    Sem.run Tryz.prog (loadVar T ⟨b, 0, none⟩) w = .ok (.agg cs.toArray) w := by
  have := run_loadVar_mid (P := Tryz.prog) w b 0 T ((cs.drop 0).take cs.length) d (h.range 0 cs.length) hu hd (by rw [hi]; simp)
  simpa using this
theorem ones_v {vs : List Value} (h : ∀ v ∈ vs, v.oneCell' = true) : vs.toArray.all (·.oneCell') = true := all_oneCell_toArray h
theorem wpList_store_v {ops : Array Oper} {rest : List Oper} {op : Oper} {a : Act} {w : World} {Q : Exit → Act → World → Prop} (hgd : op.guard = none) (T : TypeId) (x y : Operand) (ho : op.op = .store T x y)
    (b o : Nat) (TB : TypeId) (cs vs : List Value) (hx : a.eval x = .pointer (some ⟨b, o, none⟩)) (hy : a.eval y = .agg vs.toArray) (h : BlkV w b TB cs) (hl : o + vs.length ≤ cs.length) (hi : (Tryz.prog.info? T).map (·.size) = some vs.length) (h1 : ∀ v ∈ vs, v.oneCell' = true)
    (k : wpList Tryz.prog ops Q rest (a.put op.dst undef) (putV w b o vs)) : wpList Tryz.prog ops Q (op :: rest) a w :=
  wpList_store_mid hgd T x y ho b o vs.toArray hx hy (by simpa using h.there o vs.length hl) (by simpa using hi) (ones_v h1) (by simpa [putV] using k)
def intsV (l : List Int) : List Value := l.map (Value.int .i64)
theorem intsV_len (l : List Int) : (intsV l).length = l.length := by simp [intsV]
def prt (l : List Int) (o n : Nat) : List Int := tab n (fun i => nth l (o + i))
theorem prt_len (l : List Int) (o n : Nat) : (prt l o n).length = n := tab_len _ _
theorem prt_nth (l : List Int) (o n i : Nat) (h : i < n) : nth (prt l o n) i = nth l (o + i) := tab_nth _ _ _ h
def ovr (l : List Int) (o : Nat) (M : List Int) : List Int := tab l.length (fun i => if o ≤ i ∧ i < o + M.length then nth M (i - o) else nth l i)
theorem ovr_eq (l : List Int) (o : Nat) (M : List Int) (h : o + M.length ≤ l.length) : l.take o ++ M ++ l.drop (o + M.length) = ovr l o M := by
  refine tab_ext (by simp; omega) (fun i hi => ?_)
  unfold nth List.getD
  by_cases h1 : i < o
  · rw [if_neg (by omega), List.getElem?_append_left (by simp; omega), List.getElem?_append_left (by simp; omega), List.getElem?_take, if_pos h1]
  · by_cases h2 : i < o + M.length
    · rw [if_pos (by omega), List.getElem?_append_left (by simp; omega), List.getElem?_append_right (by simp; omega)]
      congr 2
      simp; omega
    · rw [if_neg (by omega), List.getElem?_append_right (by simp; omega), List.getElem?_drop]
      congr 2
      simp; omega
def mixC (l : List Int) (z : List Value) : List Value := intsV l ++ z
theorem mixC_len (l : List Int) (z : List Value) : (mixC l z).length = l.length + z.length := by simp [mixC, intsV]
theorem mixC_get (l : List Int) (z : List Value) (i : Nat) (h : i < l.length) : (mixC l z)[i]? = some (.int .i64 (nth l i)) := by
  unfold mixC
  rw [List.getElem?_append_left (by rw [intsV_len]; exact h)]
  simp [intsV, nth, List.getD, h]
theorem mixC_set (l : List Int) (z : List Value) (i : Nat) (x : Int) (h : i < l.length) : (mixC l z).set i (.int .i64 x) = mixC (l.set i x) z := by
  unfold mixC intsV
  rw [List.set_append_left _ _ (by simpa using h), List.map_set]
theorem mixC_spl (l : List Int) (z : List Value) (o : Nat) (M : List Int) (h : o + M.length ≤ l.length) : splV (mixC l z) o (intsV M) = mixC (ovr l o M) z := by
  rw [← ovr_eq l o M h]
  unfold splV mixC
  rw [intsV_len, List.take_append_of_le_length (by rw [intsV_len]; omega), List.drop_append_of_le_length (by rw [intsV_len]; exact h)]
  simp [intsV, List.map_take, List.map_drop]
theorem BlkV.ints {w : World} {b : Nat} {T : TypeId} {l : List Int} {z : List Value} (h : BlkV w b T (mixC l z)) (o n c : Nat) (hn : o + n ≤ l.length) (hc : n ≤ c) : Ints w (.slice (some ⟨b, o, none⟩) n c) (prt l o n) := by
  refine ⟨some ⟨b, o, none⟩, c, by rw [prt_len], by rw [prt_len]; exact hc, fun _ => ⟨_, rfl, fun i hi => ?_⟩⟩
  rw [prt_len] at hi
  rw [Addr.add_mid, h.cell, mixC_get _ _ _ (by omega), prt_nth _ _ _ _ hi]
end Go.Proofs.YtdejpongekicdaaGreatDoor

/- DualMath -/
namespace Go.Proofs.YtdejpongekicdaaGreatDoor

end Go.Proofs.YtdejpongekicdaaGreatDoor

/- PowMath -/
namespace Go.Proofs.YtdejpongekicdaaGreatDoor
open Go.RowKit
def gro : List Int := [444758425, 203159592, 97181937, 47538611, 23511884, 11692281, 5830311, 2911209, 1454619, 727063, 363470, 181719, 90856, 45427, 22713]
end Go.Proofs.YtdejpongekicdaaGreatDoor

/- GainMath -/
namespace Go.Proofs.YtdejpongekicdaaGreatDoor

end Go.Proofs.YtdejpongekicdaaGreatDoor

/- SynthMath -/
namespace Go.Proofs.YtdejpongekicdaaGreatDoor
open Go.RowKit
set_option linter.unusedVariables false
set_option linter.unusedSimpArgs false
def gsum (a h : List Int) : Nat → Int
  | 0 => 2048
  | i + 1 => gsum a h i + nth a (i + 1) * nth h i
def gs (a h : List Int) : Int := gsum a h 8 / 4096
end Go.Proofs.YtdejpongekicdaaGreatDoor

/- Btr -/
namespace Go.Proofs.YtdejpongekicdaaGreatDoor

end Go.Proofs.YtdejpongekicdaaGreatDoor

/- PitchMath -/
namespace Go.Proofs.YtdejpongekicdaaGreatDoor
open Go.RowKit
set_option linter.unusedVariables false
set_option linter.unusedSimpArgs false
def gains : List Int := [0, 3277, 6554, 9830, 12452, 14746, 16384, 18022]
end Go.Proofs.YtdejpongekicdaaGreatDoor

/- MemMath -/
namespace Go.Proofs.YtdejpongekicdaaGreatDoor
open Go.RowKit
set_option linter.unusedVariables false
set_option linter.unusedSimpArgs false
def mlo (i : Nat) : Int := if i < 8 then -31000 else if i < 96 then -32768 else if i = 98 then 20 else 0
def mhi (i : Nat) : Int := if i < 8 then 31000 else if i < 97 then 32767 else if i = 97 then 18022 else if i = 98 then 79 else if i = 99 then 6 else 65535
def goodM (l : List Int) : Bool := (List.range 101).all fun i => decide (mlo i ≤ nth l i) && decide (nth l i ≤ mhi i)
abbrev mxO (lag g : Int) (b : List Int) : Prop := b.length = 40 ∧ (20 ≤ lag ∧ lag ≤ 79) ∧ 0 ≤ g ∧ g ≤ 32767
abbrev erO (l : List Int) (half : Int) : Prop := goodM l = true ∧ 0 ≤ half ∧ half ≤ 1
end Go.Proofs.YtdejpongekicdaaGreatDoor

/- RegA -/
namespace Go.Proofs.YtdejpongekicdaaGreatDoor

end Go.Proofs.YtdejpongekicdaaGreatDoor

/- EndMath -/
namespace Go.Proofs.YtdejpongekicdaaGreatDoor
open Go.RowKit
set_option linter.unusedVariables false
set_option linter.unusedSimpArgs false
def Mem1 (w wr : World) (T : TypeId) (a : List Int) : Prop := Blk wr w.heap.size T a ∧ w.grownBy wr none
theorem Mem1.set {w wr : World} {T : TypeId} {a : List Int} (h : Mem1 w wr T a) (k : Nat) (z : Int) : Mem1 w (wr.setCell ⟨w.heap.size, k, none⟩ (.int .i64 z)) T (a.set k z) :=
  ⟨h.1.set k z, grown_own h.2 (grown_setCell _ ⟨w.heap.size, k, none⟩ _) (by simp)⟩
end Go.Proofs.YtdejpongekicdaaGreatDoor

/- SynW -/
namespace Go.Proofs.YtdejpongekicdaaGreatDoor

end Go.Proofs.YtdejpongekicdaaGreatDoor

/- ConX -/
namespace Go.Proofs.YtdejpongekicdaaGreatDoor
open Go.RowKit
set_option linter.unusedVariables false
set_option linter.unusedSimpArgs false
def In1 (x : Int) : Prop := -9223372036854775808 ≤ x ∧ x ≤ 9223372036854775807
end Go.Proofs.YtdejpongekicdaaGreatDoor

/- ConW -/
namespace Go.Proofs.YtdejpongekicdaaGreatDoor
open Go.RowKit
set_option linter.unusedVariables false
set_option linter.unusedSimpArgs false
def memC (l : List Int) (s : Bool) : List Value := mixC l [.bool s]
theorem memC_len {l : List Int} (h : l.length = 101) (s : Bool) : (memC l s).length = 102 := by unfold memC; rw [mixC_len, h]; rfl
def BlkM (w : World) (b : Nat) (l : List Int) (s : Bool) : Prop := BlkV w b 53 (memC l s)
theorem BlkM.cell {w : World} {b : Nat} {l : List Int} {s : Bool} (h : BlkM w b l s) (i : Nat) (hi : i < l.length) : w.cell? ⟨b, i, none⟩ = some (.int .i64 (nth l i)) := (BlkV.cell h i).trans (mixC_get _ _ _ hi)
theorem BlkM.free {w : World} {b : Nat} {l : List Int} {s : Bool} (h : BlkM w b l s) (i : Nat) : w.frozen? ⟨b, i, none⟩ = false := BlkV.free h i
theorem BlkM.keep {w w' : World} {b : Nat} {l : List Int} {s : Bool} (h : BlkM w b l s) (g : w.grownBy w' none) : BlkM w' b l s := BlkV.keep h g
theorem BlkM.keepBut {w w' : World} {b : Nat} {l : List Int} {s : Bool} {r : Nat} (h : BlkM w b l s) (g : w.grownBy w' (some r)) (hr : b ≠ r) : BlkM w' b l s := BlkV.keepBut h g hr
theorem BlkM.lt {w : World} {b : Nat} {l : List Int} {s : Bool} (h : BlkM w b l s) : b < w.heap.size := BlkV.lt h
theorem BlkM.new (w : World) (l : List Int) (s : Bool) : BlkM (w.alloc (.cells (memC l s).toArray 53)) w.heap.size l s := BlkV.new w _ _
theorem BlkM.set {w : World} {b : Nat} {l : List Int} {s : Bool} (h : BlkM w b l s) (k : Nat) (z : Int) (hk : k < l.length) : BlkM (w.setCell ⟨b, k, none⟩ (.int .i64 z)) b (l.set k z) s := by
  have := BlkV.set h k (.int .i64 z)
  unfold memC at this
  rw [mixC_set _ _ _ _ hk] at this
  exact this
theorem BlkM.put {w : World} {b : Nat} {l : List Int} {s : Bool} (h : BlkM w b l s) (o : Nat) (M : List Int) (hl : o + M.length ≤ l.length) : BlkM (putV w b o (intsV M)) b (ovr l o M) s ∧ w.grownBy (putV w b o (intsV M)) (some b) := by
  have := put_v h o (intsV M) (by rw [intsV_len]; unfold memC; rw [mixC_len]; omega)
  unfold memC at this
  rw [mixC_spl _ _ _ _ hl] at this
  exact this
theorem BlkM.all {l : List Int} (s : Bool) (h : l.length = 101) : ((memC l s).drop 0).take 102 = memC l s := by rw [List.drop_zero, List.take_of_length_le (by rw [memC_len h]; omega)]
theorem BlkM.ints {w : World} {b : Nat} {l : List Int} {s : Bool} (h : BlkM w b l s) (o n c : Nat) (hn : o + n ≤ l.length) (hc : n ≤ c) : Ints w (.slice (some ⟨b, o, none⟩) n c) (prt l o n) := BlkV.ints h o n c hn hc
end Go.Proofs.YtdejpongekicdaaGreatDoor

/- BlkI -/
namespace Go.Proofs.YtdejpongekicdaaGreatDoor
open Go.RowKit
set_option linter.unusedVariables false
set_option linter.unusedSimpArgs false
def BlkI (w : World) (b : Nat) (T : TypeId) (l : List Int) : Prop := BlkV w b T (intsV l)
theorem BlkI.v {w : World} {b : Nat} {T : TypeId} {l : List Int} (h : BlkI w b T l) : BlkV w b T (intsV l) := h
theorem BlkI.cell {w : World} {b : Nat} {T : TypeId} {l : List Int} (h : BlkI w b T l) (i : Nat) (hi : i < l.length) : w.cell? ⟨b, i, none⟩ = some (.int .i64 (nth l i)) := by
  have := mixC_get l [] i hi
  unfold mixC at this
  rw [List.append_nil] at this
  exact (BlkV.cell h i).trans this
theorem BlkI.free {w : World} {b : Nat} {T : TypeId} {l : List Int} (h : BlkI w b T l) (i : Nat) : w.frozen? ⟨b, i, none⟩ = false := BlkV.free h i
theorem BlkI.lt {w : World} {b : Nat} {T : TypeId} {l : List Int} (h : BlkI w b T l) : b < w.heap.size := BlkV.lt h
theorem BlkI.keep {w w' : World} {b : Nat} {T : TypeId} {l : List Int} (h : BlkI w b T l) (g : w.grownBy w' none) : BlkI w' b T l := BlkV.keep h g
theorem BlkI.keepBut {w w' : World} {b : Nat} {T : TypeId} {l : List Int} {r : Nat} (h : BlkI w b T l) (g : w.grownBy w' (some r)) (hr : b ≠ r) : BlkI w' b T l := BlkV.keepBut h g hr
theorem BlkI.new (w : World) (T : TypeId) (l : List Int) : BlkI (w.alloc (.cells (arrI l) T)) w.heap.size T l := BlkV.new w T (intsV l)
theorem BlkI.set {w : World} {b : Nat} {T : TypeId} {l : List Int} (h : BlkI w b T l) (k : Nat) (z : Int) (hk : k < l.length) : BlkI (w.setCell ⟨b, k, none⟩ (.int .i64 z)) b T (l.set k z) := by
  have := BlkV.set h k (.int .i64 z)
  have e := mixC_set l [] k z hk
  unfold mixC at e
  rw [List.append_nil, List.append_nil] at e
  rw [e] at this
  exact this
theorem BlkI.put {w : World} {b : Nat} {T : TypeId} {l : List Int} (h : BlkI w b T l) (o : Nat) (M : List Int) (hl : o + M.length ≤ l.length) : BlkI (putV w b o (intsV M)) b T (ovr l o M) ∧ w.grownBy (putV w b o (intsV M)) (some b) := by
  have := put_v h o (intsV M) (by rw [intsV_len, intsV_len]; exact hl)
  have e := mixC_spl l [] o M hl
  unfold mixC at e
  rw [List.append_nil, List.append_nil] at e
  rw [e] at this
  exact this
theorem BlkI.all (l : List Int) (n : Nat) (h : l.length = n) : ((intsV l).drop 0).take n = intsV l := by rw [List.drop_zero, List.take_of_length_le (by rw [intsV_len]; omega)]
theorem BlkI.ints {w : World} {b : Nat} {T : TypeId} {l : List Int} (h : BlkI w b T l) (o n c : Nat) (hn : o + n ≤ l.length) (hc : n ≤ c) : Ints w (.slice (some ⟨b, o, none⟩) n c) (prt l o n) := by
  have k : BlkV w b T (mixC l []) := by unfold mixC; rw [List.append_nil]; exact h
  exact k.ints o n c hn hc
end Go.Proofs.YtdejpongekicdaaGreatDoor

/- EncS -/
namespace Go.Proofs.YtdejpongekicdaaGreatDoor
open Go.RowKit
set_option linter.unusedVariables false
set_option linter.unusedSimpArgs false
def encC (e : List Int) (s : Bool) : List Value := mixC e [.bool s]
theorem encC_len {e : List Int} (h : e.length = 225) (s : Bool) : (encC e s).length = 226 := by unfold encC; rw [mixC_len, h]; rfl
def BlkE (w : World) (b : Nat) (e : List Int) (s : Bool) : Prop := BlkV w b 55 (encC e s)
theorem BlkE.keep {w w' : World} {b : Nat} {e : List Int} {s : Bool} (h : BlkE w b e s) (g : w.grownBy w' none) : BlkE w' b e s := BlkV.keep h g
theorem BlkE.keepBut {w w' : World} {b : Nat} {e : List Int} {s : Bool} {r : Nat} (h : BlkE w b e s) (g : w.grownBy w' (some r)) (hr : b ≠ r) : BlkE w' b e s := BlkV.keepBut h g hr
theorem BlkE.lt {w : World} {b : Nat} {e : List Int} {s : Bool} (h : BlkE w b e s) : b < w.heap.size := BlkV.lt h
theorem BlkE.new (w : World) (e : List Int) (s : Bool) : BlkE (w.alloc (.cells (encC e s).toArray 55)) w.heap.size e s := BlkV.new w _ _
theorem BlkE.all {e : List Int} (s : Bool) (h : e.length = 225) : ((encC e s).drop 0).take 226 = encC e s := by rw [List.drop_zero, List.take_of_length_le (by rw [encC_len h]; omega)]
end Go.Proofs.YtdejpongekicdaaGreatDoor

/- EraMath -/
namespace Go.Proofs.YtdejpongekicdaaGreatDoor

end Go.Proofs.YtdejpongekicdaaGreatDoor

/- QuantMath -/
namespace Go.Proofs.YtdejpongekicdaaGreatDoor

end Go.Proofs.YtdejpongekicdaaGreatDoor

/- PulMath -/
namespace Go.Proofs.YtdejpongekicdaaGreatDoor

end Go.Proofs.YtdejpongekicdaaGreatDoor

/- PlyMath -/
namespace Go.Proofs.YtdejpongekicdaaGreatDoor

end Go.Proofs.YtdejpongekicdaaGreatDoor

/- PikMath -/
namespace Go.Proofs.YtdejpongekicdaaGreatDoor

end Go.Proofs.YtdejpongekicdaaGreatDoor

/- ChoMath -/
namespace Go.Proofs.YtdejpongekicdaaGreatDoor

end Go.Proofs.YtdejpongekicdaaGreatDoor

/- Base -/
namespace Go.Proofs.YtdejpongekicdaaGreatDoor

end Go.Proofs.YtdejpongekicdaaGreatDoor

/- RefWt -/
namespace Go.Proofs.YtdejpongekicdaaGreatDoor

end Go.Proofs.YtdejpongekicdaaGreatDoor

/- CorrMath -/
namespace Go.Proofs.YtdejpongekicdaaGreatDoor

end Go.Proofs.YtdejpongekicdaaGreatDoor

/- BigMem -/
namespace Go.Proofs.YtdejpongekicdaaGreatDoor

end Go.Proofs.YtdejpongekicdaaGreatDoor

/- BigA -/
namespace Go.Proofs.YtdejpongekicdaaGreatDoor

end Go.Proofs.YtdejpongekicdaaGreatDoor

/- BigB -/
namespace Go.Proofs.YtdejpongekicdaaGreatDoor

end Go.Proofs.YtdejpongekicdaaGreatDoor

/- BigC -/
namespace Go.Proofs.YtdejpongekicdaaGreatDoor

end Go.Proofs.YtdejpongekicdaaGreatDoor

/- TabF -/
namespace Go.Proofs.YtdejpongekicdaaGreatDoor
open Go.RowKit
def TabA (w : World) (g : Nat) (zs : List Int) (n : Nat) : Prop := ∀ i : Nat, i < n → w.cell? ⟨g, i, none⟩ = some (.int .i64 (zs.getD i 0))
end Go.Proofs.YtdejpongekicdaaGreatDoor

/- QuantA -/
namespace Go.Proofs.YtdejpongekicdaaGreatDoor

end Go.Proofs.YtdejpongekicdaaGreatDoor

/- QuantB -/
namespace Go.Proofs.YtdejpongekicdaaGreatDoor

end Go.Proofs.YtdejpongekicdaaGreatDoor

/- RefQuant -/
namespace Go.Proofs.YtdejpongekicdaaGreatDoor

end Go.Proofs.YtdejpongekicdaaGreatDoor

/- RefOne -/
namespace Go.Proofs.YtdejpongekicdaaGreatDoor

end Go.Proofs.YtdejpongekicdaaGreatDoor

/- LQuantR -/
namespace Go.Proofs.YtdejpongekicdaaGreatDoor

end Go.Proofs.YtdejpongekicdaaGreatDoor

/- QuantC -/
namespace Go.Proofs.YtdejpongekicdaaGreatDoor

end Go.Proofs.YtdejpongekicdaaGreatDoor

/- QuaMath -/
namespace Go.Proofs.YtdejpongekicdaaGreatDoor

end Go.Proofs.YtdejpongekicdaaGreatDoor

/- OpnMath -/
namespace Go.Proofs.YtdejpongekicdaaGreatDoor

end Go.Proofs.YtdejpongekicdaaGreatDoor

/- MemEq -/
namespace Go.Proofs.YtdejpongekicdaaGreatDoor

end Go.Proofs.YtdejpongekicdaaGreatDoor

/- EncEq -/
namespace Go.Proofs.YtdejpongekicdaaGreatDoor

end Go.Proofs.YtdejpongekicdaaGreatDoor

/- BigD -/
namespace Go.Proofs.YtdejpongekicdaaGreatDoor

end Go.Proofs.YtdejpongekicdaaGreatDoor

/- Order -/
namespace Go.Proofs.YtdejpongekicdaaGreatDoor
set_option linter.unusedVariables false
section
variable {P : Program} {ops : Array Oper} {Q : Exit → Act → World → Prop} {md : Region.Mode} {S : World → Prop} {g : Nat}
def Closed (md : Region.Mode) (ops : Array Oper) (listed : Array Bool) : Prop :=
  ∀ j oj, ops[j]? = some oj → listed.getD j false = true → ∀ e ∈ oj.after, Region.binds md e = true → listed.getD e.on false = true
theorem getD_set_inv {listed : Array Bool} {i j : Nat} (h : (listed.setIfInBounds i true).getD j false = true) : j = i ∨ listed.getD j false = true := by
  by_cases hij : i = j
  · exact Or.inl hij.symm
  · rw [getD_set_ne false hij] at h; exact Or.inr h
theorem Closed.set {listed : Array Bool} {i : Nat} (h : Closed md ops listed) (hi : i ∈ Region.ready md ops listed) : Closed md ops (listed.setIfInBounds i true) := by
  intro j oj hj hl e he hb
  apply getD_set_true
  rcases getD_set_inv hl with rfl | hl
  · obtain ⟨_, o, ho, hall⟩ := mem_ready.1 hi
    rw [hj] at ho; cases ho
    exact hall e he hb
  · exact h j oj hj hl e he hb
theorem Closed.zero (n : Nat) : Closed md ops (Array.replicate n false) := fun j oj _ hl => by rw [getD_replicate_false] at hl; cases hl
end
end Go.Proofs.YtdejpongekicdaaGreatDoor

/- BigE -/
namespace Go.Proofs.YtdejpongekicdaaGreatDoor

end Go.Proofs.YtdejpongekicdaaGreatDoor

/- BigF -/
namespace Go.Proofs.YtdejpongekicdaaGreatDoor

end Go.Proofs.YtdejpongekicdaaGreatDoor

/- BigG -/
namespace Go.Proofs.YtdejpongekicdaaGreatDoor

end Go.Proofs.YtdejpongekicdaaGreatDoor

/- BigH -/
namespace Go.Proofs.YtdejpongekicdaaGreatDoor

end Go.Proofs.YtdejpongekicdaaGreatDoor

/- BigS -/
namespace Go.Proofs.YtdejpongekicdaaGreatDoor

end Go.Proofs.YtdejpongekicdaaGreatDoor

/- BigT -/
namespace Go.Proofs.YtdejpongekicdaaGreatDoor

end Go.Proofs.YtdejpongekicdaaGreatDoor

/- Clip -/
namespace Go.Proofs.YtdejpongekicdaaGreatDoor

end Go.Proofs.YtdejpongekicdaaGreatDoor

/- LshN -/
namespace Go.Proofs.YtdejpongekicdaaGreatDoor

end Go.Proofs.YtdejpongekicdaaGreatDoor

/- BigV -/
namespace Go.Proofs.YtdejpongekicdaaGreatDoor

end Go.Proofs.YtdejpongekicdaaGreatDoor

/- BigY -/
namespace Go.Proofs.YtdejpongekicdaaGreatDoor

end Go.Proofs.YtdejpongekicdaaGreatDoor

/- PkW -/
namespace Go.Proofs.YtdejpongekicdaaGreatDoor
open Go.RowKit
set_option linter.unusedVariables false
set_option linter.unusedSimpArgs false
theorem OwnB.plain {base : Nat} {w : World} {v : Value} {b : List Int} (h : OwnB base w v b) : v = .slice none 0 0 ∨ ∃ a n c, v = .slice (some a) n c := by
  rcases h.2 with ⟨rfl, _⟩ | ⟨g', cap, cur, rfl, _⟩
  · exact .inl rfl
  · exact .inr ⟨_, _, _, rfl⟩
end Go.Proofs.YtdejpongekicdaaGreatDoor

/- PktE -/
namespace Go.Proofs.YtdejpongekicdaaGreatDoor
open Go.RowKit
set_option linter.unusedVariables false
set_option linter.unusedSimpArgs false
set_option maxHeartbeats 4000000
theorem p4 : (Tryz.prog.info? 77).map (·.size) = some 4 := by kernel_rfl
end Go.Proofs.YtdejpongekicdaaGreatDoor

/- AppL -/
namespace Go.Proofs.YtdejpongekicdaaGreatDoor
open Go.RowKit
set_option linter.unusedVariables false
set_option linter.unusedSimpArgs false
set_option maxHeartbeats 1000000
def Fam (base : Nat) (w : World) (vs : List (Value × List Int)) : Prop :=
  (∀ (i : Nat) (v : Value) (A : List Int), vs[i]? = some (v, A) → Own base w v A) ∧ ∀ (i j : Nat) (v : Value) (A : List Int) (u : Value) (B : List Int), vs[i]? = some (v, A) → vs[j]? = some (u, B) → i ≠ j → ∀ g, v.ownBlock = some g → u.ownBlock ≠ some g
theorem Fam.get {base : Nat} {w : World} {vs : List (Value × List Int)} (h : Fam base w vs) (i : Nat) {v : Value} {A : List Int} (hi : vs[i]? = some (v, A)) : Own base w v A := h.1 i v A hi
theorem Fam.keep {base : Nat} {w w' : World} {vs : List (Value × List Int)} (h : Fam base w vs) (g : w.grownBy w' none) : Fam base w' vs := ⟨fun i v A hi => (h.1 i v A hi).keep g, h.2⟩
theorem Fam.upd {base : Nat} {w w' : World} {vs : List (Value × List Int)} (h : Fam base w vs) (i : Nat) (v v' : Value) (A A' : List Int) (hi : vs[i]? = some (v, A)) (g : w.grownBy w' v.ownBlock) (o : Own base w' v' A') (n : ∀ g', v'.ownBlock = some g' → v.ownBlock = some g' ∨ w.heap.size ≤ g') : Fam base w' (vs.set i (v', A')) := by
  have hlen : i < vs.length := by
    rcases Nat.lt_or_ge i vs.length with h | h
    · exact h
    · rw [List.getElem?_eq_none h] at hi; cases hi
  have get : ∀ (j : Nat) (u : Value) (B : List Int), (vs.set i (v', A'))[j]? = some (u, B) → (j = i ∧ u = v' ∧ B = A') ∨ (j ≠ i ∧ vs[j]? = some (u, B)) := fun j u B hj => by
    by_cases e : j = i
    · subst e
      rw [List.getElem?_set_self hlen] at hj
      cases hj
      exact .inl ⟨rfl, rfl, rfl⟩
    · rw [List.getElem?_set_ne (Ne.symm e)] at hj
      exact .inr ⟨e, hj⟩
  have old : ∀ (j : Nat) (u : Value) (B : List Int), j ≠ i → vs[j]? = some (u, B) → Own base w' u B := fun j u B hj hu => by
    refine (h.1 j u B hu).kept g ?_
    rcases e : u.ownBlock with _ | b
    · exact .inl rfl
    · right
      intro e'
      exact h.2 j i u B v A hu hi hj b e e'.symm
  have new : ∀ (j : Nat) (u : Value) (B : List Int), j ≠ i → vs[j]? = some (u, B) → ∀ g, u.ownBlock = some g → v'.ownBlock ≠ some g := fun j u B hj hu k hk e => by
    rcases n k e with q | q
    · exact h.2 j i u B v A hu hi hj k hk q
    · have := ((h.1 j u B hu).lt k hk).2
      omega
  refine ⟨fun j u B hj => ?_, fun j k u B u2 B2 hj hk hjk g hg => ?_⟩
  · rcases get j u B hj with ⟨_, rfl, rfl⟩ | ⟨e, hu⟩
    · exact o
    · exact old j u B e hu
  · rcases get j u B hj with ⟨rfl, rfl, rfl⟩ | ⟨e, hu⟩ <;> rcases get k u2 B2 hk with ⟨rfl, rfl, rfl⟩ | ⟨e2, hu2⟩
    · exact absurd rfl hjk
    · intro q
      exact new k u2 B2 e2 hu2 g q hg
    · exact new j u B e hu g hg
    · exact h.2 j k u B u2 B2 hu hu2 hjk g hg
theorem Fam.put {base : Nat} {w w' : World} {vs : List (Value × List Int)} (h : Fam base w vs) (i : Nat) (v' : Value) (A' : List Int) (hi : vs[i]? = some (.slice none 0 0, [])) (g : w.grownBy w' none) (o : Own base w' v' A') (n : ∀ g', v'.ownBlock = some g' → w.heap.size ≤ g') : Fam base w' (vs.set i (v', A')) :=
  h.upd i _ v' [] A' hi g o (fun g' hg' => .inr (n g' hg'))
theorem Fam.nil {base : Nat} {w : World} {n : Nat} : Fam base w (List.replicate n (.slice none 0 0, [])) :=
  ⟨fun i v A hi => by
    have := (List.mem_replicate.1 (List.mem_of_getElem? hi)).2
    cases this
    exact Own_nil _ _, fun i j v A u B hi _ _ g hg => by
    have := (List.mem_replicate.1 (List.mem_of_getElem? hi)).2
    cases this
    cases hg⟩
end Go.Proofs.YtdejpongekicdaaGreatDoor

/- LpcA -/
namespace Go.Proofs.YtdejpongekicdaaGreatDoor

end Go.Proofs.YtdejpongekicdaaGreatDoor

/- SynA -/
namespace Go.Proofs.YtdejpongekicdaaGreatDoor

end Go.Proofs.YtdejpongekicdaaGreatDoor

/- SynB -/
namespace Go.Proofs.YtdejpongekicdaaGreatDoor

end Go.Proofs.YtdejpongekicdaaGreatDoor

/- SynC -/
namespace Go.Proofs.YtdejpongekicdaaGreatDoor
open Go.RowKit
set_option linter.unusedVariables false
set_option linter.unusedSimpArgs false
set_option maxHeartbeats 1000000
def MkM (w wr : World) (a q : List Int) (B : Nat) (rs : List Int) : Prop := Blk wr w.heap.size 95 a ∧ Blk wr (w.heap.size + 1) 50 q ∧ Blk wr (w.heap.size + 1 + 1) 50 (zeros 8) ∧ Blk wr B 3 rs ∧ w.heap.size + 1 + 1 < B ∧ w.grownBy wr none
theorem MkM.keep {w wr wr' : World} {a q : List Int} {B : Nat} {rs : List Int} (h : MkM w wr a q B rs) (g : wr.grownBy wr' none) : MkM w wr' a q B rs := ⟨h.1.keep g, h.2.1.keep g, h.2.2.1.keep g, h.2.2.2.1.keep g, h.2.2.2.2.1, grown_none h.2.2.2.2.2 g⟩
end Go.Proofs.YtdejpongekicdaaGreatDoor

/- Syn -/
namespace Go.Proofs.YtdejpongekicdaaGreatDoor

end Go.Proofs.YtdejpongekicdaaGreatDoor

/- BaseB -/
namespace Go.Proofs.YtdejpongekicdaaGreatDoor

end Go.Proofs.YtdejpongekicdaaGreatDoor

/- KeepL -/
namespace Go.Proofs.YtdejpongekicdaaGreatDoor

end Go.Proofs.YtdejpongekicdaaGreatDoor

/- Tabs -/
namespace Go.Proofs.YtdejpongekicdaaGreatDoor
open Go.ChangeShapes Go.WideShapes Go.ChangeAt Go.RowKit
set_option linter.unusedVariables false
theorem tabA_of {H : Type} {enc : TypeId × Value → H} {W : World} {base fuel : Nat} {sp : Nat → Bool} {held : Bool} {x : String} {g n : Nat} {t : TypeId} {zs : List Int} {cs : Array Value} {p : List MemPlace}
    (hg : Tryz.prog.globalNamed x = some g) (hv : W.var? Tryz.prog x = some cs) (ht : Tryz.prog.underlying t = some (.array n 3)) (hct : Tryz.prog.cellsOf t = n) (hd : DataW.trod enc Tryz.prog W base sp held fuel t cs.toList = some (Lib.tabData .i64 zs, p)) :
    TabA W g zs zs.length := fun i hi => by
  have e := Lib.cells_of_tab ht Tryz.underlying3 (show Tryz.prog.cellsOf 3 = 1 by kernel_rfl) hct hd
  have k : Lib.TabIs Tryz.prog W x .i64 zs := by unfold Lib.TabIs; rw [hv, ← e]
  exact k.cell hg i hi
end Go.Proofs.YtdejpongekicdaaGreatDoor

/- PkpA -/
namespace Go.Proofs.YtdejpongekicdaaGreatDoor
open Go.RowKit
set_option linter.unusedVariables false
set_option linter.unusedSimpArgs false
set_option maxHeartbeats 1000000
def OwnF (base : Nat) (w : World) (v : Value) (n : Nat) (A : List Value) : Prop := w.ownsRow base 124 3 v n A
theorem OwnF.keep {base : Nat} {w w' : World} {v : Value} {n : Nat} {A : List Value} (h : OwnF base w v n A) (g : w.grownBy w' none) : OwnF base w' v n A := World.ownsRow.kept h g (by rcases v.ownBlock with _ | b <;> simp)
theorem OwnF.lt {base : Nat} {w : World} {v : Value} {n : Nat} {A : List Value} (h : OwnF base w v n A) (g : Nat) (hg : v.ownBlock = some g) : base ≤ g ∧ g < w.heap.size := World.ownsRow.lt h g hg
theorem OwnF.base {b b' : Nat} {w : World} {v : Value} {n : Nat} {A : List Value} (h : OwnF b w v n A) (hb : b' ≤ b) : OwnF b' w v n A := by
  refine ⟨h.1, ?_⟩
  rcases h.2 with h | ⟨g, cap, cur, e, h1, h2⟩
  · exact .inl h
  · exact .inr ⟨g, cap, cur, e, by omega, h2⟩
def widq : List Int := [6, 6, 5, 5, 4, 4, 3, 3]
end Go.Proofs.YtdejpongekicdaaGreatDoor
