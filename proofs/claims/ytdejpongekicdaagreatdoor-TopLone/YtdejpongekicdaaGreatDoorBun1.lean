/- Texts put together: Grow, BigMath, Math, Ints, Opens, Arrs, Owns, BytL, LpcMath, LpcS, LevMath, PackMath, OpensB, VBlk, DualMath, PowMath, GainMath, SynthMath, Btr, PitchMath, MemMath, RegA, EndMath, SynW, ConX, ConW, BlkI, EncS, EraMath, QuantMath, PulMath, PlyMath, PikMath. -/
import Derived.Test.YtdejpongekicdaaGreatDoorProg
import Derived.WalkKit
import Derived.WalkSpells
import Derived.WalkLawsBesides
import Derived.RowKit3
import Derived.Laws.OwnMore
import Derived.ProofKit
import Derived.OpenShut
import Derived.SizedLaws
import Derived.Carry
import Derived.Deep.MidRow
import Derived.Laws.AppendOwnNone
import Derived.OrdersHeld
import Derived.RegionTactic
import Derived.Deep.RegionHeld
import Derived.Deep.CutRange
import Derived.Laws.CopyOwn
/- Grow -/
namespace Go.Proofs.YtdejpongekicdaaGreatDoor
open Go.RowKit
set_option linter.unusedVariables false
theorem hide {p : Prop} (h : p) : Hid p := h
theorem lt_of_some {w : World} {b : Nat} {o : Obj} (h : w.heap[b]? = some o) : b < w.heap.size := by
 by_cases hb : b < w.heap.size
 ·exact hb
 ·rw [Array.getElem?_eq_none (by omega)] at h; cases h
theorem cell_of_heap {w : World} {b : Nat} {cs : Array Value} {t : TypeId} {f : Nat × Nat} (h : w.heap[b]? = some (.cells cs t f)) (i : Nat) : w.cell? ⟨b, i, none⟩ = cs[i]? := by
 simp [World.cell?, h]
theorem frozen_of_heap {w : World} {b : Nat} {cs : Array Value} {t : TypeId} (h : w.heap[b]? = some (.cells cs t (0, 0))) (i : Nat) : w.frozen? ⟨b, i, none⟩ = false := by
 simp [World.frozen?, h]
theorem grown_refl (w : World) (r : Option Nat) : w.grownBy w r := ⟨rfl, rfl, rfl, Nat.le_refl _, fun _ _ _ => rfl⟩
theorem grown_alloc (w : World) (o : Obj) (r : Option Nat) : w.grownBy (w.alloc o) r := ⟨rfl, rfl, rfl, by simp, fun k hk _ => Below.heap_alloc _ _ _ hk⟩
theorem grown_trans {a b c : World} {r s : Option Nat} (h : a.grownBy b r) (k : b.grownBy c s) (t : Option Nat) (hr : ∀ i, r = some i → i < a.heap.size → t = some i) (hs : ∀ i, s = some i → i < a.heap.size → t = some i) : a.grownBy c t :=
 ⟨k.os.trans h.os, k.tape.trans h.tape, k.output.trans h.output, Nat.le_trans h.size k.size, fun i hi ht => by
  rw [k.block i (Nat.lt_of_lt_of_le hi h.size) (fun e => ht ((hs i e.symm hi).symm)), h.block i hi (fun e => ht ((hr i e.symm hi).symm))]⟩
theorem grown_none {a b c : World} (h : a.grownBy b none) (k : b.grownBy c none) : a.grownBy c none := grown_trans h k none (fun i e => by cases e) (fun i e => by cases e)
theorem grown_setCell (w : World) (a : Addr) (v : Value) : w.grownBy (w.setCell a v) (some a.block) := ⟨rfl, rfl, rfl, by simp [World.setCell], fun k _ h => Below.heap_setCell _ _ _ _ (fun e => h (by rw [e]))⟩
theorem grown_drew {a b : World} {r : Option Nat} (h : a.grownBy b r) : a.grownBy b.drew r := ⟨h.os, h.tape, h.output, h.size, h.block⟩
theorem heap_new (w : World) (o : Obj) : (w.alloc o).heap[w.heap.size]? = some o := by
 show (w.heap.push o)[w.heap.size]? = _
 simp
theorem grown_own {a b c : World} {i : Nat} (h : a.grownBy b none) (k : b.grownBy c (some i)) (hi : a.heap.size ≤ i) : a.grownBy c none :=
 grown_trans h k none (fun i e _ => by cases e) (fun j e hj => by cases e; omega)
theorem below_of_grown {w w' : World} (h : w.grownBy w' none) : Below w.heap.size w w' := ⟨h.os, h.tape, h.output, h.size, fun k hk => h.block k hk (by simp)⟩
theorem kept_heap {w w' : World} {o : Obj} (h : (w.alloc o).grownBy w' none) : w'.heap[w.heap.size]? = some o := by rw [h.block _ (lt_of_some (heap_new w _)) (by simp)]; exact heap_new w _
theorem grown_drewN' (w : World) (n : Nat) (r : Option Nat) : w.grownBy (w.drewN n) r := ⟨rfl, rfl, rfl, Nat.le_refl _, fun _ _ _ => rfl⟩
theorem grown_keep {w w' : World} (h : w.grownBy w' none) {a : Addr} {v : Value} (hc : w.cell? a = some v) : w'.cell? a = some v := by
 have hb : a.block < w.heap.size := by
  rcases Nat.lt_or_ge a.block w.heap.size with g | g
  ·exact g
  ·unfold World.cell? at hc
   rw [Array.getElem?_eq_none g] at hc
   simp at hc
 rw [World.cell?_of_block (w := w) (h.block a.block hb (by simp))]; exact hc
theorem sL {α : Type} : (∀ (l : List α) (i : Nat) (a : α), l.toArray.setIfInBounds i a = (l.set i a).toArray) ∧ (∀ (a b : α) (l : List α), (a :: l).set 0 b = b :: l) ∧ (∀ (a b : α) (l : List α) (n : Nat), (a :: l).set (n + 1) b = a :: l.set n b) ∧ (∀ (xs : List α) (i : Nat) (h : i < xs.toArray.size), xs.toArray[i] = xs[i]'(by simpa using h)) ∧ (∀ (a : α) (l : List α) (h : 0 < (a :: l).length), (a :: l)[0] = a) ∧ (∀ (a : α) (l : List α) (i : Nat) (h : i + 1 < (a :: l).length), (a :: l)[i + 1] = l[i]'(by simpa using h)) :=
 ⟨fun _ _ _ => List.setIfInBounds_toArray .., fun _ _ _ => List.set_cons_zero .., fun _ _ _ _ => List.set_cons_succ .., fun _ _ _ => List.getElem_toArray .., fun _ _ _ => List.getElem_cons_zero .., fun _ _ _ _ => List.getElem_cons_succ ..⟩
end Go.Proofs.YtdejpongekicdaaGreatDoor

/- BigMath -/
namespace Go.Proofs.YtdejpongekicdaaGreatDoor
def nth (l : List Int) (i : Nat) : Int := l.getD i 0
def P (k : Nat) : Int := 4294967296 ^ k
def valTo (l : List Int) : Nat → Int
 | 0 => 0
 | k + 1 => valTo l k + nth l k * P k
def val (l : List Int) : Int := valTo l l.length
theorem getD_out (l : List Int) (k : Nat) (h : l.length ≤ k) : nth l k = 0 := by simp [nth, List.getD, List.getElem?_eq_none h]
def Bits (z : Int) (n : Nat) : Prop := z < 2 ^ n ∧ (z = 0 → n = 0) ∧ (0 < z → 1 ≤ n ∧ 2 ^ (n - 1) ≤ z)
end Go.Proofs.YtdejpongekicdaaGreatDoor

/- Math -/
namespace Go.Proofs.YtdejpongekicdaaGreatDoor
open Go.RowKit
def c16 (x : Int) : Int := if x < -32768 then -32768 else if 32767 < x then 32767 else x
def o16 (x : Int) : Bool := c16 x != x
def spotN (v n : Int) : Int := v % n
theorem c16_bd (x : Int) : -32768 ≤ c16 x ∧ c16 x ≤ 32767 := by unfold c16; split <;> (try split) <;> omega
theorem c16_id (x : Int) (h : -32768 ≤ x) (h' : x ≤ 32767) : c16 x = x := by unfold c16; split <;> (try split) <;> omega
theorem stop16 (x : Int) : (if 32767 < (if x < -32768 then -32768 else x) then 32767 else (if x < -32768 then -32768 else x)) = c16 x := by
 unfold c16; split <;> split <;> (try split) <;> omega
theorem mul16_bd (a b : Int) (h1 : -32768 ≤ a) (h2 : a ≤ 32767) (h3 : -32768 ≤ b) (h4 : b ≤ 32767) : -1073709056 ≤ a * b ∧ a * b ≤ 1073741824 := by
 have e1 : 0 ≤ (32767 - a) * (b + 32768) := Int.mul_nonneg (by omega) (by omega)
 have e2 : 0 ≤ (a + 32768) * (32767 - b) := Int.mul_nonneg (by omega) (by omega)
 have e3 : 0 ≤ (a + 32768) * (b + 32768) := Int.mul_nonneg (by omega) (by omega)
 have e4 : 0 ≤ (32767 - a) * (32767 - b) := Int.mul_nonneg (by omega) (by omega)
 simp only [Int.sub_mul, Int.add_mul, Int.mul_add, Int.mul_sub] at e1 e2 e3 e4
 omega
end Go.Proofs.YtdejpongekicdaaGreatDoor

/- Ints -/
namespace Go.Proofs.YtdejpongekicdaaGreatDoor
open Go.RowKit
set_option linter.unusedVariables false
set_option linter.unusedSimpArgs false
set_option maxHeartbeats 1000000
def Ints (w : World) (v : Value) (l : List Int) : Prop :=
 ∃ (ad : Option Addr) (c : Nat), v = .slice ad l.length c ∧ l.length ≤ c ∧ (0 < l.length → ∃ a, ad = some a ∧ ∀ i, i < l.length → w.cell? (a.add i) = some (.int .i64 (nth l i)))
def rightB (l : List Int) : Bool := l.all fun x => decide (-32768 ≤ x) && decide (x ≤ 32767)
theorem rightB_iff (l : List Int) : rightB l = true ↔ ∀ i, i < l.length → -32768 ≤ nth l i ∧ nth l i ≤ 32767 := by
 unfold rightB
 rw [List.all_eq_true]
 constructor
 ·intro h i hi
  have := h l[i] (List.getElem_mem hi)
  simp only [Bool.and_eq_true, decide_eq_true_eq] at this
  simpa [nth, List.getD, hi] using this
 ·intro h x hx
  obtain ⟨i, hi, rfl⟩ := List.getElem_of_mem hx
  have := h i hi
  simp only [nth, List.getD, List.getElem?_eq_getElem hi, Option.getD_some] at this
  simp [this]
def arrI (l : List Int) : Array Value := (l.map (Value.int .i64)).toArray
theorem arrI_get (l : List Int) (i : Nat) (h : i < l.length) : (arrI l)[i]? = some (.int .i64 (nth l i)) := by
 simp [arrI, nth, List.getD, h]
theorem arrI_set (l : List Int) (k : Nat) (v : Int) : (arrI l).setIfInBounds k (.int .i64 v) = arrI (l.set k v) := by
 simp [arrI, List.map_set]
theorem infoI64 : (Tryz.prog.info? 3).map (fun i => (i.zero, i.size, i.bytes)) = some (some (.int .i64 0), 1, 8) := by kernel_rfl
theorem made_arrI (n : Nat) : madeCells #[.int .i64 0] n = arrI (List.replicate n 0) := by
 unfold arrI madeCells
 apply Array.ext
 ·simp
 ·intro i h1 h2
  simp [Nat.mod_one]
theorem make_int (z : Int) (h0 : 0 ≤ z) (h1 : z ≤ 35184372088832) (u : World) :
  (Instr.makeSlice 26 (.int .i64 z) (.int .i64 z)).run Tryz.prog u = .ok (.slice (some ⟨u.heap.size, 0, none⟩) z.toNat z.toNat) (u.alloc (.cells (arrI (List.replicate z.toNat 0)) 3)) := by
 obtain ⟨i0, hi, hz0, hz1, hz2⟩ := info_parts infoI64
 have h := run_make (P := Tryz.prog) u 26 3 i0 (.int .i64 0) Tryz.underlying26 hi hz0 .i64 .i64 z z h0 (Int.le_refl _) (by rw [hz2]; omega) (by omega)
 rw [← made_arrI]
 simpa [hz1, Value.cells] using h
theorem Ints_keep {w w' : World} {v : Value} {l : List Int} (h : Ints w v l) (g : w.grownBy w' none) : Ints w' v l := by
 obtain ⟨ad, c, rfl, hc, hcell⟩ := h
 refine ⟨ad, c, rfl, hc, fun h => ?_⟩
 obtain ⟨a, rfl, hv⟩ := hcell h
 exact ⟨a, rfl, fun i hi => grown_keep g (hv i hi)⟩
theorem Ints_of_owns {w : World} {base : Nat} {v : Value} {l : List Int} (h : w.ownsRow base 3 1 v l.length (l.map (Value.int .i64))) : Ints w v l := by
 obtain ⟨h1, h2⟩ := h
 rcases h2 with ⟨h2, h3⟩ | ⟨g, cap, cur, h2, _, h4, h5, _, h7, h8⟩
 ·exact ⟨none, 0, by rw [h2, h3], by omega, fun h => by omega⟩
 ·refine ⟨some ⟨g, 0, none⟩, cap, h2, h5, fun _ => ⟨_, rfl, fun i hi => ?_⟩⟩
  have e : (cur.toList.take (l.length * 1))[i]? = (l.map (Value.int .i64))[i]? := by rw [h8]
  rw [List.getElem?_take, if_pos (by omega), Array.getElem?_toList] at e
  have ea : (⟨g, 0, none⟩ : Addr).add i = ⟨g, i, none⟩ := by unfold Addr.add; split <;> simp_all
  rw [ea, cell_of_heap h4, e]
  simp [nth, List.getD, hi]
theorem heap_setCell {w : World} {b k : Nat} {cs : Array Value} {t : TypeId} (h : w.heap[b]? = some (.cells cs t (0, 0))) (v : Value) :
  (w.setCell ⟨b, k, none⟩ v).heap[b]? = some (.cells (cs.setIfInBounds k v) t (0, 0)) := by
 simp only [World.setCell, Array.getElem?_modify, h]
 simp
theorem ints_pair {w : World} {b : Nat} {cs : Array Value} {t : TypeId} (h : w.heap[b]? = some (.cells cs t (0, 0))) (o : Nat) (p q : Int) (h1 : cs[o]? = some (.int .i64 p)) (h2 : cs[o + 1]? = some (.int .i64 q)) : Ints w (.slice (some ⟨b, o, none⟩) 2 2) [p, q] := by
 refine ⟨some ⟨b, o, none⟩, 2, rfl, Nat.le_refl _, fun _ => ⟨_, rfl, fun i hi => ?_⟩⟩
 have ea : (⟨b, o, none⟩ : Addr).add i = ⟨b, o + i, none⟩ := by unfold Addr.add; split <;> simp_all
 rw [ea, cell_of_heap h]
 match i, hi with
 | 0, _ => exact h1
 | 1, _ => exact h2
def hiS (x0 x1 x2 y1 y2 : Int) : Int := c16 ((3798 * (x0 - 2 * x1 + x2) + 7807 * y1 - 3733 * y2 + 2048) / 4096)
def hiY (xs : List Int) (ys0 : List Int) : Nat → List Int
 | 0 => ys0
 | i + 1 => hiY xs ys0 i ++ [hiS (nth xs (i + 2)) (nth xs (i + 1)) (nth xs i) (nth (hiY xs ys0 i) (i + 1)) (nth (hiY xs ys0 i) i)]
theorem hiY_len (xs : List Int) (y0 y1 : Int) : ∀ k, (hiY xs [y1, y0] k).length = k + 2
 | 0 => rfl
 | k + 1 => by
  show (hiY xs [y1, y0] k ++ [_]).length = _
  rw [List.length_append, hiY_len xs y0 y1 k]; rfl
theorem xs_right (x0 x1 : Int) (l : List Int) (hx : rightB [x0, x1] = true) (hr : rightB l = true) (j : Nat) : -32768 ≤ nth ([x1, x0] ++ l) j ∧ nth ([x1, x0] ++ l) j ≤ 32767 := by
 have h0 := (rightB_iff _).1 hx 0 (by simp)
 have h1 := (rightB_iff _).1 hx 1 (by simp)
 match j with
 | 0 => exact h1
 | 1 => exact h0
 | j + 2 =>
  show -32768 ≤ nth l j ∧ nth l j ≤ 32767
  by_cases hj : j < l.length
  ·exact (rightB_iff _).1 hr j hj
  ·rw [getD_out l j (by omega)]; omega
theorem hi_right (xs : List Int) (y0 y1 : Int) (hy : rightB [y0, y1] = true) : ∀ k j, -32768 ≤ nth (hiY xs [y1, y0] k) j ∧ nth (hiY xs [y1, y0] k) j ≤ 32767
 | 0, j => by
  have h0 := (rightB_iff _).1 hy 0 (by simp)
  have h1 := (rightB_iff _).1 hy 1 (by simp)
  match j with
  | 0 => exact h1
  | 1 => exact h0
  | j + 2 => show -32768 ≤ nth [] j ∧ nth [] j ≤ 32767; rw [getD_out [] j (by simp)]; omega
 | k + 1, j => by
  have ih := hi_right xs y0 y1 hy k
  have hlen := hiY_len xs y0 y1 k
  show -32768 ≤ nth (hiY xs [y1, y0] k ++ [_]) j ∧ nth (hiY xs [y1, y0] k ++ [_]) j ≤ 32767
  generalize hv : hiS (nth xs (k + 2)) (nth xs (k + 1)) (nth xs k) (nth (hiY xs [y1, y0] k) (k + 1)) (nth (hiY xs [y1, y0] k) k) = v
  have hvb : -32768 ≤ v ∧ v ≤ 32767 := by rw [← hv]; exact c16_bd _
  generalize hiY xs [y1, y0] k = L at *
  rcases Nat.lt_trichotomy j L.length with h | h | h
  ·have : nth (L ++ [v]) j = nth L j := by simp [nth, List.getD, List.getElem?_append, h]
   rw [this]; exact ih j
  ·have : nth (L ++ [v]) j = v := by subst h; simp [nth, List.getD]
   rw [this]; exact hvb
  ·rw [getD_out _ j (by simp; omega)]; omega
theorem wrapI (n : Int) (h0 : -9223372036854775808 ≤ n) (h1 : n ≤ 9223372036854775807) : IntKind.i64.wrap n = n := by
 show (if (true && decide (n % 18446744073709551616 ≥ 9223372036854775808)) = true then n % 18446744073709551616 - 18446744073709551616 else n % 18446744073709551616) = n
 split
 ·rename_i hh
  simp at hh
  omega
 ·rename_i hh
  simp at hh
  omega
def In64 (l : List Int) : Prop := ∀ i, -9223372036854775808 ≤ nth l i ∧ nth l i ≤ 9223372036854775807
end Go.Proofs.YtdejpongekicdaaGreatDoor

/- Opens -/
namespace Go.Proofs.YtdejpongekicdaaGreatDoor
set_option maxRecDepth 100000
open Go.ChangeShapes Go.WideShapes Go.ChangeAt Go.RowKit
set_option linter.unusedVariables false
set_option linter.unusedSimpArgs false
theorem o_own : ownKnob Tryz.prog.godebug = none := by kernel_rfl
theorem o_laidOut : laidOutB Tryz.prog = true := by kernel_rfl
theorem o_cellsInt : Tryz.prog.cellsOf 3 = 1 := by kernel_rfl
theorem o_bytesInt : Tryz.prog.bytesOf 3 = 8 := by kernel_rfl
end Go.Proofs.YtdejpongekicdaaGreatDoor

/- Arrs -/
namespace Go.Proofs.YtdejpongekicdaaGreatDoor
open Go.RowKit
set_option linter.unusedVariables false
set_option linter.unusedSimpArgs false
def Blk (w : World) (b : Nat) (T : TypeId) (rs : List Int) : Prop := w.heap[b]? = some (.cells (arrI rs) T (0, 0))
theorem Blk.cell {w : World} {b : Nat} {T : TypeId} {rs : List Int} (h : Blk w b T rs) (i : Nat) (hi : i < rs.length) : w.cell? ⟨b, i, none⟩ = some (.int .i64 (nth rs i)) := (cell_of_heap h i).trans (arrI_get rs i hi)
theorem Blk.free {w : World} {b : Nat} {T : TypeId} {rs : List Int} (h : Blk w b T rs) (i : Nat) : w.frozen? ⟨b, i, none⟩ = false := frozen_of_heap h i
theorem Blk.lt {w : World} {b : Nat} {T : TypeId} {rs : List Int} (h : Blk w b T rs) : b < w.heap.size := lt_of_some h
theorem Blk.keep {w w' : World} {b : Nat} {T : TypeId} {rs : List Int} (h : Blk w b T rs) (g : w.grownBy w' none) : Blk w' b T rs := (g.block _ (lt_of_some h) (by simp)).trans h
theorem Blk.keepBut {w w' : World} {b : Nat} {T : TypeId} {rs : List Int} {r : Nat} (h : Blk w b T rs) (g : w.grownBy w' (some r)) (hr : b ≠ r) : Blk w' b T rs := (g.block _ (lt_of_some h) (by simpa using hr)).trans h
theorem Blk.new (w : World) (T : TypeId) (rs : List Int) : Blk (w.alloc (.cells (arrI rs) T)) w.heap.size T rs := heap_new w _
theorem Blk.new1 (w : World) (o : Obj) (T : TypeId) (rs : List Int) : Blk ((w.alloc o).alloc (.cells (arrI rs) T)) (w.heap.size + 1) T rs := by simpa using Blk.new (w.alloc o) T rs
theorem Blk.set {w : World} {b : Nat} {T : TypeId} {rs : List Int} (h : Blk w b T rs) (k : Nat) (z : Int) : Blk (w.setCell ⟨b, k, none⟩ (.int .i64 z)) b T (rs.set k z) := by
 unfold Blk
 rw [heap_setCell h, arrI_set]
theorem Blk.range {w : World} {b : Nat} {T : TypeId} {rs : List Int} (h : Blk w b T rs) : w.rangeAt b 0 (rs.map (Value.int .i64)) := fun j v hv => by
 rw [Nat.zero_add, cell_of_heap h]
 simpa [arrI] using hv
theorem Blk.there {w : World} {b : Nat} {T : TypeId} {rs : List Int} (h : Blk w b T rs) : w.there b 0 rs.length := fun j hj => by
 rw [Nat.zero_add]
 exact ⟨by rw [h.cell j hj]; rfl, h.free j⟩
theorem load_arr {w : World} {b : Nat} {T : TypeId} {rs : List Int} (h : Blk w b T rs) (d : TypeDesc) (hu : Tryz.prog.underlying T = some d) (hd : d.isRow = true) (hi : (Tryz.prog.info? T).map (·.size) = some rs.length) :
  Sem.run Tryz.prog (Instr.loadAt T (.pointer (some ⟨b, 0, none⟩))) w = .ok (.agg (arrI rs)) w :=
 run_loadAt_mid w b 0 T (rs.map (Value.int .i64)) d h.range hu hd (by simpa using hi)
theorem loadVar_arr {w : World} {b : Nat} {T : TypeId} {rs : List Int} (h : Blk w b T rs) (d : TypeDesc) (hu : Tryz.prog.underlying T = some d) (hd : d.isRow = true) (hi : (Tryz.prog.info? T).map (·.size) = some rs.length) :
  Sem.run Tryz.prog (loadVar T ⟨b, 0, none⟩) w = .ok (.agg (arrI rs)) w :=
 run_loadVar_mid w b 0 T (rs.map (Value.int .i64)) d h.range hu hd (by simpa using hi)
def putArr (w : World) (b : Nat) (rs : List Int) : World := w.setCells b 0 (rs.map (Value.int .i64))
theorem ones_arrI (rs : List Int) : (arrI rs).all (·.oneCell') = true := by
 apply all_oneCell_toArray
 intro v hv
 obtain ⟨x, _, rfl⟩ := List.mem_map.1 hv
 rfl
theorem heap_setCells (b : Nat) (T : TypeId) : ∀ (vs : List Value) (o : Nat) (w : World) (cs : Array Value), w.heap[b]? = some (.cells cs T (0, 0)) → o + vs.length ≤ cs.size →
  ∃ cs', (w.setCells b o vs).heap[b]? = some (.cells cs' T (0, 0)) ∧ cs'.size = cs.size ∧ (∀ i, i < o → cs'[i]? = cs[i]?) ∧ (∀ i, i < vs.length → cs'[o + i]? = vs[i]?) ∧ w.grownBy (w.setCells b o vs) (some b)
 | [], o, w, cs, h, _ => ⟨cs, h, rfl, fun _ _ => rfl, fun i hi => by simp at hi, grown_refl w _⟩
 | v :: vs, o, w, cs, h, hl => by
  simp only [List.length_cons] at hl
  have h1 := heap_setCell (k := o) h v
  obtain ⟨cs', c1, c2, c3, c4, c5⟩ := heap_setCells b T vs (o + 1) (w.setCell ⟨b, o, none⟩ v) (cs.setIfInBounds o v) h1 (by simp; omega)
  refine ⟨cs', c1, by simpa using c2, fun i hi => ?_, fun i hi => ?_, grown_trans (grown_setCell w ⟨b, o, none⟩ v) c5 (some b) (fun i e _ => e) (fun i e _ => e)⟩
  ·rw [c3 i (by omega)]
   simp [Array.getElem?_setIfInBounds, show ¬ o = i by omega]
  ·match i, hi with
   | 0, _ =>
    rw [Nat.add_zero, c3 o (by omega)]
    simp [Array.getElem?_setIfInBounds, show o < cs.size by omega]
   | i + 1, hi =>
    have := c4 i (by simp at hi; omega)
    rw [show o + (i + 1) = o + 1 + i by omega, this]
    simp
theorem put_arr {w : World} {b : Nat} {T : TypeId} {rs rs' : List Int} (h : Blk w b T rs) (hl : rs'.length = rs.length) : Blk (putArr w b rs') b T rs' ∧ w.grownBy (putArr w b rs') (some b) := by
 obtain ⟨cs', c1, c2, _, c4, c5⟩ := heap_setCells b T (rs'.map (Value.int .i64)) 0 w (arrI rs) h (by simp [arrI, hl])
 refine ⟨?_, c5⟩
 unfold Blk putArr
 rw [c1]
 have : cs' = arrI rs' := by
  apply Array.ext_getElem?
  intro i
  by_cases hi : i < rs'.length
  ·have := c4 i (by simpa using hi)
   rw [Nat.zero_add] at this
   rw [this]; simp [arrI]
  ·rw [Array.getElem?_eq_none (by rw [c2]; simp [arrI]; omega), Array.getElem?_eq_none (by simp [arrI]; omega)]
 rw [this]
theorem wpList_load_arr {ops : Array Oper} {rest : List Oper} {op : Oper} {a : Act} {w : World} {Q : Exit → Act → World → Prop} (hgd : op.guard = none) (T : TypeId) (x : Operand) (ho : op.op = .load T x)
  (b : Nat) (hx : a.eval x = .pointer (some ⟨b, 0, none⟩)) (rs : List Int) (h : Blk w b T rs) (d : TypeDesc) (hu : Tryz.prog.underlying T = some d) (hd : d.isRow = true) (hi : (Tryz.prog.info? T).map (·.size) = some rs.length)
  (k : wpList Tryz.prog ops Q rest (a.put op.dst (.agg (arrI rs))) w) : wpList Tryz.prog ops Q (op :: rest) a w :=
 wpList_load_mid hgd T x ho b 0 hx (rs.map (Value.int .i64)) d h.range hu hd (by simpa using hi) k
theorem wpList_store_arr {ops : Array Oper} {rest : List Oper} {op : Oper} {a : Act} {w : World} {Q : Exit → Act → World → Prop} (hgd : op.guard = none) (T : TypeId) (x y : Operand) (ho : op.op = .store T x y)
  (b : Nat) (rs rs' : List Int) (hx : a.eval x = .pointer (some ⟨b, 0, none⟩)) (hy : a.eval y = .agg (arrI rs')) (h : Blk w b T rs) (hl : rs'.length = rs.length) (hi : (Tryz.prog.info? T).map (·.size) = some rs.length)
  (k : wpList Tryz.prog ops Q rest (a.put op.dst undef) (putArr w b rs')) : wpList Tryz.prog ops Q (op :: rest) a w :=
 wpList_store_mid hgd T x y ho b 0 (arrI rs') hx hy (by rw [show (arrI rs').size = rs.length by simp [arrI, hl]]; exact h.there) (by simpa [arrI, hl] using hi) (ones_arrI rs') (by simpa [putArr, arrI] using k)
def zeros (n : Nat) : List Int := List.replicate n 0
theorem zeros_len (n : Nat) : (zeros n).length = n := by simp [zeros]
theorem zeros_nth (n i : Nat) : nth (zeros n) i = 0 := by simp [zeros, nth, List.getD, List.getElem?_replicate]; split <;> rfl
theorem zero_arr {T : TypeId} {n : Nat} (hz : (Tryz.prog.info? T).bind (·.zero) = some (.agg (arrI (zeros n)))) (w : World) : Sem.run Tryz.prog (zeroValue T) w = .ok (.agg (arrI (zeros n))) w := by
 cases hq : Tryz.prog.info? T with
 | none => simp [hq] at hz
 | some i =>
  have hi : i.zero = some (.agg (arrI (zeros n))) := by simpa [hq] using hz
  simp [zeroValue, typeInfo, hq, hi]
theorem index_arr {T : TypeId} {n : Nat} (rs : List Int) (hu : Tryz.prog.underlying T = some (.array n 3)) (k : Nat) (hk : k < rs.length) (hn : rs.length = n) (w : World) : Sem.run Tryz.prog (Instr.index T (.agg (arrI rs)) (.int .i64 k)) w = .ok (.int .i64 (nth rs k)) w := by
 have hg := arrI_get rs k hk
 have hb : (0 : Int) ≤ k ∧ (k : Int) < n := by omega
 obtain ⟨i0, hi, hz0, hz1, hz2⟩ := info_parts infoI64
 simp [Instr.index, run_underlying hu, asIntOf, hb, go_sem, sizeOf, typeInfo, hi, hz1, part, isAgg, run_underlying Tryz.underlying3, hg]
 intro h; omega
theorem part_int (rs : List Int) (k : Nat) (hk : k < rs.length) (w : World) : Sem.run Tryz.prog (part 3 (arrI rs) k) w = .ok (.int .i64 (nth rs k)) w := by
 have hg := arrI_get rs k hk
 simp [part, isAgg, run_underlying Tryz.underlying3, hg]
theorem eq_arr {T : TypeId} {n : Nat} (rs : List Int) (hu : Tryz.prog.underlying T = some (.array n 3)) (hn : rs.length = n) (d : Nat) (w : World) : Sem.run Tryz.prog (Op.equalIn (d + 1 + 1) T (.agg (arrI rs)) (.agg (arrI rs))) w = .ok true w := by
 obtain ⟨i0, hi, hz0, hz1, hz2⟩ := info_parts infoI64
 have hE : ∀ a u, Sem.run Tryz.prog (Op.equalIn (d + 1) 3 (.int .i64 a) (.int .i64 a)) u = .ok true u := fun a u => by
  rw [run_equalIn_int u d 3 .i64 .i64 a a Tryz.underlying3]; simp
 have hL : ∀ L : List Nat, (∀ i ∈ L, i < n) → ∀ u, Sem.run Tryz.prog (forIn (m := Sem) L ((none : Option Bool), PUnit.unit) fun i _ => do
   if (!(← Op.equalIn (d + 1) 3 (← part 3 (arrI rs) (i * 1)) (← part 3 (arrI rs) (i * 1)))) = true then pure (ForInStep.done (some false, PUnit.unit)) else pure (ForInStep.yield (none, PUnit.unit))) u = .ok (none, PUnit.unit) u := by
  intro L
  induction L with
  | nil => intro _ u; simp
  | cons i L ih =>
   intro h u
   have hp := part_int rs i (by have := h i (List.mem_cons_self ..); omega)
   simp only [List.forIn_cons, Sem.run_bind, Nat.mul_one, hp, Result.andThen_ok, hE, Bool.not_true, Bool.false_eq_true, if_false, Sem.run_pure]
   exact (by simpa using ih (fun j hj => h j (List.mem_cons_of_mem _ hj)) u)
 rw [Op.equalIn]
 simp only [Sem.run_bind, run_underlying hu, Result.andThen_ok, sizeOf, typeInfo, run_program, hi, Sem.run_pure, hz1]
 rw [Std.Legacy.Range.forIn_eq_forIn_range']
 have := hL (List.range' [:n].start [:n].size [:n].step) (fun i hi => by simp [Std.Legacy.Range.size] at hi; omega) w
 rw [this]
 rfl
theorem make_zeros (n : Nat) (h1 : n ≤ 35184372088832) (u : World) :
  (Instr.makeSlice 26 (.int .i64 n) (.int .i64 n)).run Tryz.prog u = .ok (.slice (some ⟨u.heap.size, 0, none⟩) n n) (u.alloc (.cells (arrI (zeros n)) 3)) := by
 have := make_int n (by omega) (by omega) u
 simpa [zeros] using this
theorem fresh_arr (w : World) (T : TypeId) (n : Nat) (L : List Int) (hL : L.length = n) : Blk (w.alloc (.cells (arrI (zeros n)) T)) w.heap.size T (zeros n) ∧ Blk (putArr (w.alloc (.cells (arrI (zeros n)) T)) w.heap.size L) w.heap.size T L ∧ w.grownBy (putArr (w.alloc (.cells (arrI (zeros n)) T)) w.heap.size L) none := by
 have hB := Blk.new w T (zeros n)
 have PU := put_arr (rs' := L) hB (by rw [hL, zeros_len])
 exact ⟨hB, PU.1, grown_own (grown_alloc _ _ none) PU.2 (Nat.le_refl _)⟩
theorem wpList_load_arrG {ops : Array Oper} {rest : List Oper} {op : Oper} {a : Act} {w : World} {Q : Exit → Act → World → Prop} (hgd : Region.wanted op (yielded ops a.tmps) = true) (T : TypeId) (x : Operand) (ho : op.op = .load T x)
  (b : Nat) (hx : a.eval x = .pointer (some ⟨b, 0, none⟩)) (rs : List Int) (h : Blk w b T rs) (d : TypeDesc) (hu : Tryz.prog.underlying T = some d) (hd : d.isRow = true) (hi : (Tryz.prog.info? T).map (·.size) = some rs.length)
  (k : wpList Tryz.prog ops Q rest (a.put op.dst (.agg (arrI rs))) w) : wpList Tryz.prog ops Q (op :: rest) a w := by
 refine wpList_step fun K hK => ?_
 rw [if_pos hgd]
 exact wp_load_mid T x ho b 0 hx (rs.map (Value.int .i64)) d h.range hu hd (by simpa using hi) (hK _ _ k)
end Go.Proofs.YtdejpongekicdaaGreatDoor

/- Owns -/
namespace Go.Proofs.YtdejpongekicdaaGreatDoor
open Go.RowKit
set_option linter.unusedVariables false
set_option linter.unusedSimpArgs false
set_option maxHeartbeats 1000000
def Own (base : Nat) (w : World) (v : Value) (l : List Int) : Prop := w.ownsRow base 3 1 v l.length (l.map (Value.int .i64))
theorem Own.ints {base : Nat} {w : World} {v : Value} {l : List Int} (h : Own base w v l) : Ints w v l := Ints_of_owns h
theorem Own.keep {base : Nat} {w w' : World} {v : Value} {l : List Int} (h : Own base w v l) (g : w.grownBy w' none) : Own base w' v l :=
 h.kept g (by rcases v.ownBlock with _ | b <;> simp)
theorem Own.keepBut {base : Nat} {w w' : World} {v : Value} {l : List Int} {b : Nat} {cs : Array Value} {t : TypeId} {f : Nat × Nat} (h : Own base w v l) (g : w.grownBy w' (some b)) (hb : w.heap[b]? = some (.cells cs t f)) (ht : t ≠ 3) : Own base w' v l := by
 refine h.kept g ?_
 rcases h.2 with ⟨rfl, _⟩ | ⟨g', cap, cur, rfl, _, hg, _⟩
 ·exact .inl rfl
 ·right
  intro e
  simp [Value.ownBlock] at e
  subst e
  rw [hg] at hb
  simp at hb
  exact ht hb.2.1.symm
theorem Own.base {b b' : Nat} {w : World} {v : Value} {l : List Int} (h : Own b w v l) (hb : b' ≤ b) : Own b' w v l := by
 refine ⟨h.1, ?_⟩
 rcases h.2 with h | ⟨g, cap, cur, e, h1, h2⟩
 ·exact .inl h
 ·exact .inr ⟨g, cap, cur, e, by omega, h2⟩
theorem Own_nil (b : Nat) (w : World) : Own b w (.slice none 0 0) [] := World.ownsRow_nil _ _ _ _
def Shp (v : Value) (l : List Int) : Prop := v = .slice none 0 0 ∨ ∃ a c, v = .slice (some a) l.length c
theorem ints_some {W : World} {a : Addr} {n c : Nat} {l : List Int} (h : Ints W (.slice (some a) n c) l) : n = l.length ∧ n ≤ c ∧ ∀ i, i < l.length → W.cell? (a.add i) = some (.int .i64 (nth l i)) := by
 obtain ⟨ad, c', e, h1, h2⟩ := h
 simp only [Value.slice.injEq] at e
 obtain ⟨rfl, rfl, rfl⟩ := e
 refine ⟨rfl, h1, fun i hi => ?_⟩
 obtain ⟨a', e', h3⟩ := h2 (by omega)
 cases e'
 exact h3 i hi
theorem ints_none {W : World} {l : List Int} (h : Ints W (.slice none 0 0) l) : l = [] := by
 obtain ⟨ad, c, e, _, _⟩ := h
 simp only [Value.slice.injEq] at e
 exact List.length_eq_zero_iff.1 e.2.1.symm
theorem Ints_nil (W : World) : Ints W (.slice none 0 0) [] := ⟨none, 0, rfl, Nat.le_refl _, fun h => by simp at h⟩
theorem slice_h {W : World} {v : Value} {l : List Int} (h : Ints W v l) (hsh : Shp v l) (k : Nat) (hk : k ≤ l.length) :
  ∃ vA, (∀ u, Sem.run Tryz.prog (Instr.slice 26 v none (some (.int .i64 k)) none) u = .ok vA u) ∧ Ints W vA (l.take k) ∧ Shp vA (l.take k) := by
 obtain ⟨i0, hi, hz0, hz1, hz2⟩ := info_parts infoI64
 rcases hsh with rfl | ⟨a, c, rfl⟩
 ·obtain rfl := ints_none h
  obtain rfl : k = 0 := by simpa using hk
  exact ⟨.slice none 0 0, fun u => by simp [go_sem, sliced], Ints_nil W, .inl rfl⟩
 ·obtain ⟨_, hc, hcell⟩ := ints_some h
  have e : (l.take k).length = k := by simp; omega
  refine ⟨.slice (some a) k c, fun u => ?_, ⟨some a, c, by rw [e], by rw [e]; omega, fun _ => ⟨a, rfl, fun i hi' => ?_⟩⟩, .inr ⟨a, c, by rw [e]⟩⟩
  ·rw [run_slice_h (P := Tryz.prog) u 26 (some a) l.length c (by kernel_rfl) .i64 k (by omega) (by omega)]
   simp [go_sem, sliced]
  ·rw [e] at hi'
   rw [hcell i (by omega)]
   simp [nth, List.getD, List.getElem?_take, hi']
theorem slice_l {W : World} {v : Value} {l : List Int} (h : Ints W v l) (hsh : Shp v l) (k : Nat) (hk : k ≤ l.length) :
  ∃ vB, (∀ u, Sem.run Tryz.prog (Instr.slice 26 v (some (.int .i64 k)) none none) u = .ok vB u) ∧ Ints W vB (l.drop k) ∧ Shp vB (l.drop k) := by
 rcases hsh with rfl | ⟨a, c, rfl⟩
 ·obtain rfl := ints_none h
  obtain rfl : k = 0 := by simpa using hk
  exact ⟨.slice none 0 0, fun u => by simp [go_sem, sliced], Ints_nil W, .inl rfl⟩
 ·obtain ⟨_, hc, hcell⟩ := ints_some h
  have e : (l.drop k).length = l.length - k := by simp
  refine ⟨.slice (some (if c = k then a else a.add k)) (l.length - k) (c - k), fun u => ?_, ⟨_, c - k, by rw [e], by rw [e]; omega, fun hp => ⟨_, rfl, fun i hi' => ?_⟩⟩, .inr ⟨_, c - k, by rw [e]⟩⟩
  ·rw [run_slice_l (P := Tryz.prog) u 26 (some a) l.length c (by kernel_rfl) .i64 k (by omega) (by omega)]
   simp [go_sem, sliced]
   split <;> rfl
  ·rw [e] at hi' hp
   rw [if_neg (by omega), Addr.add_add, hcell (k + i) (by omega)]
   simp [nth, List.getD]
theorem wpList_append_both {ops : Array Oper} {rest : List Oper} {o : Oper} {a : Act} {w : World} {Q : Exit → Act → World → Prop} (hgd : Region.wanted o (yielded ops a.tmps) = true) (s x : Operand)
  (hop : o.op = Op.call { callee := Callee.builtin Builtin.append, args := #[s, x], argTypes := #[26, 26] }) (base : Nat) (va vb : Value) (A B : List Int) (hs : a.eval s = va) (hx : a.eval x = vb) (ha : Own base w va A) (hb : Ints w vb B) (hsh : Shp vb B)
  (hl : (A.length + B.length) * 8 ≤ 140737488355328) (hbase : base ≤ w.heap.size)
  (h : ∀ v' w', Own base w' v' (A ++ B) → w.grownBy w' va.ownBlock → wpList Tryz.prog ops Q rest (a.put o.dst v') w') : wpList Tryz.prog ops Q (o :: rest) a w := by
 obtain ⟨i0, hi, hz0, hz1, hz2⟩ := info_parts infoI64
 have key : ∀ K : Act → World → Prop, (∀ v' w', Own base w' v' (A ++ B) → w.grownBy w' va.ownBlock → K (a.put o.dst v') w') → Oper.wp Tryz.prog o a w K Q := by
  intro K hK
  rcases hsh with rfl | ⟨ad, c, rfl⟩
  ·obtain rfl := ints_none hb
   have hrun := run_append_owned_none (P := Tryz.prog) (w := w) base 26 o.type 3 i0 1 Tryz.underlying26 hi va _ _ ha
   unfold Oper.wp
   simp [execOp, hop, resolve, invoke, builtin, hs, hx, hrun, Result.andThen]
   exact hK _ _ (by rw [List.append_nil]; exact ha) (grown_refl _ _)
  ·obtain ⟨_, hc, hcell⟩ := ints_some hb
   refine wp_append_own w s x 26 hop base 3 i0 (.int .i64 0) 1 8 Tryz.underlying26 hi hz0 hz1 hz2 rfl (by decide) va A.length _ hs ha ad B.length c (B.map (Value.int .i64)) hx (by simp) (fun j u hu => ?_) (fun u hu => ?_) (by unfold maxLen; omega) (by omega) hbase (fun v' w' h2 h3 _ => hK v' w' ?_ h3)
   ·have hj : j < B.length := by
     by_cases hj : j < B.length
     ·exact hj
     ·rw [List.getElem?_eq_none (by simp; omega)] at hu; cases hu
    rw [hcell j hj]
    simpa [nth, List.getD, hj] using hu
   ·obtain ⟨x, _, rfl⟩ := List.mem_map.1 hu
    rfl
   ·unfold Own; simpa using h2
 refine wpList_step fun K hK => ?_
 rw [if_pos hgd]
 exact key K fun v' w' h1 h2 => hK _ _ (h v' w' h1 h2)
theorem Own.lt {base : Nat} {w : World} {v : Value} {l : List Int} (h : Own base w v l) (g : Nat) (hg : v.ownBlock = some g) : base ≤ g ∧ g < w.heap.size := by
 rcases h.2 with ⟨rfl, _⟩ | ⟨g', cap, cur, rfl, h1, h2, _⟩
 ·cases hg
 ·simp [Value.ownBlock] at hg
  subst hg
  exact ⟨h1, lt_of_some h2⟩
theorem Own.apart {N : Nat} {w : World} {va vb : Value} {B : List Int} (hlt : ∀ g, va.ownBlock = some g → g < N) (hb : Own N w vb B) : va.ownBlock = none ∨ va.ownBlock ≠ vb.ownBlock := by
 rcases ea : va.ownBlock with _ | g
 ·exact .inl rfl
 ·right
  intro e
  have := (hb.lt g e.symm).1
  have := hlt g ea
  omega
theorem Own.shp {base : Nat} {w : World} {v : Value} {l : List Int} (h : Own base w v l) : Shp v l := by
 rcases h.2 with ⟨rfl, _⟩ | ⟨g', cap, cur, rfl, _⟩
 ·exact .inl rfl
 ·exact .inr ⟨_, cap, rfl⟩
theorem grown_own' {w u u' : World} {r : Option Nat} (h : w.grownBy u none) (g : u.grownBy u' r) (hr : ∀ b, r = some b → w.heap.size ≤ b) : w.grownBy u' none :=
 grown_trans h g none (fun i e _ => by cases e) (fun i e hi => by have := hr i e; omega)
theorem Own.form {base : Nat} {w : World} {v : Value} {l : List Int} (h : Own base w v l) (hl : 0 < l.length) : ∃ g cap, v = .slice (some ⟨g, 0, none⟩) l.length cap ∧ base ≤ g ∧ g < w.heap.size ∧ l.length ≤ cap := by
 rcases h.2 with ⟨_, h0⟩ | ⟨g, cap, cur, hv, hb, hg, hn, _⟩
 ·omega
 ·exact ⟨g, cap, hv, hb, lt_of_some hg, hn⟩
theorem Own.cell {base : Nat} {w : World} {g cap n : Nat} {l : List Int} (h : Own base w (.slice (some ⟨g, 0, none⟩) n cap) l) (hn : n = l.length) (j : Nat) (hj : j < l.length) : w.cell? ⟨g, j, none⟩ = some (.int .i64 (nth l j)) := by
 subst hn
 have := World.ownsRow.cellAt h j (by omega)
 rw [this]
 simp [nth, List.getD, hj]
theorem Own.free {base : Nat} {w : World} {g cap n : Nat} {l : List Int} (h : Own base w (.slice (some ⟨g, 0, none⟩) n cap) l) (hn : n = l.length) (j : Nat) : w.frozen? ⟨g, j, none⟩ = false := by
 subst hn
 exact World.ownsRow.frozenAt h j
theorem Own.set {base : Nat} {w : World} {g cap n : Nat} {l : List Int} (h : Own base w (.slice (some ⟨g, 0, none⟩) n cap) l) (hn : n = l.length) (j : Nat) (z : Int) : Own base (w.setCell ⟨g, j, none⟩ (.int .i64 z)) (.slice (some ⟨g, 0, none⟩) n cap) (l.set j z) ∧ w.grownBy (w.setCell ⟨g, j, none⟩ (.int .i64 z)) (some g) := by
 subst hn
 have := World.ownsRow.stored h j (.int .i64 z)
 refine ⟨?_, this.2⟩
 unfold Own
 rw [List.length_set, List.map_set]
 exact this.1
theorem Own.keepLt {base : Nat} {w w' : World} {v : Value} {l : List Int} {b : Nat} (h : Own base w v l) (g : w.grownBy w' (some b)) (hb : b < base) : Own base w' v l := by
 refine h.kept g ?_
 rcases e : v.ownBlock with _ | c
 ·exact .inl rfl
 ·right
  intro e'
  have := (h.lt c e).1
  cases e'
  omega
end Go.Proofs.YtdejpongekicdaaGreatDoor

/- BytL -/
namespace Go.Proofs.YtdejpongekicdaaGreatDoor
open Go.RowKit
set_option linter.unusedVariables false
set_option linter.unusedSimpArgs false
set_option maxHeartbeats 1000000
def Byts (w : World) (v : Value) (l : List Int) : Prop :=
 ∃ (ad : Option Addr) (c : Nat), v = .slice ad l.length c ∧ l.length ≤ c ∧ (0 < l.length → ∃ a, ad = some a ∧ ∀ i, i < l.length → w.cell? (a.add i) = some (.int .u8 (nth l i)))
def arrB (l : List Int) : Array Value := (l.map (Value.int .u8)).toArray
theorem arrB_get (l : List Int) (i : Nat) (h : i < l.length) : (arrB l)[i]? = some (.int .u8 (nth l i)) := by
 simp [arrB, nth, List.getD, h]
theorem arrB_set (l : List Int) (k : Nat) (v : Int) : (arrB l).setIfInBounds k (.int .u8 v) = arrB (l.set k v) := by
 simp [arrB, List.map_set]
theorem infoU8 : (Tryz.prog.info? 5).map (fun i => (i.zero, i.size, i.bytes)) = some (some (.int .u8 0), 1, 1) := by kernel_rfl
theorem made_arrB (n : Nat) : madeCells #[.int .u8 0] n = arrB (List.replicate n 0) := by
 unfold arrB madeCells
 apply Array.ext
 ·simp
 ·intro i h1 h2
  simp [Nat.mod_one]
theorem make_byt (z : Int) (h0 : 0 ≤ z) (h1 : z ≤ 35184372088832) (u : World) :
  (Instr.makeSlice 32 (.int .i64 z) (.int .i64 z)).run Tryz.prog u = .ok (.slice (some ⟨u.heap.size, 0, none⟩) z.toNat z.toNat) (u.alloc (.cells (arrB (List.replicate z.toNat 0)) 5)) := by
 obtain ⟨i0, hi, hz0, hz1, hz2⟩ := info_parts infoU8
 have h := run_make (P := Tryz.prog) u 32 5 i0 (.int .u8 0) Tryz.underlying32 hi hz0 .i64 .i64 z z h0 (Int.le_refl _) (by rw [hz2]; omega) (by omega)
 rw [← made_arrB]
 simpa [hz1, Value.cells] using h
theorem Byts_keep {w w' : World} {v : Value} {l : List Int} (h : Byts w v l) (g : w.grownBy w' none) : Byts w' v l := by
 obtain ⟨ad, c, rfl, hc, hcell⟩ := h
 refine ⟨ad, c, rfl, hc, fun h => ?_⟩
 obtain ⟨a, rfl, hv⟩ := hcell h
 exact ⟨a, rfl, fun i hi => grown_keep g (hv i hi)⟩
theorem Byts_of_owns {w : World} {base : Nat} {v : Value} {l : List Int} (h : w.ownsRow base 5 1 v l.length (l.map (Value.int .u8))) : Byts w v l := by
 obtain ⟨h1, h2⟩ := h
 rcases h2 with ⟨h2, h3⟩ | ⟨g, cap, cur, h2, _, h4, h5, _, h7, h8⟩
 ·exact ⟨none, 0, by rw [h2, h3], by omega, fun h => by omega⟩
 ·refine ⟨some ⟨g, 0, none⟩, cap, h2, h5, fun _ => ⟨_, rfl, fun i hi => ?_⟩⟩
  have e : (cur.toList.take (l.length * 1))[i]? = (l.map (Value.int .u8))[i]? := by rw [h8]
  rw [List.getElem?_take, if_pos (by omega), Array.getElem?_toList] at e
  have ea : (⟨g, 0, none⟩ : Addr).add i = ⟨g, i, none⟩ := by unfold Addr.add; split <;> simp_all
  rw [ea, cell_of_heap h4, e]
  simp [nth, List.getD, hi]
def OwnB (base : Nat) (w : World) (v : Value) (l : List Int) : Prop := w.ownsRow base 5 1 v l.length (l.map (Value.int .u8))
theorem OwnB.byts {base : Nat} {w : World} {v : Value} {l : List Int} (h : OwnB base w v l) : Byts w v l := Byts_of_owns h
theorem OwnB.keep {base : Nat} {w w' : World} {v : Value} {l : List Int} (h : OwnB base w v l) (g : w.grownBy w' none) : OwnB base w' v l :=
 h.kept g (by rcases v.ownBlock with _ | b <;> simp)
theorem OwnB.keepBut {base : Nat} {w w' : World} {v : Value} {l : List Int} {b : Nat} {cs : Array Value} {t : TypeId} {f : Nat × Nat} (h : OwnB base w v l) (g : w.grownBy w' (some b)) (hb : w.heap[b]? = some (.cells cs t f)) (ht : t ≠ 5) : OwnB base w' v l := by
 refine h.kept g ?_
 rcases h.2 with ⟨rfl, _⟩ | ⟨g', cap, cur, rfl, _, hg, _⟩
 ·exact .inl rfl
 ·right
  intro e
  simp [Value.ownBlock] at e
  subst e
  rw [hg] at hb
  simp at hb
  exact ht hb.2.1.symm
theorem OwnB.base {b b' : Nat} {w : World} {v : Value} {l : List Int} (h : OwnB b w v l) (hb : b' ≤ b) : OwnB b' w v l := by
 refine ⟨h.1, ?_⟩
 rcases h.2 with h | ⟨g, cap, cur, e, h1, h2⟩
 ·exact .inl h
 ·exact .inr ⟨g, cap, cur, e, by omega, h2⟩
theorem OwnB_nil (b : Nat) (w : World) : OwnB b w (.slice none 0 0) [] := World.ownsRow_nil _ _ _ _
theorem byts_some {W : World} {a : Addr} {n c : Nat} {l : List Int} (h : Byts W (.slice (some a) n c) l) : n = l.length ∧ n ≤ c ∧ ∀ i, i < l.length → W.cell? (a.add i) = some (.int .u8 (nth l i)) := by
 obtain ⟨ad, c', e, h1, h2⟩ := h
 simp only [Value.slice.injEq] at e
 obtain ⟨rfl, rfl, rfl⟩ := e
 refine ⟨rfl, h1, fun i hi => ?_⟩
 obtain ⟨a', e', h3⟩ := h2 (by omega)
 cases e'
 exact h3 i hi
theorem byts_none {W : World} {l : List Int} (h : Byts W (.slice none 0 0) l) : l = [] := by
 obtain ⟨ad, c, e, _, _⟩ := h
 simp only [Value.slice.injEq] at e
 exact List.length_eq_zero_iff.1 e.2.1.symm
theorem wpList_append_bothB {ops : Array Oper} {rest : List Oper} {o : Oper} {a : Act} {w : World} {Q : Exit → Act → World → Prop} (hgd : Region.wanted o (yielded ops a.tmps) = true) (s x : Operand)
  (hop : o.op = Op.call { callee := Callee.builtin Builtin.append, args := #[s, x], argTypes := #[32, 32] }) (base : Nat) (va vb : Value) (A B : List Int) (hs : a.eval s = va) (hx : a.eval x = vb) (ha : OwnB base w va A) (hb : Byts w vb B) (hsh : Shp vb B)
  (hl : (A.length + B.length) * 1 ≤ 140737488355328) (hbase : base ≤ w.heap.size)
  (h : ∀ v' w', OwnB base w' v' (A ++ B) → w.grownBy w' va.ownBlock → wpList Tryz.prog ops Q rest (a.put o.dst v') w') : wpList Tryz.prog ops Q (o :: rest) a w := by
 obtain ⟨i0, hi, hz0, hz1, hz2⟩ := info_parts infoU8
 have key : ∀ K : Act → World → Prop, (∀ v' w', OwnB base w' v' (A ++ B) → w.grownBy w' va.ownBlock → K (a.put o.dst v') w') → Oper.wp Tryz.prog o a w K Q := by
  intro K hK
  rcases hsh with rfl | ⟨ad, c, rfl⟩
  ·obtain rfl := byts_none hb
   have hrun := run_append_owned_none (P := Tryz.prog) (w := w) base 32 o.type 5 i0 1 Tryz.underlying32 hi va _ _ ha
   unfold Oper.wp
   simp [execOp, hop, resolve, invoke, builtin, hs, hx, hrun, Result.andThen]
   exact hK _ _ (by rw [List.append_nil]; exact ha) (grown_refl _ _)
  ·obtain ⟨_, hc, hcell⟩ := byts_some hb
   refine wp_append_own w s x 32 hop base 5 i0 (.int .u8 0) 1 1 Tryz.underlying32 hi hz0 hz1 hz2 rfl (by decide) va A.length _ hs ha ad B.length c (B.map (Value.int .u8)) hx (by simp) (fun j u hu => ?_) (fun u hu => ?_) (by unfold maxLen; omega) (by omega) hbase (fun v' w' h2 h3 _ => hK v' w' ?_ h3)
   ·have hj : j < B.length := by
     by_cases hj : j < B.length
     ·exact hj
     ·rw [List.getElem?_eq_none (by simp; omega)] at hu; cases hu
    rw [hcell j hj]
    simpa [nth, List.getD, hj] using hu
   ·obtain ⟨x, _, rfl⟩ := List.mem_map.1 hu
    rfl
   ·unfold OwnB; simpa using h2
 refine wpList_step fun K hK => ?_
 rw [if_pos hgd]
 exact key K fun v' w' h1 h2 => hK _ _ (h v' w' h1 h2)
theorem OwnB.lt {base : Nat} {w : World} {v : Value} {l : List Int} (h : OwnB base w v l) (g : Nat) (hg : v.ownBlock = some g) : base ≤ g ∧ g < w.heap.size := by
 rcases h.2 with ⟨rfl, _⟩ | ⟨g', cap, cur, rfl, h1, h2, _⟩
 ·cases hg
 ·simp [Value.ownBlock] at hg
  subst hg
  exact ⟨h1, lt_of_some h2⟩
theorem OwnB.shp {base : Nat} {w : World} {v : Value} {l : List Int} (h : OwnB base w v l) : Shp v l := by
 rcases h.2 with ⟨rfl, _⟩ | ⟨g', cap, cur, rfl, _⟩
 ·exact .inl rfl
 ·exact .inr ⟨_, cap, rfl⟩
theorem OwnB.form {base : Nat} {w : World} {v : Value} {l : List Int} (h : OwnB base w v l) (hl : 0 < l.length) : ∃ g cap, v = .slice (some ⟨g, 0, none⟩) l.length cap ∧ base ≤ g ∧ g < w.heap.size ∧ l.length ≤ cap := by
 rcases h.2 with ⟨_, h0⟩ | ⟨g, cap, cur, hv, hb, hg, hn, _⟩
 ·omega
 ·exact ⟨g, cap, hv, hb, lt_of_some hg, hn⟩
theorem OwnB.cell {base : Nat} {w : World} {g cap n : Nat} {l : List Int} (h : OwnB base w (.slice (some ⟨g, 0, none⟩) n cap) l) (hn : n = l.length) (j : Nat) (hj : j < l.length) : w.cell? ⟨g, j, none⟩ = some (.int .u8 (nth l j)) := by
 subst hn
 have := World.ownsRow.cellAt h j (by omega)
 rw [this]
 simp [nth, List.getD, hj]
theorem OwnB.free {base : Nat} {w : World} {g cap n : Nat} {l : List Int} (h : OwnB base w (.slice (some ⟨g, 0, none⟩) n cap) l) (hn : n = l.length) (j : Nat) : w.frozen? ⟨g, j, none⟩ = false := by
 subst hn
 exact World.ownsRow.frozenAt h j
theorem OwnB.set {base : Nat} {w : World} {g cap n : Nat} {l : List Int} (h : OwnB base w (.slice (some ⟨g, 0, none⟩) n cap) l) (hn : n = l.length) (j : Nat) (z : Int) : OwnB base (w.setCell ⟨g, j, none⟩ (.int .u8 z)) (.slice (some ⟨g, 0, none⟩) n cap) (l.set j z) ∧ w.grownBy (w.setCell ⟨g, j, none⟩ (.int .u8 z)) (some g) := by
 subst hn
 have := World.ownsRow.stored h j (.int .u8 z)
 refine ⟨?_, this.2⟩
 unfold OwnB
 rw [List.length_set, List.map_set]
 exact this.1
theorem OwnB.keepLt {base : Nat} {w w' : World} {v : Value} {l : List Int} {b : Nat} (h : OwnB base w v l) (g : w.grownBy w' (some b)) (hb : b < base) : OwnB base w' v l := by
 refine h.kept g ?_
 rcases e : v.ownBlock with _ | c
 ·exact .inl rfl
 ·right
  intro e'
  have := (h.lt c e).1
  cases e'
  omega
end Go.Proofs.YtdejpongekicdaaGreatDoor

/- LpcMath -/
namespace Go.Proofs.YtdejpongekicdaaGreatDoor
open Go.RowKit
set_option linter.unusedVariables false
set_option linter.unusedSimpArgs false
def steadyB (k : List Int) : Bool := k.all fun q => decide (-32768 < q) && decide (q < 32768)
theorem all_iff (l : List Int) (p : Int → Bool) : l.all p = true ↔ ∀ i, i < l.length → p (nth l i) = true := by
 rw [List.all_eq_true]
 constructor
 ·intro h i hi
  have := h l[i] (List.getElem_mem hi)
  simpa [nth, List.getD, hi] using this
 ·intro h x hx
  obtain ⟨i, hi, rfl⟩ := List.getElem_of_mem hx
  have := h i hi
  simpa [nth, List.getD, hi] using this
theorem steadyB_iff (k : List Int) : steadyB k = true ↔ ∀ i, i < k.length → -32768 < nth k i ∧ nth k i < 32768 := by
 unfold steadyB
 rw [all_iff]
 simp
def fac (g : Int) : Nat → Int
 | 0 => 32768
 | i + 1 => (fac g i * g + 16384) / 32768
theorem fac_bd (g : Int) (h0 : 0 ≤ g) (h1 : g ≤ 32768) : ∀ i, 0 ≤ fac g i ∧ fac g i ≤ 32768
 | 0 => by simp [fac]
 | i + 1 => by
  obtain ⟨a, b⟩ := fac_bd g h0 h1 i
  have e1 : 0 ≤ fac g i * g := Int.mul_nonneg a h0
  have e2 : fac g i * g ≤ 32768 * 32768 := Int.mul_le_mul b h1 h0 (by decide)
  show 0 ≤ (fac g i * g + 16384) / 32768 ∧ (fac g i * g + 16384) / 32768 ≤ 32768
  omega
def wideB (a : List Int) : Bool := a.all fun c => decide (-1073741824 ≤ c) && decide (c ≤ 1073741824)
theorem wideB_iff (a : List Int) : wideB a = true ↔ ∀ i, i < a.length → -1073741824 ≤ nth a i ∧ nth a i ≤ 1073741824 := by
 unfold wideB
 rw [all_iff]
 simp
def okX (a : List Int) (g : Int) : Bool := decide (0 ≤ g) && decide (g ≤ 32768) && wideB a
def expN (a : List Int) (g : Int) (i : Nat) : Int := (nth a i * fac g i + 16384) / 32768
def expL (a : List Int) (g : Int) : List Int := if okX a g = true then (List.range 9).map (expN a g) else zeros 9
def expE (a : List Int) (g : Int) : Int := if okX a g = true then 0 else 2
theorem expL_len (a : List Int) (g : Int) : (expL a g).length = 9 := by unfold expL; split <;> simp [zeros]
theorem facmul_bd (c f : Int) (h1 : -1073741824 ≤ c) (h2 : c ≤ 1073741824) (h3 : 0 ≤ f) (h4 : f ≤ 32768) : -35184372088832 ≤ c * f ∧ c * f ≤ 35184372088832 := by
 have e1 : 0 ≤ (c + 1073741824) * f := Int.mul_nonneg (by omega) h3
 have e2 : 0 ≤ (1073741824 - c) * f := Int.mul_nonneg (by omega) h3
 simp only [Int.add_mul, Int.sub_mul] at e1 e2
 omega
def mixN (a b : List Int) (num : Int) (i : Nat) : Int := (nth a i * (4 - num) + nth b i * num).tdiv 4
def okM (a b : List Int) (num : Int) : Bool := decide (0 ≤ num) && decide (num ≤ 4) && steadyB a && steadyB b
def mixL (a b : List Int) (num : Int) : List Int := if okM a b num = true then (List.range 8).map (mixN a b num) else zeros 8
def mixE (a b : List Int) (num : Int) : Int := if okM a b num = true then 0 else 2
theorem mixL_len (a b : List Int) (num : Int) : (mixL a b num).length = 8 := by unfold mixL; split <;> simp [zeros]
def FillN (n : Nat) (f : Nat → Int) (k : Nat) (rs : List Int) : Prop := rs.length = n ∧ ∀ j, j < k → nth rs j = f j
theorem fillN_step {n : Nat} {f : Nat → Int} {k : Nat} {rs : List Int} (h : FillN n f k rs) (hk : k < n) : FillN n f (k + 1) (rs.set k (f k)) := by
 obtain ⟨h1, h2⟩ := h
 refine ⟨by simpa using h1, fun j hj => ?_⟩
 by_cases e : j = k
 ·subst e
  simp [nth, List.getD, h1, hk]
 ·have := h2 j (by omega)
  simpa [nth, List.getD, List.getElem?_set, Ne.symm e] using this
theorem fillN_all {n : Nat} {f : Nat → Int} {rs : List Int} (h : FillN n f n rs) : rs = (List.range n).map f := by
 apply List.ext_getElem
 ·simp [h.1]
 ·intro i h1 h2
  have := h.2 i (by have := h.1; omega)
  simpa [nth, List.getD, h1] using this
theorem fillN_start (n : Nat) (f : Nat → Int) : FillN n f 0 (zeros n) := ⟨zeros_len n, fun j hj => by omega⟩
end Go.Proofs.YtdejpongekicdaaGreatDoor

/- LpcS -/
namespace Go.Proofs.YtdejpongekicdaaGreatDoor
open Go.RowKit
set_option linter.unusedVariables false
set_option linter.unusedSimpArgs false
theorem size9' : (Tryz.prog.info? 95).map (·.size) = some 9 := by kernel_rfl
theorem size8' : (Tryz.prog.info? 50).map (·.size) = some 8 := by kernel_rfl
theorem z9' : arrI (zeros 9) = #[.int .i64 0, .int .i64 0, .int .i64 0, .int .i64 0, .int .i64 0, .int .i64 0, .int .i64 0, .int .i64 0, .int .i64 0] := rfl
theorem z8' : arrI (zeros 8) = #[.int .i64 0, .int .i64 0, .int .i64 0, .int .i64 0, .int .i64 0, .int .i64 0, .int .i64 0, .int .i64 0] := rfl
theorem build9 (u : World) : Sem.run Tryz.prog (Instr.build 95 #[]) u = .ok (.agg (arrI (zeros 9))) u := run_build u 95 #[] (arrI (zeros 9)) (by kernel_rfl)
theorem build8 (u : World) : Sem.run Tryz.prog (Instr.build 50 #[]) u = .ok (.agg (arrI (zeros 8))) u := run_build u 50 #[] (arrI (zeros 8)) (by kernel_rfl)
def ArrE (w : World) (L : List Int) (en : Int) (e : Ending) (w' : World) : Prop := e = .returned (.tuple #[.agg (arrI L), .int .i64 en]) ∧ w.grownBy w' none
theorem laid3 (w : World) (T1 T2 T3 : TypeId) (a b c : List Int) : Blk (((w.alloc (.cells (arrI a) T1)).alloc (.cells (arrI b) T2)).alloc (.cells (arrI c) T3)) w.heap.size T1 a ∧ Blk (((w.alloc (.cells (arrI a) T1)).alloc (.cells (arrI b) T2)).alloc (.cells (arrI c) T3)) (w.heap.size + 1) T2 b ∧ Blk (((w.alloc (.cells (arrI a) T1)).alloc (.cells (arrI b) T2)).alloc (.cells (arrI c) T3)) (w.heap.size + 1 + 1) T3 c ∧ w.grownBy (((w.alloc (.cells (arrI a) T1)).alloc (.cells (arrI b) T2)).alloc (.cells (arrI c) T3)) none := by
 have g := grown_alloc ((w.alloc (.cells (arrI a) T1)).alloc (.cells (arrI b) T2)) (.cells (arrI c) T3) none
 refine ⟨((Blk.new w T1 a).keep (grown_alloc _ _ none)).keep g, (Blk.new1 w _ T2 b).keep g, ?_, grown_none (grown_none (grown_alloc _ _ none) (grown_alloc _ _ none)) g⟩
 simpa using Blk.new ((w.alloc (.cells (arrI a) T1)).alloc (.cells (arrI b) T2)) T3 c
theorem laid2 (w : World) (T1 T2 : TypeId) (a b : List Int) : Blk ((w.alloc (.cells (arrI a) T1)).alloc (.cells (arrI b) T2)) w.heap.size T1 a ∧ Blk ((w.alloc (.cells (arrI a) T1)).alloc (.cells (arrI b) T2)) (w.heap.size + 1) T2 b ∧ w.grownBy ((w.alloc (.cells (arrI a) T1)).alloc (.cells (arrI b) T2)) none :=
 ⟨(Blk.new w T1 a).keep (grown_alloc _ _ none), Blk.new1 w _ T2 b, grown_none (grown_alloc _ _ none) (grown_alloc _ _ none)⟩
def Mem2 (w wr : World) (T1 T2 : TypeId) (a b : List Int) : Prop := Blk wr w.heap.size T1 a ∧ Blk wr (w.heap.size + 1) T2 b ∧ w.grownBy wr none
def Mem3 (w wr : World) (T1 T2 T3 : TypeId) (a b c : List Int) : Prop := Blk wr w.heap.size T1 a ∧ Blk wr (w.heap.size + 1) T2 b ∧ Blk wr (w.heap.size + 1 + 1) T3 c ∧ w.grownBy wr none
theorem Mem2.keep {w wr wr' : World} {T1 T2 : TypeId} {a b : List Int} (h : Mem2 w wr T1 T2 a b) (g : wr.grownBy wr' none) : Mem2 w wr' T1 T2 a b := ⟨h.1.keep g, h.2.1.keep g, grown_none h.2.2 g⟩
theorem Mem3.keep {w wr wr' : World} {T1 T2 T3 : TypeId} {a b c : List Int} (h : Mem3 w wr T1 T2 T3 a b c) (g : wr.grownBy wr' none) : Mem3 w wr' T1 T2 T3 a b c := ⟨h.1.keep g, h.2.1.keep g, h.2.2.1.keep g, grown_none h.2.2.2 g⟩
theorem Mem2.set {w wr : World} {T1 T2 : TypeId} {a b : List Int} (h : Mem2 w wr T1 T2 a b) (k : Nat) (z : Int) : Mem2 w (wr.setCell ⟨w.heap.size, k, none⟩ (.int .i64 z)) T1 T2 (a.set k z) b :=
 ⟨h.1.set k z, h.2.1.keepBut (grown_setCell _ ⟨w.heap.size, k, none⟩ _) (by simp), grown_own h.2.2 (grown_setCell _ ⟨w.heap.size, k, none⟩ _) (by simp)⟩
theorem Mem3.set {w wr : World} {T1 T2 T3 : TypeId} {a b c : List Int} (h : Mem3 w wr T1 T2 T3 a b c) (k : Nat) (z : Int) : Mem3 w (wr.setCell ⟨w.heap.size, k, none⟩ (.int .i64 z)) T1 T2 T3 (a.set k z) b c :=
 ⟨h.1.set k z, h.2.1.keepBut (grown_setCell _ ⟨w.heap.size, k, none⟩ _) (by simp), h.2.2.1.keepBut (grown_setCell _ ⟨w.heap.size, k, none⟩ _) (by simp; omega), grown_own h.2.2.2 (grown_setCell _ ⟨w.heap.size, k, none⟩ _) (by simp)⟩
theorem Mem3.set3 {w wr : World} {T1 T2 T3 : TypeId} {a b c : List Int} (h : Mem3 w wr T1 T2 T3 a b c) (k : Nat) (z : Int) : Mem3 w (wr.setCell ⟨w.heap.size + 1 + 1, k, none⟩ (.int .i64 z)) T1 T2 T3 a b (c.set k z) :=
 ⟨h.1.keepBut (grown_setCell _ ⟨w.heap.size + 1 + 1, k, none⟩ _) (by simp; omega), h.2.1.keepBut (grown_setCell _ ⟨w.heap.size + 1 + 1, k, none⟩ _) (by simp), h.2.2.1.set k z, grown_own h.2.2.2 (grown_setCell _ ⟨w.heap.size + 1 + 1, k, none⟩ _) (by simp; omega)⟩
end Go.Proofs.YtdejpongekicdaaGreatDoor

/- LevMath -/
namespace Go.Proofs.YtdejpongekicdaaGreatDoor
open Go.RowKit
set_option linter.unusedVariables false
set_option linter.unusedSimpArgs false
def tab (n : Nat) (p : Nat → Int) : List Int := (List.range n).map p
theorem tab_len (n : Nat) (p : Nat → Int) : (tab n p).length = n := by simp [tab]
theorem tab_nth (n : Nat) (p : Nat → Int) (i : Nat) (h : i < n) : nth (tab n p) i = p i := by simp [tab, nth, List.getD, h]
theorem tab_ext {n : Nat} {p : Nat → Int} {l : List Int} (h1 : l.length = n) (h2 : ∀ i, i < n → nth l i = p i) : l = tab n p := fillN_all (n := n) ⟨h1, h2⟩
theorem tab_set (n : Nat) (p : Nat → Int) (k : Nat) (z : Int) (hk : k < n) : (tab n p).set k z = tab n (fun i => if i = k then z else p i) := by
 apply tab_ext
 ·simp [tab_len]
 ·intro i hi
  by_cases e : i = k
  ·subst e; simp [nth, List.getD, tab, hi]
  ·simp [nth, List.getD, tab, hi, e, List.getElem?_set, Ne.symm e]
theorem zeros_tab (n : Nat) : zeros n = tab n (fun _ => 0) := tab_ext (zeros_len n) (fun i _ => zeros_nth n i)
def gr (p : Nat → Int) (m : Nat) (q : Int) (i : Nat) : Int := if 1 ≤ i ∧ i ≤ m then p i + q * p (m - i) / 32768 else p i
def Wi (p : Nat → Int) (B : Int) : Prop := ∀ i, -B ≤ p i ∧ p i ≤ B
theorem qmul_bd (q x B : Int) (q1 : -32768 ≤ q) (q2 : q ≤ 32768) (x1 : -B ≤ x) (x2 : x ≤ B) : -(32768 * B) ≤ q * x ∧ q * x ≤ 32768 * B := by
 have e1 : 0 ≤ (32768 - q) * (B - x) := Int.mul_nonneg (by omega) (by omega)
 have e2 : 0 ≤ (32768 + q) * (B + x) := Int.mul_nonneg (by omega) (by omega)
 have e3 : 0 ≤ (32768 - q) * (B + x) := Int.mul_nonneg (by omega) (by omega)
 have e4 : 0 ≤ (32768 + q) * (B - x) := Int.mul_nonneg (by omega) (by omega)
 simp only [Int.add_mul, Int.sub_mul, Int.mul_add, Int.mul_sub] at e1 e2 e3 e4
 omega
theorem gr_bd {p : Nat → Int} {B : Int} (h : Wi p B) (hB : 0 ≤ B) (m : Nat) (q : Int) (q1 : -32768 ≤ q) (q2 : q ≤ 32768) : Wi (gr p m q) (2 * B) := by
 intro i
 have a := h i
 have b := h (m - i)
 have c := qmul_bd q _ B q1 q2 b.1 b.2
 unfold gr
 split <;> omega
theorem gr_out {p : Nat → Int} {m : Nat} (h : ∀ i, m ≤ i → p i = 0) (q : Int) : ∀ i, m + 1 ≤ i → gr p m q i = 0 := by
 intro i hi
 unfold gr
 rw [if_neg (by omega)]
 exact h i (by omega)
def one24 (i : Nat) : Int := if i = 0 then 16777216 else 0
theorem one24_bd : Wi one24 16777216 := by intro i; unfold one24; split <;> omega
theorem gr_one (q : Int) (q1 : -32768 ≤ q) (q2 : q ≤ 32768) : Wi (gr one24 1 q) 16777216 := by
 intro i
 have a := one24_bd i
 have b := one24_bd (1 - i)
 have c := qmul_bd q _ _ q1 q2 b.1 b.2
 unfold gr
 split
 ·rename_i h
  have : i = 1 := by omega
  subst this
  simp only [one24] at *
  simp at *
  omega
 ·exact a
def prd (k : Nat → Int) : Nat → Nat → Int
 | 0 => one24
 | m + 1 => gr (prd k m) (m + 1) (k m)
theorem prd_zero (k : Nat → Int) : ∀ m, prd k m 0 = 16777216
 | 0 => rfl
 | m + 1 => by show gr (prd k m) (m + 1) (k m) 0 = _; simp [gr, prd_zero k m]
theorem prd_bd (k : Nat → Int) (n : Nat) (hk : ∀ i, i < n → -32768 ≤ k i ∧ k i ≤ 32768) : ∀ m, m + 1 ≤ n → Wi (prd k (m + 1)) (16777216 * 2 ^ m)
 | 0, h => by
  have := hk 0 (by omega)
  exact gr_one _ this.1 this.2
 | m + 1, h => by
  have := hk (m + 1) (by omega)
  have g := gr_bd (prd_bd k n hk m (by omega)) (Int.mul_nonneg (by decide) (Int.le_of_lt (Int.pow_pos (by decide)))) (m + 1 + 1) (k (m + 1)) this.1 this.2
  rw [show (16777216 : Int) * 2 ^ (m + 1) = 2 * (16777216 * 2 ^ m) by rw [Int.pow_succ]; omega]
  exact g
theorem pow8 (m : Nat) (h : m ≤ 8) : (2 : Int) ^ m ≤ 256 := by
 match m, h with
 | 0, _ | 1, _ | 2, _ | 3, _ | 4, _ | 5, _ | 6, _ | 7, _ | 8, _ => decide
theorem Wi.le {p : Nat → Int} {A B : Int} (h : Wi p A) (hB : A ≤ B) : Wi p B := fun i => by have := h i; omega
theorem prd_bd32 (k : Nat → Int) (hk : ∀ i, i < 8 → -32768 ≤ k i ∧ k i ≤ 32768) (m : Nat) (hm : m ≤ 8) : Wi (prd k m) 2147483648 := by
 match m, hm with
 | 0, _ => exact one24_bd.le (by decide)
 | m + 1, hm =>
  refine (prd_bd k 8 hk m hm).le ?_
  have e : (2 : Int) ^ m ≤ 128 := by
   match m, hm with
   | 0, _ | 1, _ | 2, _ | 3, _ | 4, _ | 5, _ | 6, _ | 7, _ => decide
  omega
def dirN (k : Nat → Int) (i : Nat) : Int := (prd k 8 i + 2048) / 4096
def dirL (k : List Int) : List Int := if steadyB k = true then tab 9 (dirN (nth k)) else zeros 9
def dirE (k : List Int) : Int := if steadyB k = true then 0 else 2
theorem dirL_len (k : List Int) : (dirL k).length = 9 := by unfold dirL; split; exact tab_len _ _; exact zeros_len _
theorem steady_le {k : List Int} (hk : k.length = 8) (h : steadyB k = true) : ∀ i, i < 8 → -32768 ≤ nth k i ∧ nth k i ≤ 32768 := fun i hi => by
 have := (steadyB_iff k).1 h i (by omega)
 omega
theorem dirN_bd (k : List Int) (hk : k.length = 8) (h : steadyB k = true) (i : Nat) : -524288 ≤ dirN (nth k) i ∧ dirN (nth k) i ≤ 524288 := by
 have := prd_bd32 (nth k) (steady_le hk h) 8 (by omega) i
 unfold dirN
 omega
theorem dirN_zero (k : Nat → Int) : dirN k 0 = 4096 := by unfold dirN; rw [prd_zero]; decide
def mis (p r : Nat → Int) (m : Nat) : Nat → Int
 | 0 => 0
 | i + 1 => mis p r m i + (p i / 512 * r (m - i)) / 32768
theorem mterm_bd (x y : Int) (x1 : -4294967296 ≤ x) (x2 : x ≤ 4294967296) (y1 : -2147483647 ≤ y) (y2 : y ≤ 2147483647) : (-18014398509481984 ≤ x / 512 * y ∧ x / 512 * y ≤ 18014398509481984) ∧ -549755813888 ≤ (x / 512 * y) / 32768 ∧ (x / 512 * y) / 32768 ≤ 549755813888 := by
 have b1 : -8388608 ≤ x / 512 := by omega
 have b2 : x / 512 ≤ 8388608 := by omega
 generalize x / 512 = z at *
 have e1 : 0 ≤ (8388608 - z) * (2147483648 - y) := Int.mul_nonneg (by omega) (by omega)
 have e2 : 0 ≤ (8388608 + z) * (2147483648 + y) := Int.mul_nonneg (by omega) (by omega)
 have e3 : 0 ≤ (8388608 - z) * (2147483648 + y) := Int.mul_nonneg (by omega) (by omega)
 have e4 : 0 ≤ (8388608 + z) * (2147483648 - y) := Int.mul_nonneg (by omega) (by omega)
 simp only [Int.add_mul, Int.sub_mul, Int.mul_add, Int.mul_sub] at e1 e2 e3 e4
 omega
def RB (r : Nat → Int) : Prop := ∀ i, -2147483647 ≤ r i ∧ r i ≤ 2147483647
theorem mis_bd {p r : Nat → Int} (hp : Wi p 4294967296) (hr : RB r) (m : Nat) : ∀ i : Nat, -549755813888 * (i : Int) ≤ mis p r m i ∧ mis p r m i ≤ 549755813888 * (i : Int)
 | 0 => by simp [mis]
 | i + 1 => by
  have a := mis_bd hp hr m i
  have b := (mterm_bd (p i) (r (m - i)) (hp i).1 (hp i).2 (hr _).1 (hr _).2).2
  show -549755813888 * ((i + 1 : Nat) : Int) ≤ mis p r m i + _ ∧ mis p r m i + _ ≤ 549755813888 * ((i + 1 : Nat) : Int)
  omega
structure Lev where
 k : Nat → Int
 p : Nat → Int
 e : Int
 go : Bool
def levQ (r : Nat → Int) (m : Nat) (s : Lev) : Int := (-(mis s.p r (m + 1) (m + 1)) * 32768).tdiv s.e
def eN (e q : Int) : Int := e - (e * q / 32768) * q / 32768
def levStep (r : Nat → Int) (m : Nat) (s : Lev) : Lev :=
 if s.go = true then (if -32000 < levQ r m s ∧ levQ r m s < 32000 then ⟨fun i => if i = m then levQ r m s else s.k i, gr s.p (m + 1) (levQ r m s), eN s.e (levQ r m s), true⟩ else ⟨s.k, s.p, s.e, false⟩) else s
def lev (r : Nat → Int) : Nat → Lev
 | 0 => ⟨fun _ => 0, one24, r 0, true⟩
 | m + 1 => levStep r m (lev r m)
theorem lev_stuck (r : Nat → Int) (m : Nat) (h : (lev r m).go = false) : ∀ d, lev r (m + d) = lev r m
 | 0 => rfl
 | d + 1 => by
  show levStep r (m + d) (lev r (m + d)) = _
  rw [lev_stuck r m h d]
  simp [levStep, h]
theorem eN_bd (e q : Int) (he : 0 < e) (q1 : -32000 < q) (q2 : q < 32000) : 0 < eN e q ∧ eN e q ≤ e ∧ (-(32768 * e) ≤ e * q ∧ e * q ≤ 32768 * e) ∧ (-(32768 * e) ≤ (e * q / 32768) * q ∧ (e * q / 32768) * q ≤ 32768 * e) := by
 have h := qmul_bd q e e (by omega) (by omega) (by omega) (by omega)
 rw [Int.mul_comm q e] at h
 have ht : -e ≤ e * q / 32768 ∧ e * q / 32768 ≤ e := by omega
 have h2 : 0 ≤ (e * q / 32768) * q ∧ (e * q / 32768) * q ≤ 32000 * e := by
  rcases Int.le_total 0 q with c | c
  ·have g : 0 ≤ e * q := Int.mul_nonneg (by omega) c
   have t0 : 0 ≤ e * q / 32768 := by omega
   generalize e * q / 32768 = t at *
   have p1 := Int.mul_nonneg t0 c
   have p2 : t * q ≤ e * 32000 := Int.mul_le_mul ht.2 (by omega) c (by omega)
   omega
  ·have g : 0 ≤ e * -q := Int.mul_nonneg (by omega) (by omega)
   rw [Int.mul_neg] at g
   have t0 : e * q / 32768 ≤ 0 := by omega
   generalize e * q / 32768 = t at *
   have p1 : 0 ≤ -t * -q := Int.mul_nonneg (by omega) (by omega)
   have p2 : -t * -q ≤ e * 32000 := Int.mul_le_mul (by omega) (by omega) (by omega) (by omega)
   rw [Int.neg_mul_neg] at p1 p2
   omega
 unfold eN
 omega
structure InvL (r : Nat → Int) (m : Nat) (s : Lev) : Prop where
 e0 : 0 < s.e
 e1 : s.e ≤ r 0
 pb : Wi s.p (16777216 * 2 ^ m)
 ko : ∀ i, m ≤ i → s.k i = 0
 po : ∀ i, m + 1 ≤ i → s.p i = 0
 kb : ∀ i, -32000 < s.k i ∧ s.k i < 32000
theorem inv_start (r : Nat → Int) (h : 0 < r 0) : InvL r 0 (lev r 0) :=
 ⟨h, Int.le_refl _, one24_bd, fun _ _ => rfl, fun i hi => by simp [lev, one24]; omega, fun _ => by simp [lev]⟩
theorem inv_step {r : Nat → Int} {m : Nat} (h : InvL r m (lev r m)) (hg : (lev r m).go = true) (q1 : -32000 < levQ r m (lev r m)) (q2 : levQ r m (lev r m) < 32000) :
  lev r (m + 1) = ⟨fun i => if i = m then levQ r m (lev r m) else (lev r m).k i, gr (lev r m).p (m + 1) (levQ r m (lev r m)), eN (lev r m).e (levQ r m (lev r m)), true⟩ ∧ InvL r (m + 1) (lev r (m + 1)) := by
 have hs : lev r (m + 1) = ⟨fun i => if i = m then levQ r m (lev r m) else (lev r m).k i, gr (lev r m).p (m + 1) (levQ r m (lev r m)), eN (lev r m).e (levQ r m (lev r m)), true⟩ := by
  show levStep r m (lev r m) = _
  unfold levStep
  rw [if_pos hg, if_pos ⟨q1, q2⟩]
 refine ⟨hs, ?_⟩
 rw [hs]
 obtain ⟨a, b, c, d, f, g⟩ := h
 have en := eN_bd _ _ a q1 q2
 refine ⟨en.1, by have := en.2.1; show eN _ _ ≤ _; omega, ?_, fun i hi => ?_, fun i hi => gr_out f _ i hi, fun i => ?_⟩
 ·rw [show (16777216 : Int) * 2 ^ (m + 1) = 2 * (16777216 * 2 ^ m) by rw [Int.pow_succ]; omega]
  exact gr_bd c (Int.mul_nonneg (by decide) (Int.le_of_lt (Int.pow_pos (by decide)))) _ _ (by omega) (by omega)
 ·show (if i = m then _ else _) = (0 : Int)
  rw [if_neg (by omega)]
  exact d i (by omega)
 ·show -32000 < (if i = m then _ else _) ∧ (if i = m then _ else _) < (32000 : Int)
  split
  ·exact ⟨q1, q2⟩
  ·exact g i
theorem lev_stop {r : Nat → Int} {m : Nat} (hg : (lev r m).go = true) (hq : ¬ (-32000 < levQ r m (lev r m) ∧ levQ r m (lev r m) < 32000)) (hm : m < 8) : lev r 8 = ⟨(lev r m).k, (lev r m).p, (lev r m).e, false⟩ := by
 have hs : lev r (m + 1) = ⟨(lev r m).k, (lev r m).p, (lev r m).e, false⟩ := by
  show levStep r m (lev r m) = _
  unfold levStep
  rw [if_pos hg, if_neg hq]
 have := lev_stuck r (m + 1) (by rw [hs]) (7 - m)
 rw [show m + 1 + (7 - m) = 8 by omega] at this
 rw [this, hs]
theorem InvL.pb' {r : Nat → Int} {m : Nat} {s : Lev} (h : InvL r m s) (hm : m ≤ 8) : Wi s.p 4294967296 := h.pb.le (by have := pow8 m hm; omega)
def rngB (r : List Int) : Bool := r.all fun c => decide (-2147483647 ≤ c) && decide (c ≤ 2147483647)
theorem rngB_iff (a : List Int) : rngB a = true ↔ ∀ i, i < a.length → -2147483647 ≤ nth a i ∧ nth a i ≤ 2147483647 := by
 unfold rngB
 rw [all_iff]
 simp
theorem RB_of {r : List Int} (h : rngB r = true) : RB (nth r) := fun i => by
 by_cases hi : i < r.length
 ·exact (rngB_iff r).1 h i hi
 ·rw [getD_out r i (by omega)]; omega
def okL (r : List Int) : Bool := rngB r && decide (0 < nth r 0)
def levK (r : List Int) : List Int := if okL r = true then tab 8 (lev (nth r) 8).k else zeros 8
def levE (r : List Int) : Int := if okL r = true then (lev (nth r) 8).e else 0
def levG (r : List Int) : Bool := if okL r = true then (lev (nth r) 8).go else false
theorem levK_len (r : List Int) : (levK r).length = 8 := by unfold levK; split; exact tab_len _ _; exact zeros_len _
theorem lev_all (r : Nat → Int) (h : 0 < r 0) : ∀ m, (∀ i, -32000 < (lev r m).k i ∧ (lev r m).k i < 32000) ∧ ((lev r m).go = true → InvL r m (lev r m))
 | 0 => ⟨fun i => by simp [lev], fun _ => inv_start r h⟩
 | m + 1 => by
  obtain ⟨a, b⟩ := lev_all r h m
  rcases hg : (lev r m).go with _ | _
  ·have := lev_stuck r m hg 1
   rw [this]
   exact ⟨a, fun h => by rw [hg] at h; cases h⟩
  ·by_cases hq : -32000 < levQ r m (lev r m) ∧ levQ r m (lev r m) < 32000
   ·have i1 := (inv_step (b hg) hg hq.1 hq.2).2
    exact ⟨i1.kb, fun _ => i1⟩
   ·have hs : lev r (m + 1) = ⟨(lev r m).k, (lev r m).p, (lev r m).e, false⟩ := by
     show levStep r m (lev r m) = _
     unfold levStep
     rw [if_pos hg, if_neg hq]
    rw [hs]
    exact ⟨a, fun h => by cases h⟩
theorem levK_bd (r : List Int) (i : Nat) : -32000 < nth (levK r) i ∧ nth (levK r) i < 32000 := by
 unfold levK
 split
 ·rename_i h
  have h0 : 0 < nth r 0 := by simp [okL] at h; exact h.2
  by_cases hi : i < 8
  ·rw [tab_nth _ _ _ hi]; exact (lev_all _ h0 8).1 i
  ·rw [getD_out _ i (by rw [tab_len]; omega)]; omega
 ·rw [zeros_nth]; omega
end Go.Proofs.YtdejpongekicdaaGreatDoor

/- PackMath -/
namespace Go.Proofs.YtdejpongekicdaaGreatDoor
open Go.RowKit
set_option linter.unusedVariables false
set_option linter.unusedSimpArgs false
def wdP : List Nat := [2, 6, 6, 5, 5, 4, 4, 3, 3, 6, 3, 4, 4, 4, 4, 4, 5, 6, 3, 4, 4, 4, 4, 4, 5]
def wdN (i : Nat) : Nat := wdP.getD i 0
def moP : List Int := [2, 63, 63, 31, 31, 15, 15, 7, 7, 59, 7, 9, 9, 9, 9, 15, 31, 59, 7, 9, 9, 9, 9, 15, 31]
def moN (i : Nat) : Int := moP.getD i 0
def sW : Nat → Nat
 | 0 => 0
 | i + 1 => sW i + wdN i
theorem sW25 : sW 25 = 106 := by decide
theorem sW_le (i : Nat) (h : i ≤ 25) : sW i ≤ 106 := by
 have : ∀ i : Fin 26, sW i.val ≤ 106 := by decide
 exact this ⟨i, by omega⟩
theorem wdN_le (i : Nat) (h : i < 25) : 2 ≤ wdN i ∧ wdN i ≤ 6 := by
 have : ∀ i : Fin 25, 2 ≤ wdN i.val ∧ wdN i.val ≤ 6 := by decide
 exact this ⟨i, h⟩
theorem moN_lt (i : Nat) (h : i < 25) : 0 ≤ moN i ∧ moN i < 2 ^ wdN i ∧ moN i ≤ 63 := by
 have : ∀ i : Fin 25, 0 ≤ moN i.val ∧ moN i.val < 2 ^ wdN i.val ∧ moN i.val ≤ 63 := by decide
 exact this ⟨i, h⟩
theorem p2_pos (k : Nat) : (0 : Int) < 2 ^ k := Int.pow_pos (by decide)
def gudP (l : List Int) : Bool := (List.range 25).all fun i => decide (0 ≤ nth l i) && decide (nth l i ≤ moN i)
theorem gudP_iff (l : List Int) : gudP l = true ↔ ∀ i, i < 25 → 0 ≤ nth l i ∧ nth l i ≤ moN i := by
 unfold gudP
 rw [List.all_eq_true]
 constructor
 ·intro h i hi
  have := h i (List.mem_range.2 hi)
  simpa using this
 ·intro h i hi
  have := h i (List.mem_range.1 hi)
  simpa using this
theorem gudP_no (l : List Int) (i : Nat) (h : i < 25) (hn : ¬ (0 ≤ nth l i ∧ nth l i ≤ moN i)) : gudP l = false := by
 rcases hb : gudP l with _ | _
 ·rfl
 ·exact absurd ((gudP_iff l).1 hb i h) hn
def nF (l : List Int) : Nat → Int
 | 0 => 0
 | i + 1 => nF l i * 2 ^ wdN i + nth l i
theorem nF_bd (l : List Int) (h : gudP l = true) : ∀ i, i ≤ 25 → 0 ≤ nF l i ∧ nF l i < 2 ^ sW i
 | 0, _ => ⟨Int.le_refl _, by show (0 : Int) < 2 ^ 0; decide⟩
 | i + 1, hi => by
  obtain ⟨h1, h2⟩ := nF_bd l h i (by omega)
  obtain ⟨g1, g2⟩ := (gudP_iff l).1 h i (by omega)
  obtain ⟨m1, m2, m3⟩ := moN_lt i (by omega)
  have hp := p2_pos (wdN i)
  have e1 : 0 ≤ nF l i * 2 ^ wdN i := Int.mul_nonneg h1 (Int.le_of_lt hp)
  have e2 : (nF l i + 1) * 2 ^ wdN i ≤ 2 ^ sW i * 2 ^ wdN i := Int.mul_le_mul_of_nonneg_right (by omega) (Int.le_of_lt hp)
  rw [Int.add_mul, ← Int.pow_add] at e2
  show 0 ≤ nF l i * 2 ^ wdN i + nth l i ∧ nF l i * 2 ^ wdN i + nth l i < 2 ^ (sW i + wdN i)
  omega
def bitS (x : Int) : Nat → Int
 | 0 => 0
 | k + 1 => bitS x k + x / 2 ^ k % 2
theorem bitS_bd (x : Int) : ∀ k : Nat, 0 ≤ bitS x k ∧ bitS x k ≤ k
 | 0 => ⟨Int.le_refl _, Int.le_refl _⟩
 | k + 1 => by
  have := bitS_bd x k
  show 0 ≤ bitS x k + x / 2 ^ k % 2 ∧ bitS x k + x / 2 ^ k % 2 ≤ ((k + 1 : Nat) : Int)
  generalize x / 2 ^ k = y
  omega
def pS (x : Int) : Int := if 0 < x then bitS x 63 else 0
theorem pS_bd (x : Int) : 0 ≤ pS x ∧ pS x ≤ 63 := by
 unfold pS
 split
 ·exact bitS_bd x 63
 ·omega
def parL (l : List Int) : Int := (pS (nth l 0) + pS (nth l 9) + pS (nth l 17)) % 2
theorem parL_bd (l : List Int) : 0 ≤ parL l ∧ parL l < 2 := by unfold parL; omega
def numP (l : List Int) : Int := (nF l 25 * 2 + parL l) * 32
theorem numP_bd (l : List Int) (h : gudP l = true) : 0 ≤ numP l ∧ numP l < 5192296858534827628530496329220096 := by
 obtain ⟨h1, h2⟩ := nF_bd l h 25 (Nat.le_refl _)
 obtain ⟨h3, h4⟩ := parL_bd l
 rw [sW25, show (2 : Int) ^ 106 = 81129638414606681695789005144064 by decide] at h2
 unfold numP
 omega
def byN (x : Int) (k : Nat) : Int := x / 256 ^ (13 - k) % 256
theorem byN_bd (x : Int) (k : Nat) : 0 ≤ byN x k ∧ byN x k < 256 := by unfold byN; omega
def sumB (b : List Int) : Nat → Int
 | 0 => 0
 | i + 1 => sumB b i + nth b i
def byB (b : List Int) : Prop := ∀ i, 0 ≤ nth b i ∧ nth b i < 256
theorem sumB_bd (b : List Int) (h : byB b) : ∀ n : Nat, 0 ≤ sumB b n ∧ sumB b n ≤ 256 * (n : Int)
 | 0 => ⟨Int.le_refl _, Int.le_refl _⟩
 | n + 1 => by
  have := sumB_bd b h n
  have := h n
  show 0 ≤ sumB b n + nth b n ∧ sumB b n + nth b n ≤ 256 * ((n + 1 : Nat) : Int)
  omega
theorem sumB_congr (a b : List Int) : ∀ n : Nat, (∀ i, i < n → nth a i = nth b i) → sumB a n = sumB b n
 | 0, _ => rfl
 | n + 1, h => by
  show sumB a n + nth a n = sumB b n + nth b n
  rw [sumB_congr a b n (fun i hi => h i (by omega)), h n (by omega)]
def chN (b : List Int) (n : Nat) : Int := (90 + sumB b n) % 256
def pkL (x : Int) : List Int := tab 14 (byN x)
theorem pkL_len (x : Int) : (pkL x).length = 14 := tab_len _ _
theorem pkL_nth (x : Int) (i : Nat) (h : i < 14) : nth (pkL x) i = byN x i := tab_nth _ _ _ h
def pkA (l : List Int) : List Int := pkL (numP l) ++ [chN (pkL (numP l)) 14]
def pkR (l : List Int) : List Int := if gudP l = true then pkA l else []
def pakE (l : List Int) : Int := if gudP l = true then 0 else 2
theorem pkA_len (l : List Int) : (pkA l).length = 15 := by unfold pkA; rw [List.length_append, pkL_len]; rfl
theorem pkA_lo (l : List Int) (i : Nat) (h : i < 14) : nth (pkA l) i = byN (numP l) i := by
 have e : nth (pkA l) i = nth (pkL (numP l)) i := by
  unfold pkA
  simp [nth, List.getD, List.getElem?_append, pkL_len, h]
 rw [e, pkL_nth _ _ h]
theorem pkA_hi (l : List Int) : nth (pkA l) 14 = chN (pkA l) 14 := by
 have e : nth (pkA l) 14 = chN (pkL (numP l)) 14 := by
  unfold pkA
  simp [nth, List.getD, List.getElem?_append, pkL_len]
 rw [e]
 unfold chN
 rw [sumB_congr (pkA l) (pkL (numP l)) 14 (fun i hi => by rw [pkA_lo l i hi, pkL_nth _ _ hi])]
theorem pkA_by (l : List Int) : byB (pkA l) := fun i => by
 rcases Nat.lt_trichotomy i 14 with h | h | h
 ·rw [pkA_lo l i h]; exact byN_bd _ _
 ·subst h; rw [pkA_hi]; unfold chN; omega
 ·rw [getD_out _ i (by rw [pkA_len]; omega)]; omega
def xB (b : List Int) : Nat → Int
 | 0 => 0
 | i + 1 => xB b i * 256 + nth b i
theorem xB_congr (a b : List Int) : ∀ n : Nat, (∀ i, i < n → nth a i = nth b i) → xB a n = xB b n
 | 0, _ => rfl
 | n + 1, h => by
  show xB a n * 256 + nth a n = xB b n * 256 + nth b n
  rw [xB_congr a b n (fun i hi => h i (by omega)), h n (by omega)]
theorem p256_pos (k : Nat) : (0 : Int) < 256 ^ k := Int.pow_pos (by decide)
theorem xB_pk (x : Int) (h0 : 0 ≤ x) (h1 : x < 256 ^ 14) : ∀ i : Nat, i ≤ 14 → xB (pkL x) i = x / 256 ^ (14 - i)
 | 0, _ => by
  show (0 : Int) = x / 256 ^ 14
  rw [Int.ediv_eq_zero_of_lt h0 h1]
 | i + 1, hi => by
  show xB (pkL x) i * 256 + nth (pkL x) i = _
  rw [xB_pk x h0 h1 i (by omega), pkL_nth x i (by omega)]
  unfold byN
  rw [show 14 - i = (13 - i) + 1 by omega, show 14 - (i + 1) = 13 - i by omega, Int.pow_succ, ← Int.ediv_ediv_of_nonneg (Int.le_of_lt (p256_pos _))]
  generalize x / 256 ^ (13 - i) = z
  omega
theorem xB_div (b : List Int) (h : byB b) : ∀ d i : Nat, i + d = 14 → xB b 14 / 256 ^ d = xB b i
 | 0, i, e => by
  obtain rfl : i = 14 := by omega
  rw [show (256 : Int) ^ 0 = 1 from rfl, Int.ediv_one]
 | d + 1, i, e => by
  have := xB_div b h d (i + 1) (by omega)
  have hb := h i
  rw [Int.pow_succ, ← Int.ediv_ediv_of_nonneg (Int.le_of_lt (p256_pos _)), this]
  show (xB b i * 256 + nth b i) / 256 = xB b i
  omega
theorem byN_xB (b : List Int) (h : byB b) (k : Nat) (hk : k < 14) : byN (xB b 14) k = nth b k := by
 unfold byN
 rw [xB_div b h (13 - k) (k + 1) (by omega)]
 have hb := h k
 show (xB b k * 256 + nth b k) % 256 = nth b k
 omega
def fI (X : Int) (i : Nat) : Int := X / 2 ^ (112 - sW (i + 1)) % 2 ^ wdN i
theorem fI_bd (X : Int) (i : Nat) (h : i < 25) : 0 ≤ fI X i ∧ fI X i < 2 ^ wdN i ∧ fI X i ≤ 63 := by
 unfold fI
 have hp := p2_pos (wdN i)
 have h1 := Int.emod_nonneg (X / 2 ^ (112 - sW (i + 1))) (Int.ne_of_gt hp)
 have h2 := Int.emod_lt_of_pos (X / 2 ^ (112 - sW (i + 1))) hp
 have h3 : (2 : Int) ^ wdN i ≤ 64 := by
  have : ∀ i : Fin 25, (2 : Int) ^ wdN i.val ≤ 64 := by decide
  exact this ⟨i, h⟩
 omega
def unF (X : Int) : List Int := tab 25 (fI X)
theorem unF_len (X : Int) : (unF X).length = 25 := tab_len _ _
theorem unF_nth (X : Int) (i : Nat) (h : i < 25) : nth (unF X) i = fI X i := tab_nth _ _ _ h
theorem sW_split (i : Nat) (hi : i < 25) : (2 : Int) ^ (112 - sW i) = 2 ^ (112 - sW (i + 1)) * 2 ^ wdN i := by
 have h1 := sW_le (i + 1) (by omega)
 have h2 : sW (i + 1) = sW i + wdN i := rfl
 rw [← Int.pow_add, show 112 - sW i = 112 - sW (i + 1) + wdN i by omega]
theorem div_split (X : Int) (i : Nat) (hi : i < 25) : X / 2 ^ (112 - sW i) = X / 2 ^ (112 - sW (i + 1)) / 2 ^ wdN i := by
 rw [sW_split i hi, Int.ediv_ediv_of_nonneg (Int.le_of_lt (p2_pos _))]
theorem num_div (l : List Int) (h : gudP l = true) : ∀ d i : Nat, i + d = 25 → numP l / 2 ^ (112 - sW i) = nF l i
 | 0, i, e => by
  obtain rfl : i = 25 := by omega
  obtain ⟨h3, h4⟩ := parL_bd l
  rw [sW25, show (2 : Int) ^ (112 - 106) = 64 by decide]
  unfold numP
  omega
 | d + 1, i, e => by
  rw [div_split _ i (by omega), num_div l h d (i + 1) (by omega)]
  obtain ⟨g1, g2⟩ := (gudP_iff l).1 h i (by omega)
  obtain ⟨m1, m2, m3⟩ := moN_lt i (by omega)
  show (nF l i * 2 ^ wdN i + nth l i) / 2 ^ wdN i = nF l i
  rw [Int.add_comm, Int.add_mul_ediv_right _ _ (Int.ne_of_gt (p2_pos _)), Int.ediv_eq_zero_of_lt g1 (by omega), Int.zero_add]
theorem un_num (l : List Int) (hl : l.length = 25) (h : gudP l = true) : unF (numP l) = l := by
 refine (tab_ext hl (fun i hi => ?_)).symm
 unfold fI
 rw [num_div l h (24 - i) (i + 1) (by omega)]
 obtain ⟨g1, g2⟩ := (gudP_iff l).1 h i (by omega)
 obtain ⟨m1, m2, m3⟩ := moN_lt i (by omega)
 show nth l i = (nF l i * 2 ^ wdN i + nth l i) % 2 ^ wdN i
 rw [Int.add_comm, Int.add_mul_emod_self_right, Int.emod_eq_of_lt g1 (by omega)]
def pB (X : Int) : Int := X / 32 % 2
theorem pB_num (l : List Int) : pB (numP l) = parL l ∧ numP l % 32 = 0 := by
 obtain ⟨h3, h4⟩ := parL_bd l
 unfold pB numP
 omega
def unE (b : List Int) : Int := if b.length = 15 then (if chN b 14 = nth b 14 then (if xB b 14 % 32 = 0 then (if gudP (unF (xB b 14)) = true then (if parL (unF (xB b 14)) = pB (xB b 14) then 0 else 3) else 2) else 3) else 5) else 1
def unpL (b : List Int) : List Int := if unE b = 0 then unF (xB b 14) else tab 25 (fun _ => 0)
theorem unE_size (b : List Int) (h : b.length ≠ 15) : unE b = 1 := if_neg h
theorem unE_sum (b : List Int) (h : b.length = 15) (h1 : chN b 14 ≠ nth b 14) : unE b = 5 := by unfold unE; rw [if_pos h, if_neg h1]
theorem unE_form (b : List Int) (h : b.length = 15) (h1 : chN b 14 = nth b 14) (h2 : xB b 14 % 32 ≠ 0) : unE b = 3 := by unfold unE; rw [if_pos h, if_pos h1, if_neg h2]
theorem unE_range (b : List Int) (h : b.length = 15) (h1 : chN b 14 = nth b 14) (h2 : xB b 14 % 32 = 0) (h3 : gudP (unF (xB b 14)) = false) : unE b = 2 := by
 unfold unE; rw [if_pos h, if_pos h1, if_pos h2, if_neg (by rw [h3]; decide)]
theorem unE_par (b : List Int) (h : b.length = 15) (h1 : chN b 14 = nth b 14) (h2 : xB b 14 % 32 = 0) (h3 : gudP (unF (xB b 14)) = true) (h4 : parL (unF (xB b 14)) ≠ pB (xB b 14)) : unE b = 3 := by
 unfold unE; rw [if_pos h, if_pos h1, if_pos h2, if_pos h3, if_neg h4]
theorem unE_ok (b : List Int) (h : b.length = 15) (h1 : chN b 14 = nth b 14) (h2 : xB b 14 % 32 = 0) (h3 : gudP (unF (xB b 14)) = true) (h4 : parL (unF (xB b 14)) = pB (xB b 14)) : unE b = 0 := by
 unfold unE; rw [if_pos h, if_pos h1, if_pos h2, if_pos h3, if_pos h4]
theorem unE_zero (b : List Int) (e : unE b = 0) : b.length = 15 ∧ chN b 14 = nth b 14 ∧ xB b 14 % 32 = 0 ∧ gudP (unF (xB b 14)) = true ∧ parL (unF (xB b 14)) = pB (xB b 14) := by
 by_cases h : b.length = 15
 ·by_cases h1 : chN b 14 = nth b 14
  ·by_cases h2 : xB b 14 % 32 = 0
   ·rcases h3 : gudP (unF (xB b 14)) with _ | _
    ·rw [unE_range b h h1 h2 h3] at e; omega
    ·by_cases h4 : parL (unF (xB b 14)) = pB (xB b 14)
     ·exact ⟨h, h1, h2, rfl, h4⟩
     ·rw [unE_par b h h1 h2 h3 h4] at e; omega
   ·rw [unE_form b h h1 h2] at e; omega
  ·rw [unE_sum b h h1] at e; omega
 ·rw [unE_size b h] at e; omega
theorem xB_pkA (l : List Int) (h : gudP l = true) : xB (pkA l) 14 = numP l := by
 obtain ⟨h0, h1⟩ := numP_bd l h
 rw [xB_congr (pkA l) (pkL (numP l)) 14 (fun i hi => by rw [pkA_lo l i hi, pkL_nth _ _ hi]), xB_pk _ h0 (by rw [show (256 : Int) ^ 14 = 5192296858534827628530496329220096 by decide]; exact h1) 14 (Nat.le_refl _)]
 rw [show (256 : Int) ^ (14 - 14) = 1 from rfl, Int.ediv_one]
theorem un_pk (l : List Int) (hl : l.length = 25) (h : gudP l = true) : unE (pkA l) = 0 ∧ unpL (pkA l) = l := by
 have e := xB_pkA l h
 have u := un_num l hl h
 obtain ⟨p1, p2⟩ := pB_num l
 have z : unE (pkA l) = 0 := unE_ok _ (pkA_len l) (pkA_hi l).symm (by rw [e]; exact p2) (by rw [e, u]; exact h) (by rw [e, u, p1])
 refine ⟨z, ?_⟩
 unfold unpL
 rw [if_pos z, e, u]
theorem nth_set (l : List Int) (k : Nat) (z : Int) (h : k < l.length) (i : Nat) : nth (l.set k z) i = if i = k then z else nth l i := by
 unfold nth
 by_cases e : i = k
 ·subst e; simp [List.getD, h]
 ·simp [List.getD, e, List.getElem?_set, Ne.symm e]
end Go.Proofs.YtdejpongekicdaaGreatDoor

/- OpensB -/
namespace Go.Proofs.YtdejpongekicdaaGreatDoor
set_option maxRecDepth 100000
open Go.ChangeShapes Go.WideShapes Go.ChangeAt Go.RowKit
set_option linter.unusedVariables false
set_option linter.unusedSimpArgs false
theorem o_cellsByt : Tryz.prog.cellsOf 5 = 1 := by kernel_rfl
theorem o_bytesByt : Tryz.prog.bytesOf 5 = 1 := by kernel_rfl
theorem byt_wf {n : Int} (h : (Lit.int .u8 n).wf = true) : 0 ≤ n ∧ n < 256 := by
 simp [Lit.wf, IntKind.has, IntKind.min, IntKind.max, IntKind.signed, IntKind.bits] at h
 omega
end Go.Proofs.YtdejpongekicdaaGreatDoor

/- VBlk -/
namespace Go.Proofs.YtdejpongekicdaaGreatDoor
open Go.RowKit
set_option linter.unusedVariables false
set_option linter.unusedSimpArgs false
def BlkV (w : World) (b : Nat) (T : TypeId) (cs : List Value) : Prop := w.heap[b]? = some (.cells cs.toArray T (0, 0))
theorem BlkV.cell {w : World} {b : Nat} {T : TypeId} {cs : List Value} (h : BlkV w b T cs) (i : Nat) : w.cell? ⟨b, i, none⟩ = cs[i]? := by rw [cell_of_heap h]; simp
theorem BlkV.free {w : World} {b : Nat} {T : TypeId} {cs : List Value} (h : BlkV w b T cs) (i : Nat) : w.frozen? ⟨b, i, none⟩ = false := frozen_of_heap h i
theorem BlkV.lt {w : World} {b : Nat} {T : TypeId} {cs : List Value} (h : BlkV w b T cs) : b < w.heap.size := lt_of_some h
theorem BlkV.keep {w w' : World} {b : Nat} {T : TypeId} {cs : List Value} (h : BlkV w b T cs) (g : w.grownBy w' none) : BlkV w' b T cs := (g.block _ (lt_of_some h) (by simp)).trans h
theorem BlkV.keepBut {w w' : World} {b : Nat} {T : TypeId} {cs : List Value} {r : Nat} (h : BlkV w b T cs) (g : w.grownBy w' (some r)) (hr : b ≠ r) : BlkV w' b T cs := (g.block _ (lt_of_some h) (by simpa using hr)).trans h
theorem BlkV.new (w : World) (T : TypeId) (cs : List Value) : BlkV (w.alloc (.cells cs.toArray T)) w.heap.size T cs := heap_new w _
theorem BlkV.set {w : World} {b : Nat} {T : TypeId} {cs : List Value} (h : BlkV w b T cs) (k : Nat) (v : Value) : BlkV (w.setCell ⟨b, k, none⟩ v) b T (cs.set k v) := by
 unfold BlkV
 rw [heap_setCell h]
 simp
theorem BlkV.range {w : World} {b : Nat} {T : TypeId} {cs : List Value} (h : BlkV w b T cs) (o n : Nat) : w.rangeAt b o ((cs.drop o).take n) := fun j v hv => by
 rw [h.cell]
 rw [List.getElem?_take] at hv
 split at hv
 ·rw [List.getElem?_drop] at hv; exact hv
 ·cases hv
theorem BlkV.there {w : World} {b : Nat} {T : TypeId} {cs : List Value} (h : BlkV w b T cs) (o n : Nat) (hn : o + n ≤ cs.length) : w.there b o n := fun j hj =>
 ⟨by rw [h.cell, List.getElem?_eq_getElem (by omega)]; rfl, h.free _⟩
def splV (cs : List Value) (o : Nat) (vs : List Value) : List Value := cs.take o ++ vs ++ cs.drop (o + vs.length)
theorem splV_all (cs vs : List Value) (h : vs.length = cs.length) : splV cs 0 vs = vs := by simp [splV, h]
theorem heap_setV (b : Nat) (T : TypeId) : ∀ (vs : List Value) (o : Nat) (w : World) (cs : List Value), BlkV w b T cs → o + vs.length ≤ cs.length → BlkV (w.setCells b o vs) b T (splV cs o vs) ∧ w.grownBy (w.setCells b o vs) (some b)
 | [], o, w, cs, h, _ => ⟨by show BlkV w b T (splV cs o []); unfold splV; simp; exact h, grown_refl w _⟩
 | z :: M, o, w, cs, h, hl => by
  simp only [List.length_cons] at hl
  have h1 := h.set o z
  obtain ⟨a1, a2⟩ := heap_setV b T M (o + 1) (w.setCell ⟨b, o, none⟩ z) (cs.set o z) h1 (by rw [List.length_set]; omega)
  refine ⟨?_, grown_trans (grown_setCell w ⟨b, o, none⟩ _) a2 (some b) (fun i e _ => e) (fun i e _ => e)⟩
  have e : splV (cs.set o z) (o + 1) M = splV cs o (z :: M) := by
   unfold splV
   rw [List.take_succ_eq_append_getElem (by rw [List.length_set]; omega)]
   simp [show o < cs.length by omega]
   rw [List.drop_set_of_lt (by omega), show o + 1 + M.length = o + (M.length + 1) by omega]
   rw [List.take_set_of_le (Nat.le_refl _)]
  rw [← e]
  exact a1
def putV (w : World) (b o : Nat) (vs : List Value) : World := w.setCells b o vs
theorem put_v {w : World} {b : Nat} {T : TypeId} {cs : List Value} (h : BlkV w b T cs) (o : Nat) (vs : List Value) (hl : o + vs.length ≤ cs.length) : BlkV (putV w b o vs) b T (splV cs o vs) ∧ w.grownBy (putV w b o vs) (some b) := heap_setV b T vs o w cs h hl
theorem wpList_load_v {ops : Array Oper} {rest : List Oper} {op : Oper} {a : Act} {w : World} {Q : Exit → Act → World → Prop} (hgd : op.guard = none) (T : TypeId) (x : Operand) (ho : op.op = .load T x)
  (b o n : Nat) (hx : a.eval x = .pointer (some ⟨b, o, none⟩)) (TB : TypeId) (cs : List Value) (h : BlkV w b TB cs) (d : TypeDesc) (hu : Tryz.prog.underlying T = some d) (hd : d.isRow = true) (hi : (Tryz.prog.info? T).map (·.size) = some n) (hn : o + n ≤ cs.length) (vs : List Value) (hvs : (cs.drop o).take n = vs)
  (k : wpList Tryz.prog ops Q rest (a.put op.dst (.agg vs.toArray)) w) : wpList Tryz.prog ops Q (op :: rest) a w := by
 subst hvs
 exact wpList_load_mid hgd T x ho b o hx _ d (h.range o n) hu hd (by rw [hi]; simp; omega) k
theorem wpList_load_vG {ops : Array Oper} {rest : List Oper} {op : Oper} {a : Act} {w : World} {Q : Exit → Act → World → Prop} (hgd : Region.wanted op (yielded ops a.tmps) = true) (T : TypeId) (x : Operand) (ho : op.op = .load T x)
  (b o n : Nat) (hx : a.eval x = .pointer (some ⟨b, o, none⟩)) (TB : TypeId) (cs : List Value) (h : BlkV w b TB cs) (d : TypeDesc) (hu : Tryz.prog.underlying T = some d) (hd : d.isRow = true) (hi : (Tryz.prog.info? T).map (·.size) = some n) (hn : o + n ≤ cs.length) (vs : List Value) (hvs : (cs.drop o).take n = vs)
  (k : wpList Tryz.prog ops Q rest (a.put op.dst (.agg vs.toArray)) w) : wpList Tryz.prog ops Q (op :: rest) a w := by
 subst hvs
 refine wpList_step fun K hK => ?_
 rw [if_pos hgd]
 exact wp_load_mid T x ho b o hx _ d (h.range o n) hu hd (by rw [hi]; simp; omega) (hK _ _ k)
theorem yields_load_v {w : World} {b o n : Nat} {T TB : TypeId} {cs : List Value} {a : Act} {op : Oper} {x : Operand} (ho : op.op = .load T x) (hx : a.eval x = .pointer (some ⟨b, o, none⟩)) (h : BlkV w b TB cs) (d : TypeDesc) (hu : Tryz.prog.underlying T = some d) (hd : d.isRow = true) (hi : (Tryz.prog.info? T).map (·.size) = some n) (hn : o + n ≤ cs.length) (vs : List Value) (hvs : (cs.drop o).take n = vs) :
  (execOp a.eval op).run Tryz.prog w = .ok (.value (.agg vs.toArray)) w := by
 subst hvs
 have := run_loadAt_mid (P := Tryz.prog) w b o T _ d (h.range o n) hu hd (by rw [hi]; simp; omega)
 unfold execOp
 simp [ho, hx, this]
theorem loadVar_v {w : World} {b : Nat} {T : TypeId} {cs : List Value} (h : BlkV w b T cs) (d : TypeDesc) (hu : Tryz.prog.underlying T = some d) (hd : d.isRow = true) (hi : (Tryz.prog.info? T).map (·.size) = some cs.length) :
  Sem.run Tryz.prog (loadVar T ⟨b, 0, none⟩) w = .ok (.agg cs.toArray) w := by
 have := run_loadVar_mid (P := Tryz.prog) w b 0 T ((cs.drop 0).take cs.length) d (h.range 0 cs.length) hu hd (by rw [hi]; simp)
 simpa using this
theorem ones_v {vs : List Value} (h : ∀ v ∈ vs, v.oneCell' = true) : vs.toArray.all (·.oneCell') = true := all_oneCell_toArray h
theorem wpList_store_v {ops : Array Oper} {rest : List Oper} {op : Oper} {a : Act} {w : World} {Q : Exit → Act → World → Prop} (hgd : op.guard = none) (T : TypeId) (x y : Operand) (ho : op.op = .store T x y)
  (b o : Nat) (TB : TypeId) (cs vs : List Value) (hx : a.eval x = .pointer (some ⟨b, o, none⟩)) (hy : a.eval y = .agg vs.toArray) (h : BlkV w b TB cs) (hl : o + vs.length ≤ cs.length) (hi : (Tryz.prog.info? T).map (·.size) = some vs.length) (h1 : ∀ v ∈ vs, v.oneCell' = true)
  (k : wpList Tryz.prog ops Q rest (a.put op.dst undef) (putV w b o vs)) : wpList Tryz.prog ops Q (op :: rest) a w :=
 wpList_store_mid hgd T x y ho b o vs.toArray hx hy (by simpa using h.there o vs.length hl) (by simpa using hi) (ones_v h1) (by simpa [putV] using k)
theorem step_store_v {y : Nat → Option Bool} {op : Oper} {a : Act} {w : World} {K : Act → World → Prop} {Q : Exit → Act → World → Prop} {E : Prop} (hg : op.guard = none) (T : TypeId) (x z : Operand) (ho : op.op = .store T x z)
  (b o : Nat) (TB : TypeId) (cs vs : List Value) (hx : a.eval x = .pointer (some ⟨b, o, none⟩)) (hy : a.eval z = .agg vs.toArray) (h : BlkV w b TB cs) (hl : o + vs.length ≤ cs.length) (hi : (Tryz.prog.info? T).map (·.size) = some vs.length) (h1 : ∀ v ∈ vs, v.oneCell' = true)
  (k : K (a.put op.dst undef) (putV w b o vs)) : if Region.wanted op y = true then Oper.wp Tryz.prog op a w K Q else E := by
 have hw : Region.wanted op y = true := by simp [Region.wanted, hg]
 rw [if_pos hw]
 exact wp_store_mid T x z ho b o vs.toArray hx hy (by simpa using h.there o vs.length hl) (by simpa using hi) (ones_v h1) (by simpa [putV] using k)
def intsV (l : List Int) : List Value := l.map (Value.int .i64)
theorem intsV_arr (l : List Int) : (intsV l).toArray = arrI l := rfl
theorem intsV_one (l : List Int) : ∀ v ∈ intsV l, v.oneCell' = true := by
 intro v hv
 obtain ⟨x, _, rfl⟩ := List.mem_map.1 hv
 rfl
theorem intsV_len (l : List Int) : (intsV l).length = l.length := by simp [intsV]
def prt (l : List Int) (o n : Nat) : List Int := tab n (fun i => nth l (o + i))
theorem prt_len (l : List Int) (o n : Nat) : (prt l o n).length = n := tab_len _ _
theorem prt_nth (l : List Int) (o n i : Nat) (h : i < n) : nth (prt l o n) i = nth l (o + i) := tab_nth _ _ _ h
theorem prt_eq (l : List Int) (o n : Nat) (h : o + n ≤ l.length) : (l.drop o).take n = prt l o n := by
 refine tab_ext (by simp; omega) (fun i hi => ?_)
 simp [nth, List.getD, List.getElem?_take, List.getElem?_drop, hi]
def ovr (l : List Int) (o : Nat) (M : List Int) : List Int := tab l.length (fun i => if o ≤ i ∧ i < o + M.length then nth M (i - o) else nth l i)
theorem ovr_len (l : List Int) (o : Nat) (M : List Int) : (ovr l o M).length = l.length := tab_len _ _
theorem ovr_nth (l : List Int) (o : Nat) (M : List Int) (i : Nat) (h : i < l.length) : nth (ovr l o M) i = if o ≤ i ∧ i < o + M.length then nth M (i - o) else nth l i := tab_nth _ _ _ h
theorem ovr_eq (l : List Int) (o : Nat) (M : List Int) (h : o + M.length ≤ l.length) : l.take o ++ M ++ l.drop (o + M.length) = ovr l o M := by
 refine tab_ext (by simp; omega) (fun i hi => ?_)
 unfold nth List.getD
 by_cases h1 : i < o
 ·rw [if_neg (by omega), List.getElem?_append_left (by simp; omega), List.getElem?_append_left (by simp; omega), List.getElem?_take, if_pos h1]
 ·by_cases h2 : i < o + M.length
  ·rw [if_pos (by omega), List.getElem?_append_left (by simp; omega), List.getElem?_append_right (by simp; omega)]
   congr 2
   simp; omega
  ·rw [if_neg (by omega), List.getElem?_append_right (by simp; omega), List.getElem?_drop]
   congr 2
   simp; omega
def mixC (l : List Int) (z : List Value) : List Value := intsV l ++ z
theorem mixC_len (l : List Int) (z : List Value) : (mixC l z).length = l.length + z.length := by simp [mixC, intsV]
theorem mixC_get (l : List Int) (z : List Value) (i : Nat) (h : i < l.length) : (mixC l z)[i]? = some (.int .i64 (nth l i)) := by
 unfold mixC
 rw [List.getElem?_append_left (by rw [intsV_len]; exact h)]
 simp [intsV, nth, List.getD, h]
theorem mixC_set (l : List Int) (z : List Value) (i : Nat) (x : Int) (h : i < l.length) : (mixC l z).set i (.int .i64 x) = mixC (l.set i x) z := by
 unfold mixC intsV
 rw [List.set_append_left _ _ (by simpa using h), List.map_set]
theorem mixC_part (l : List Int) (z : List Value) (o n : Nat) (h : o + n ≤ l.length) : ((mixC l z).drop o).take n = intsV (prt l o n) := by
 rw [← prt_eq l o n h]
 unfold mixC intsV
 rw [List.drop_append_of_le_length (by simp; omega), List.take_append_of_le_length (by simp; omega), ← List.map_drop, ← List.map_take]
theorem mixC_spl (l : List Int) (z : List Value) (o : Nat) (M : List Int) (h : o + M.length ≤ l.length) : splV (mixC l z) o (intsV M) = mixC (ovr l o M) z := by
 rw [← ovr_eq l o M h]
 unfold splV mixC
 rw [intsV_len, List.take_append_of_le_length (by rw [intsV_len]; omega), List.drop_append_of_le_length (by rw [intsV_len]; exact h)]
 simp [intsV, List.map_take, List.map_drop]
theorem mixC_one (l : List Int) (z : List Value) (h : ∀ v ∈ z, v.oneCell' = true) : ∀ v ∈ mixC l z, v.oneCell' = true := by
 intro v hv
 rcases List.mem_append.1 hv with q | q
 ·exact intsV_one l v q
 ·exact h v q
theorem BlkV.ints {w : World} {b : Nat} {T : TypeId} {l : List Int} {z : List Value} (h : BlkV w b T (mixC l z)) (o n c : Nat) (hn : o + n ≤ l.length) (hc : n ≤ c) : Ints w (.slice (some ⟨b, o, none⟩) n c) (prt l o n) := by
 refine ⟨some ⟨b, o, none⟩, c, by rw [prt_len], by rw [prt_len]; exact hc, fun _ => ⟨_, rfl, fun i hi => ?_⟩⟩
 rw [prt_len] at hi
 rw [Addr.add_mid, h.cell, mixC_get _ _ _ (by omega), prt_nth _ _ _ _ hi]
end Go.Proofs.YtdejpongekicdaaGreatDoor

/- DualMath -/
namespace Go.Proofs.YtdejpongekicdaaGreatDoor

end Go.Proofs.YtdejpongekicdaaGreatDoor

/- PowMath -/
namespace Go.Proofs.YtdejpongekicdaaGreatDoor
open Go.RowKit
def gro : List Int := [444758425, 203159592, 97181937, 47538611, 23511884, 11692281, 5830311, 2911209, 1454619, 727063, 363470, 181719, 90856, 45427, 22713]
def groAt (k : Nat) : Int := gro.getD k 0
def powUp (y r : Int) : Int := y + y * r / 1073741824
def powBit (f : Int) (k : Nat) : Int := f / 2 ^ (14 - k) % 2
def pw (f : Int) : Nat → Int
 | 0 => 1073741824
 | k + 1 => if powBit f k = 1 then powUp (pw f k) (groAt k) else pw f k
def topR : List Int → Int → Int
 | [], y => y
 | r :: l, y => topR l (powUp y r)
theorem powUp_ge (y r : Int) (hy : 0 ≤ y) (hr : 0 ≤ r) : y ≤ powUp y r := by
 unfold powUp
 have := Int.ediv_nonneg (Int.mul_nonneg hy hr) (b := 1073741824) (by decide)
 omega
theorem powUp_mono (y z r : Int) (h : y ≤ z) (hr : 0 ≤ r) : powUp y r ≤ powUp z r := by
 unfold powUp
 have := Int.ediv_le_ediv (c := 1073741824) (by decide) (Int.mul_le_mul_of_nonneg_right h hr)
 omega
theorem topR_ge : ∀ (l : List Int) (y : Int), (∀ r ∈ l, 0 ≤ r) → 0 ≤ y → y ≤ topR l y
 | [], _, _, _ => Int.le_refl _
 | r :: l, y, h, hy => by
  have h0 := powUp_ge y r hy (h r (List.mem_cons_self ..))
  exact Int.le_trans h0 (topR_ge l _ (fun x hx => h x (List.mem_cons_of_mem _ hx)) (by omega))
theorem topR_mono : ∀ (l : List Int) (y z : Int), (∀ r ∈ l, 0 ≤ r) → y ≤ z → topR l y ≤ topR l z
 | [], _, _, _, h => h
 | r :: l, y, z, h, hy => topR_mono l _ _ (fun x hx => h x (List.mem_cons_of_mem _ hx)) (powUp_mono y z r hy (h r (List.mem_cons_self ..)))
theorem gro_nn : ∀ r ∈ gro, 0 ≤ r := by decide
theorem gro_drop (k : Nat) : ∀ r ∈ gro.drop k, 0 ≤ r := fun r h => gro_nn r (List.mem_of_mem_drop h)
theorem gro_cons (k : Nat) (h : k < 15) : gro.drop k = groAt k :: gro.drop (k + 1) := by
 rw [List.drop_eq_getElem_cons (show k < gro.length from h)]
 unfold groAt
 have e : gro[k]? = some (gro[k]'(show k < gro.length from h)) := List.getElem?_eq_getElem _
 rw [List.getD_eq_getElem?_getD, e]
 rfl
theorem groAt_nn (k : Nat) (h : k < 15) : 0 ≤ groAt k := gro_drop k _ (by rw [gro_cons k h]; exact List.mem_cons_self ..)
theorem pw_bd (f : Int) : ∀ k, k ≤ 15 → 1073741824 ≤ pw f k ∧ topR (gro.drop k) (pw f k) ≤ topR gro 1073741824
 | 0, _ => ⟨by show (1073741824 : Int) ≤ 1073741824; omega, Int.le_refl _⟩
 | k + 1, hk => by
  obtain ⟨h1, h2⟩ := pw_bd f k (by omega)
  have hr := groAt_nn k (by omega)
  have up := powUp_ge (pw f k) (groAt k) (by omega) hr
  rw [gro_cons k (by omega)] at h2
  have h3 : topR (gro.drop (k + 1)) (powUp (pw f k) (groAt k)) ≤ topR gro 1073741824 := h2
  unfold pw
  split
  ·exact ⟨by omega, h3⟩
  ·exact ⟨h1, Int.le_trans (topR_mono _ _ _ (gro_drop _) up) h3⟩
theorem pw_most (f : Int) (k : Nat) (hk : k ≤ 15) : 1073741824 ≤ pw f k ∧ pw f k ≤ 2147438200 := by
 obtain ⟨h1, h2⟩ := pw_bd f k hk
 have h3 := topR_ge (gro.drop k) (pw f k) (gro_drop _) (by omega)
 have h4 : topR gro 1073741824 = 2147438200 := by decide
 omega
def powN (n : Nat) (f : Int) : Int := pw f 15 / 2 ^ (30 - n)
theorem powN_ge (n : Nat) (f : Int) (hn : n ≤ 30) : (2 : Int) ^ n ≤ powN n f ∧ powN n f < 2 ^ (n + 1) ∧ powN n f ≤ 2147438200 := by
 obtain ⟨h1, h2⟩ := pw_most f 15 (Nat.le_refl _)
 have hp : (0 : Int) < 2 ^ (30 - n) := Int.pow_pos (by decide)
 have e : (2 : Int) ^ n * 2 ^ (30 - n) = 1073741824 := by rw [← Int.pow_add, show n + (30 - n) = 30 by omega]; decide
 have e' : (2 : Int) ^ (n + 1) * 2 ^ (30 - n) = 2147483648 := by rw [Int.pow_succ, Int.mul_right_comm, e]; decide
 unfold powN
 refine ⟨(Int.le_ediv_iff_mul_le hp).2 (by omega), Int.ediv_lt_of_lt_mul hp (by omega), ?_⟩
 exact Int.le_trans (Int.ediv_le_self _ (by omega)) h2
end Go.Proofs.YtdejpongekicdaaGreatDoor

/- GainMath -/
namespace Go.Proofs.YtdejpongekicdaaGreatDoor
open Go.RowKit
set_option linter.unusedVariables false
def gsz : List Int := [8, 10, 13, 17, 22, 29, 38, 49, 64, 82, 107, 139, 181, 234, 304, 394, 512, 663, 861, 1116, 1448, 1878, 2435, 3158, 4096, 5311, 6888, 8933, 11585, 15024, 19483, 25267]
def gszN (n : Nat) : Int := gsz.getD n 0
theorem gsz_pow32 : ∀ n : Fin 32, powN (3 + 3 * n.val / 8) (((3 * n.val % 8 * 4096 : Nat)) : Int) = gszN n.val := by decide +kernel
theorem gsz_pow (n : Nat) (h : n < 32) : powN (3 + 3 * n / 8) (((3 * n % 8 * 4096 : Nat)) : Int) = gszN n := gsz_pow32 ⟨n, h⟩
theorem gszN_bd (n : Nat) : 0 ≤ gszN n ∧ gszN n ≤ 25267 := by
 by_cases h : n < 32
 ·have : ∀ n : Fin 32, 0 ≤ gszN n.val ∧ gszN n.val ≤ 25267 := by decide +kernel
  exact this ⟨n, h⟩
 ·unfold gszN
  rw [List.getD_eq_getElem?_getD, List.getElem?_eq_none (show gsz.length ≤ n from by show 32 ≤ n; omega)]
  exact ⟨Int.le_refl _, by show (0 : Int) ≤ 25267; omega⟩
def glV (n : Int) : Int := if 0 ≤ n ∧ n ≤ 31 then gszN n.toNat else 0
def glE (n : Int) : Int := if 0 ≤ n ∧ n ≤ 31 then 0 else 2
theorem glV_nat (n : Nat) (h : n ≤ 31) : glV n = gszN n ∧ glE n = 0 := by
 have hh : 0 ≤ (n : Int) ∧ (n : Int) ≤ 31 := by omega
 exact ⟨by rw [show glV n = gszN (n : Int).toNat from if_pos hh, Int.toNat_natCast], if_pos hh⟩
theorem glV0 : glV 0 = 8 ∧ glE 0 = 0 := ⟨rfl, rfl⟩
def goN (c e : Int) : Nat → Nat
 | 0 => 0
 | n + 1 => if (gszN (n + 1) + gszN n) * e < 2 * c then n + 1 else goN c e n
def capC (x : Int) : Int := if 1152921504606846976 < x then 1152921504606846976 else x
def capE (x : Int) : Int := if 17592186044416 < x then 17592186044416 else x
def goV (c e : Int) : Int := if c ≤ 0 ∨ e ≤ 0 then 0 else (goN (capC c) (capE e) 31 : Int)
theorem capC_bd (x : Int) (h : 0 < x) : 0 < capC x ∧ capC x ≤ 1152921504606846976 := by unfold capC; split <;> omega
theorem capE_bd (x : Int) (h : 0 < x) : 0 < capE x ∧ capE x ≤ 17592186044416 := by unfold capE; split <;> omega
theorem goN_le (c e : Int) : ∀ n, goN c e n ≤ n
 | 0 => Nat.le_refl _
 | n + 1 => by
  have := goN_le c e n
  unfold goN
  split <;> omega
theorem goN_yes (c e : Int) (m : Nat) (h : (gszN (m + 1) + gszN m) * e < 2 * c) : goN c e (m + 1) = m + 1 := if_pos h
theorem goN_no (c e : Int) (m : Nat) (h : ¬ (gszN (m + 1) + gszN m) * e < 2 * c) : goN c e (m + 1) = goN c e m := if_neg h
def fdN (g : Int) : Nat → Int
 | 0 => if 32767 < g then 32767 else g
 | n + 1 => fdN g n * 26214 / 32768
def fdV (g k : Int) : Int := if g < 0 ∨ 6 ≤ k then 0 else fdN g k.toNat
theorem fdN_bd (g : Int) (h : 0 ≤ g) : ∀ n, 0 ≤ fdN g n ∧ fdN g n ≤ 32767
 | 0 => by show 0 ≤ (if 32767 < g then 32767 else g) ∧ (if 32767 < g then 32767 else g) ≤ 32767; split <;> omega
 | n + 1 => by
  have := fdN_bd g h n
  show 0 ≤ fdN g n * 26214 / 32768 ∧ fdN g n * 26214 / 32768 ≤ 32767
  omega
theorem fdV_bd (g k : Int) : 0 ≤ fdV g k ∧ fdV g k ≤ 32767 := by
 unfold fdV
 split
 ·omega
 ·exact fdN_bd g (by omega) _
def noS (s : Int) : Int := (s * 31821 + 13849) % 65536
def noZ (x : Int) : Int := if x < 0 then 0 else if 32767 < x then 32767 else x
def noX (s x : Int) : Int := (noS s - 32768) * noZ x / 32768
theorem noS_bd (s : Int) : 0 ≤ noS s ∧ noS s < 65536 := by unfold noS; omega
theorem noZ_bd (x : Int) : 0 ≤ noZ x ∧ noZ x ≤ 32767 := by unfold noZ; split <;> (try split) <;> omega
theorem noP_bd (s x : Int) : -1073709056 ≤ (noS s - 32768) * noZ x ∧ (noS s - 32768) * noZ x ≤ 1073676289 := by
 obtain ⟨a1, a2⟩ := noS_bd s
 obtain ⟨b1, b2⟩ := noZ_bd x
 generalize noZ x = z at *
 generalize noS s = t at *
 have p1 : 0 ≤ (t - 0) * z := Int.mul_nonneg (by omega) b1
 have p2 : 0 ≤ (65535 - t) * z := Int.mul_nonneg (by omega) b1
 rw [Int.sub_mul] at p1 p2 ⊢
 omega
theorem noX_bd (s x : Int) : -noZ x ≤ noX s x ∧ noX s x ≤ noZ x := by
 obtain ⟨a1, a2⟩ := noS_bd s
 obtain ⟨b1, b2⟩ := noZ_bd x
 unfold noX
 generalize noZ x = z at *
 generalize noS s = t at *
 have p1 : 0 ≤ (t - 0) * z := Int.mul_nonneg (by omega) b1
 have p2 : 0 ≤ (65535 - t) * z := Int.mul_nonneg (by omega) b1
 rw [Int.sub_mul] at p1 p2 ⊢
 omega
theorem wrap_and16 (x y : Int) (h : x % 65536 = y % 65536) : bits .and .i64 x 65535 = y % 65536 := by
 show IntKind.i64.wrap ((BitVec.ofInt 64 x &&& BitVec.ofInt 64 65535).toNat : Int) = _
 rw [BitVec.toNat_and, BitVec.toNat_ofInt, show (BitVec.ofInt 64 65535).toNat = 2 ^ 16 - 1 by decide, Nat.and_two_pow_sub_one_eq_mod]
 have e : (((x % ((2 ^ 64 : Nat) : Int)).toNat % 2 ^ 16 : Nat) : Int) = y % 65536 := by omega
 rw [e]
 have b0 : 0 ≤ y % 65536 := by omega
 have b1 : y % 65536 < 65536 := by omega
 generalize y % 65536 = n at *
 have e : n % 2 ^ 64 = n := Int.emod_eq_of_lt (by omega) (by omega)
 simp only [IntKind.wrap, IntKind.bits, IntKind.signed, e]
 rw [if_neg (by simp; omega)]
end Go.Proofs.YtdejpongekicdaaGreatDoor

/- SynthMath -/
namespace Go.Proofs.YtdejpongekicdaaGreatDoor
open Go.RowKit
set_option linter.unusedVariables false
set_option linter.unusedSimpArgs false
theorem nth_appL (l m : List Int) (i : Nat) (h : i < l.length) : nth (l ++ m) i = nth l i := by simp [nth, List.getD, List.getElem?_append, h]
theorem nth_appR (l m : List Int) (i : Nat) (h : l.length ≤ i) : nth (l ++ m) i = nth m (i - l.length) := by simp [nth, List.getD, List.getElem?_append, show ¬ i < l.length by omega]
theorem nth_rev (l : List Int) (i : Nat) (h : i < l.length) : nth l.reverse i = nth l (l.length - 1 - i) := by
 simp [nth, List.getD, List.getElem?_reverse h]
theorem nth_take (l : List Int) (n i : Nat) (h : i < n) : nth (l.take n) i = nth l i := by simp [nth, List.getD, List.getElem?_take, h]
theorem nth_drop (l : List Int) (n i : Nat) : nth (l.drop n) i = nth l (n + i) := by simp [nth, List.getD, List.getElem?_drop]
theorem nth_set_ne (l : List Int) (k : Nat) (z : Int) (j : Nat) (h : k ≠ j) : nth (l.set k z) j = nth l j := by simp [nth, List.getD, List.getElem?_set, h]
theorem nth_set_eq (l : List Int) (k : Nat) (z : Int) (h : k < l.length) : nth (l.set k z) k = z := by simp [nth, List.getD, List.getElem?_set, h]
def hist (p l : List Int) : List Int := l.reverse ++ p
theorem hist_lt (p l : List Int) (i : Nat) (h : i < l.length) : nth (hist p l) i = nth l (l.length - 1 - i) := by
 unfold hist
 rw [nth_appL _ _ _ (by simpa using h), nth_rev _ _ h]
theorem hist_ge (p l : List Int) (i : Nat) (h : l.length ≤ i) : nth (hist p l) i = nth p (i - l.length) := by
 unfold hist
 rw [nth_appR _ _ _ (by simpa using h), List.length_reverse]
def newL (p l : List Int) : List Int := tab 8 (fun i => nth (hist p l) i)
theorem newL_len (p l : List Int) : (newL p l).length = 8 := tab_len _ _
theorem newL_nth (p l : List Int) (i : Nat) (h : i < 8) : nth (newL p l) i = nth (hist p l) i := tab_nth _ _ _ h
theorem newL_nil (p : List Int) (hp : p.length = 8) : newL p [] = p := (tab_ext hp (fun i hi => by unfold hist; simp)).symm
def gsum (a h : List Int) : Nat → Int
 | 0 => 2048
 | i + 1 => gsum a h i + nth a (i + 1) * nth h i
def gs (a h : List Int) : Int := gsum a h 8 / 4096
theorem gsum_congr (a h h' : List Int) : ∀ n, (∀ i, i < n → nth h i = nth h' i) → gsum a h n = gsum a h' n
 | 0, _ => rfl
 | n + 1, e => by
  show gsum a h n + nth a (n + 1) * nth h n = gsum a h' n + nth a (n + 1) * nth h' n
  rw [gsum_congr a h h' n (fun i hi => e i (by omega)), e n (by omega)]
theorem gs_congr (a h h' : List Int) (e : ∀ i, i < 8 → nth h i = nth h' i) : gs a h = gs a h' := by unfold gs; rw [gsum_congr a h h' 8 e]
def wide20 (a : List Int) : Bool := a.all fun x => decide (-1048576 ≤ x) && decide (x ≤ 1048576)
theorem wide20_iff (l : List Int) : wide20 l = true ↔ ∀ i, i < l.length → -1048576 ≤ nth l i ∧ nth l i ≤ 1048576 := by
 unfold wide20
 rw [List.all_eq_true]
 constructor
 ·intro h i hi
  have := h l[i] (List.getElem_mem hi)
  simp only [Bool.and_eq_true, decide_eq_true_eq] at this
  simpa [nth, List.getD, hi] using this
 ·intro h x hx
  obtain ⟨i, hi, rfl⟩ := List.getElem_of_mem hx
  have := h i hi
  simp only [nth, List.getD, List.getElem?_eq_getElem hi, Option.getD_some] at this
  simp [this]
theorem nth_in (l : List Int) (lo hi : Int) (h0 : lo ≤ 0) (h1 : 0 ≤ hi) (h : ∀ i, i < l.length → lo ≤ nth l i ∧ nth l i ≤ hi) (i : Nat) : lo ≤ nth l i ∧ nth l i ≤ hi := by
 by_cases hi' : i < l.length
 ·exact h i hi'
 ·rw [getD_out l i (by omega)]; omega
theorem prd20_bd (x y : Int) (h1 : -1048576 ≤ x) (h2 : x ≤ 1048576) (h3 : -32768 ≤ y) (h4 : y ≤ 32767) : -34359738368 ≤ x * y ∧ x * y ≤ 34359738368 := by
 have e1 : 0 ≤ (1048576 - x) * (y + 32768) := Int.mul_nonneg (by omega) (by omega)
 have e2 : 0 ≤ (x + 1048576) * (32767 - y) := Int.mul_nonneg (by omega) (by omega)
 have e3 : 0 ≤ (x + 1048576) * (y + 32768) := Int.mul_nonneg (by omega) (by omega)
 have e4 : 0 ≤ (1048576 - x) * (32767 - y) := Int.mul_nonneg (by omega) (by omega)
 simp only [Int.sub_mul, Int.add_mul, Int.mul_add, Int.mul_sub] at e1 e2 e3 e4
 omega
theorem gsum_bd (a h : List Int) (ha : ∀ i, -1048576 ≤ nth a i ∧ nth a i ≤ 1048576) (hh : ∀ i, -32768 ≤ nth h i ∧ nth h i ≤ 32767) : ∀ n : Nat, 2048 - 34359738368 * (n : Int) ≤ gsum a h n ∧ gsum a h n ≤ 2048 + 34359738368 * (n : Int)
 | 0 => by show (2048 : Int) - 34359738368 * ((0 : Nat) : Int) ≤ 2048 ∧ (2048 : Int) ≤ 2048 + 34359738368 * ((0 : Nat) : Int); omega
 | n + 1 => by
  have i1 := gsum_bd a h ha hh n
  have i2 := prd20_bd _ _ (ha (n + 1)).1 (ha (n + 1)).2 (hh n).1 (hh n).2
  show _ ≤ gsum a h n + nth a (n + 1) * nth h n ∧ gsum a h n + nth a (n + 1) * nth h n ≤ _
  omega
theorem gs_bd (a h : List Int) (ha : ∀ i, -1048576 ≤ nth a i ∧ nth a i ≤ 1048576) (hh : ∀ i, -32768 ≤ nth h i ∧ nth h i ≤ 32767) : -67108864 ≤ gs a h ∧ gs a h ≤ 67108865 := by
 have := gsum_bd a h ha hh 8
 unfold gs
 omega
def okF (a p l : List Int) : Bool := wide20 a && decide (nth a 0 = 4096) && rightB p && rightB l
def mkN (a p l : List Int) : Nat → List Int
 | 0 => []
 | n + 1 => mkN a p l n ++ [c16 (nth l n - gs a (hist p (mkN a p l n)))]
theorem mkN_len (a p l : List Int) : ∀ n, (mkN a p l n).length = n
 | 0 => rfl
 | n + 1 => by show (mkN a p l n ++ [_]).length = _; rw [List.length_append, mkN_len a p l n]; rfl
theorem snoc_right (l : List Int) (z : Int) (h : rightB l = true) (hz : -32768 ≤ z ∧ z ≤ 32767) : rightB (l ++ [z]) = true := by
 rw [rightB_iff] at h ⊢
 intro i hi
 by_cases hl : i < l.length
 ·rw [nth_appL _ _ _ hl]; exact h i hl
 ·have : i = l.length := by simp at hi; omega
  subst this
  rw [nth_appR _ _ _ (Nat.le_refl _), Nat.sub_self]
  exact hz
theorem mkN_right (a p l : List Int) : ∀ n, rightB (mkN a p l n) = true
 | 0 => rfl
 | n + 1 => snoc_right _ _ (mkN_right a p l n) (c16_bd _)
theorem hist_right (p l : List Int) (hp : rightB p = true) (hl : rightB l = true) (i : Nat) : -32768 ≤ nth (hist p l) i ∧ nth (hist p l) i ≤ 32767 := by
 have h : rightB (hist p l) = true := by
  unfold rightB hist at *
  rw [List.all_eq_true] at *
  intro x hx
  rcases List.mem_append.1 hx with h | h
  ·exact hl x (List.mem_reverse.1 h)
  ·exact hp x h
 exact nth_in _ _ _ (by omega) (by omega) ((rightB_iff _).1 h) i
theorem newL_right (p l : List Int) (hp : rightB p = true) (hl : rightB l = true) : rightB (newL p l) = true := by
 rw [rightB_iff, newL_len]
 intro i hi
 rw [newL_nth _ _ _ hi]
 exact hist_right p l hp hl i
theorem newL_snoc (p l : List Int) (s : Int) (i : Nat) (h : i < 8) : nth (newL p (l ++ [s])) i = if i = 0 then s else nth (newL p l) (i - 1) := by
 rw [newL_nth _ _ _ h]
 by_cases h0 : i = 0
 ·subst h0
  rw [if_pos rfl, hist_lt _ _ _ (by simp)]
  rw [nth_appR _ _ _ (by simp)]
  simp [nth]
 ·rw [if_neg h0, newL_nth _ _ _ (by omega)]
  by_cases hl : i - 1 < l.length
  ·rw [hist_lt _ _ _ (by simp; omega), hist_lt _ _ _ hl]
   rw [nth_appL _ _ _ (by simp; omega)]
   congr 1
   simp
   omega
  ·rw [hist_ge _ _ _ (by simp; omega), hist_ge _ _ _ (by omega)]
   congr 1
   simp
   omega
theorem gs_newL (a p l : List Int) : gs a (newL p l) = gs a (hist p l) := gs_congr _ _ _ (fun i hi => newL_nth p l i hi)
def mkL (a p l : List Int) : List Int := if okF a p l = true then mkN a p l l.length else []
def mkP (a p l : List Int) : List Int := if okF a p l = true then newL p (mkN a p l l.length) else zeros 8
def fiE (a p l : List Int) : Int := if okF a p l = true then 0 else 2
theorem mkL_len (a p l : List Int) (h : okF a p l = true) : (mkL a p l).length = l.length := by unfold mkL; rw [if_pos h, mkN_len]
theorem mkP_len (a p l : List Int) : (mkP a p l).length = 8 := by unfold mkP; split; exact newL_len _ _; exact zeros_len 8
theorem mkL_le (a p l : List Int) : (mkL a p l).length ≤ l.length := by unfold mkL; split; rw [mkN_len]; exact Nat.le_refl _; exact Nat.zero_le _
theorem mkN_pre (a p l : List Int) (n : Nat) : ∀ d, (mkN a p l (n + d)).take n = mkN a p l n
 | 0 => by rw [Nat.add_zero, List.take_of_length_le (by rw [mkN_len]; exact Nat.le_refl _)]
 | d + 1 => by
  show (mkN a p l (n + d) ++ [_]).take n = _
  rw [List.take_append_of_le_length (by rw [mkN_len]; omega)]
  exact mkN_pre a p l n d
theorem mkN_nth (a p l : List Int) (n d : Nat) : nth (mkN a p l (n + 1 + d)) n = c16 (nth l n - gs a (hist p (mkN a p l n))) := by
 have h := mkN_pre a p l (n + 1) d
 rw [← nth_take _ (n + 1) n (by omega), h]
 show nth (mkN a p l n ++ [_]) n = _
 rw [nth_appR _ _ _ (by rw [mkN_len]; exact Nat.le_refl _), mkN_len, Nat.sub_self]
 rfl
def sumT (f : Nat → Int) : Nat → Int
 | 0 => 0
 | n + 1 => sumT f n + f n
theorem sumT_congr (f g : Nat → Int) : ∀ n, (∀ i, i < n → f i = g i) → sumT f n = sumT g n
 | 0, _ => rfl
 | n + 1, e => by show sumT f n + f n = sumT g n + g n; rw [sumT_congr f g n (fun i hi => e i (by omega)), e n (by omega)]
theorem sumT_front (f : Nat → Int) : ∀ n, sumT f (n + 1) = f 0 + sumT (fun i => f (i + 1)) n
 | 0 => by show 0 + f 0 = f 0 + 0; omega
 | n + 1 => by
  show sumT f (n + 1) + f (n + 1) = f 0 + (sumT (fun i => f (i + 1)) n + f (n + 1))
  rw [sumT_front f n]; omega
def foS (r l : List Int) (n : Nat) : Int := sumT (fun i => nth r i * nth l (n - i)) (n + 1)
def foV (r l : List Int) (n : Nat) : Int := c16 ((foS r l n + 2048) / 4096)
def oneL (n : Nat) : List Int := tab n (fun i => if i = 0 then 4096 else 0)
theorem p16_bd (x y : Int) (h1 : -32768 ≤ x) (h2 : x ≤ 32767) (h3 : -32768 ≤ y) (h4 : y ≤ 32767) : -1073741824 ≤ x * y ∧ x * y ≤ 1073741824 := by
 have := mul16_bd x y h1 h2 h3 h4
 omega
theorem sumT_bd (f : Nat → Int) (h : ∀ i, -1073741824 ≤ f i ∧ f i ≤ 1073741824) : ∀ n : Nat, -1073741824 * (n : Int) ≤ sumT f n ∧ sumT f n ≤ 1073741824 * (n : Int)
 | 0 => by show -1073741824 * ((0 : Nat) : Int) ≤ 0 ∧ (0 : Int) ≤ 1073741824 * ((0 : Nat) : Int); omega
 | n + 1 => by
  have := sumT_bd f h n
  have := h n
  show _ ≤ sumT f n + f n ∧ sumT f n + f n ≤ _
  omega
def okO (r l : List Int) : Bool := rightB r && rightB l
def sizeO (r l : List Int) : Bool := decide (r.length = l.length) && decide (l.length ≤ 80)
def foL (r l : List Int) : List Int := if sizeO r l = true ∧ okO r l = true then tab l.length (foV r l) else []
def foE (r l : List Int) : Int := if sizeO r l = true then (if okO r l = true then 0 else 2) else 1
def rgL (a : List Int) (n : Int) : List Int := if 0 ≤ n ∧ n ≤ 80 then mkL a (zeros 8) (oneL n.toNat) else []
def rgE (a : List Int) (n : Int) : Int := if 0 ≤ n ∧ n ≤ 80 then fiE a (zeros 8) (oneL n.toNat) else 1
end Go.Proofs.YtdejpongekicdaaGreatDoor

/- Btr -/
namespace Go.Proofs.YtdejpongekicdaaGreatDoor
open Go.RowKit
def pos0 (x : Int) : Int := if x < 0 then 0 else x
def btr (c e d f : Int) : Bool :=
 if e ≤ 0 then false else if f ≤ 0 then true else decide (pos0 d * pos0 d * e < pos0 c * pos0 c * f)
theorem btr_pos (c e d f : Int) (h : btr c e d f = true) : 0 < e := by
 unfold btr at h
 by_cases he : e ≤ 0
 ·rw [if_pos he] at h; cases h
 ·omega
end Go.Proofs.YtdejpongekicdaaGreatDoor

/- PitchMath -/
namespace Go.Proofs.YtdejpongekicdaaGreatDoor
open Go.RowKit
set_option linter.unusedVariables false
set_option linter.unusedSimpArgs false
def pasN (h : List Int) (lag i : Nat) : Int := nth h (80 - lag + i % lag)
def pasV (h : List Int) (lag : Nat) : List Int := tab 40 (pasN h lag)
def pasL (h : List Int) (lag : Int) : List Int := if 20 ≤ lag ∧ lag ≤ 79 then pasV h lag.toNat else []
def pasE (lag : Int) : Int := if 20 ≤ lag ∧ lag ≤ 79 then 0 else 2
theorem pasV_len (h : List Int) (lag : Nat) : (pasV h lag).length = 40 := tab_len _ _
theorem pasL_yes (h : List Int) (lag : Nat) (h1 : 20 ≤ lag) (h2 : lag ≤ 79) : pasL h lag = pasV h lag ∧ pasE lag = 0 :=
 ⟨by unfold pasL; rw [if_pos (by omega)]; rfl, by unfold pasE; rw [if_pos (by omega)]⟩
theorem pasV_right (h : List Int) (lag : Nat) (hr : rightB h = true) : rightB (pasV h lag) = true := by
 rw [rightB_iff, pasV_len]
 intro i hi
 unfold pasV
 rw [tab_nth _ _ _ hi]
 exact nth_in _ _ _ (by omega) (by omega) ((rightB_iff h).1 hr) _
def dotS (a b : List Int) (n : Nat) : Int := sumT (fun i => nth a i * nth b i) n
theorem dotS_bd (a b : List Int) (ha : rightB a = true) (hb : rightB b = true) (n : Nat) : -1073741824 * (n : Int) ≤ dotS a b n ∧ dotS a b n ≤ 1073741824 * (n : Int) :=
 sumT_bd _ (fun i => by
  have h1 := nth_in _ _ _ (by omega) (by omega) ((rightB_iff a).1 ha) i
  have h2 := nth_in _ _ _ (by omega) (by omega) ((rightB_iff b).1 hb) i
  exact p16_bd _ _ h1.1 h1.2 h2.1 h2.2) n
theorem sqr_nonneg (x : Int) : 0 ≤ x * x := by
 rcases Int.le_total 0 x with h | h
 ·exact Int.mul_nonneg h h
 ·exact Int.mul_nonneg_of_nonpos_of_nonpos h h
theorem dotS_self (a : List Int) : ∀ n, 0 ≤ dotS a a n
 | 0 => Int.le_refl _
 | n + 1 => by
  have := dotS_self a n
  have := sqr_nonneg (nth a n)
  show 0 ≤ dotS a a n + nth a n * nth a n
  omega
def pkN (C E : Nat → Int) : Nat → Nat × Int × Int
 | 0 => (20, 0, 0)
 | m + 1 => if 0 < C (20 + m) ∧ btr (C (20 + m)) (E (20 + m)) (pkN C E m).2.1 (pkN C E m).2.2 = true then (20 + m, C (20 + m), E (20 + m)) else pkN C E m
theorem pkN_yes (C E : Nat → Int) (m : Nat) (h : 0 < C (20 + m) ∧ btr (C (20 + m)) (E (20 + m)) (pkN C E m).2.1 (pkN C E m).2.2 = true) : pkN C E (m + 1) = (20 + m, C (20 + m), E (20 + m)) := if_pos h
theorem pkN_no (C E : Nat → Int) (m : Nat) (h : ¬(0 < C (20 + m) ∧ btr (C (20 + m)) (E (20 + m)) (pkN C E m).2.1 (pkN C E m).2.2 = true)) : pkN C E (m + 1) = pkN C E m := if_neg h
theorem pkN_lag (C E : Nat → Int) : ∀ m, 20 ≤ (pkN C E m).1 ∧ (pkN C E m).1 < 20 + m + 1 ∧ ((pkN C E m).1 = 20 ∨ (pkN C E m).1 < 20 + m)
 | 0 => ⟨Nat.le_refl _, by show 20 < 20 + 0 + 1; omega, .inl rfl⟩
 | m + 1 => by
  have := pkN_lag C E m
  by_cases h : 0 < C (20 + m) ∧ btr (C (20 + m)) (E (20 + m)) (pkN C E m).2.1 (pkN C E m).2.2 = true
  ·rw [pkN_yes C E m h]; show 20 ≤ 20 + m ∧ 20 + m < 20 + (m + 1) + 1 ∧ (20 + m = 20 ∨ 20 + m < 20 + (m + 1)); omega
  ·rw [pkN_no C E m h]; omega
theorem pkN_own (C E : Nat → Int) : ∀ m, ((pkN C E m).2.1 = 0 ∧ (pkN C E m).2.2 = 0) ∨ ((pkN C E m).2.1 = C (pkN C E m).1 ∧ (pkN C E m).2.2 = E (pkN C E m).1 ∧ 0 < (pkN C E m).2.1 ∧ 0 < (pkN C E m).2.2)
 | 0 => .inl ⟨rfl, rfl⟩
 | m + 1 => by
  by_cases h : 0 < C (20 + m) ∧ btr (C (20 + m)) (E (20 + m)) (pkN C E m).2.1 (pkN C E m).2.2 = true
  ·rw [pkN_yes C E m h]; exact .inr ⟨rfl, rfl, h.1, btr_pos _ _ _ _ h.2⟩
  ·rw [pkN_no C E m h]; exact pkN_own C E m
theorem pkN_bd (C E : Nat → Int) (B : Int) (hB : 0 ≤ B) (hC : ∀ k, C k ≤ B) (hE : ∀ k, E k ≤ B) (m : Nat) : 0 ≤ (pkN C E m).2.1 ∧ (pkN C E m).2.1 ≤ B ∧ 0 ≤ (pkN C E m).2.2 ∧ (pkN C E m).2.2 ≤ B := by
 rcases pkN_own C E m with h | h
 ·omega
 ·have h1 := hC (pkN C E m).1
  have h2 := hE (pkN C E m).1
  omega
def gains : List Int := [0, 3277, 6554, 9830, 12452, 14746, 16384, 18022]
def gainN (n : Nat) : Int := gains.getD n 0
theorem gainN_bd (n : Nat) : 0 ≤ gainN n ∧ gainN n ≤ 18022 := by
 by_cases h : n < 8
 ·have : ∀ n : Fin 8, 0 ≤ gainN n.val ∧ gainN n.val ≤ 18022 := by decide
  exact this ⟨n, h⟩
 ·unfold gainN
  rw [show gains.getD n 0 = nth gains n from rfl, getD_out gains n (by show 8 ≤ n; omega)]
  omega
def gaV (n : Int) : Int := if 0 ≤ n ∧ n ≤ 7 then gainN n.toNat else 0
def gaE (n : Int) : Int := if 0 ≤ n ∧ n ≤ 7 then 0 else 2
def neN (c e : Int) : Nat → Nat
 | 0 => 0
 | n + 1 => if n + 1 < 8 ∧ (gainN (n + 1) + gainN n) * e < 2 * 16384 * c then n + 1 else neN c e n
def cap40 (x : Int) : Int := if 1099511627776 < x then 1099511627776 else x
def neV (c e : Int) : Int := if c ≤ 0 ∨ e ≤ 0 then 0 else (neN (cap40 c) (cap40 e) 7 : Int)
theorem cap40_bd (x : Int) (h : 0 < x) : 0 < cap40 x ∧ cap40 x ≤ 1099511627776 := by unfold cap40; split <;> omega
theorem neN_le (c e : Int) : ∀ n, neN c e n ≤ n
 | 0 => Nat.le_refl _
 | n + 1 => by
  have := neN_le c e n
  unfold neN
  split <;> omega
end Go.Proofs.YtdejpongekicdaaGreatDoor

/- MemMath -/
namespace Go.Proofs.YtdejpongekicdaaGreatDoor
open Go.RowKit
set_option linter.unusedVariables false
set_option linter.unusedSimpArgs false
def mlo (i : Nat) : Int := if i < 8 then -31000 else if i < 96 then -32768 else if i = 98 then 20 else 0
def mhi (i : Nat) : Int := if i < 8 then 31000 else if i < 97 then 32767 else if i = 97 then 18022 else if i = 98 then 79 else if i = 99 then 6 else 65535
def goodM (l : List Int) : Bool := (List.range 101).all fun i => decide (mlo i ≤ nth l i) && decide (nth l i ≤ mhi i)
theorem goodM_iff (l : List Int) : goodM l = true ↔ ∀ i, i < 101 → mlo i ≤ nth l i ∧ nth l i ≤ mhi i := by
 unfold goodM
 rw [List.all_eq_true]
 constructor
 ·intro h i hi
  have := h i (List.mem_range.2 hi)
  simpa using this
 ·intro h i hi
  have := h i (List.mem_range.1 hi)
  simpa using this
theorem rfl_at (i : Nat) (h : i < 8) : mlo i = -31000 ∧ mhi i = 31000 := ⟨if_pos h, if_pos h⟩
theorem smp_at (i : Nat) (h : 8 ≤ i) (h2 : i < 96) : mlo i = -32768 ∧ mhi i = 32767 := by
 unfold mlo mhi
 rw [if_neg (by omega), if_pos h2, if_neg (by omega), if_pos (by omega)]
 exact ⟨rfl, rfl⟩
def reflB (l : List Int) : Bool := (List.range 8).all fun i => decide (-31000 ≤ nth l i) && decide (nth l i ≤ 31000)
theorem reflB_iff (l : List Int) : reflB l = true ↔ ∀ i, i < 8 → -31000 ≤ nth l i ∧ nth l i ≤ 31000 := by
 unfold reflB
 rw [List.all_eq_true]
 constructor
 ·intro h i hi
  have := h i (List.mem_range.2 hi)
  simpa using this
 ·intro h i hi
  have := h i (List.mem_range.1 hi)
  simpa using this
theorem right_prt (l : List Int) (o n : Nat) : rightB (prt l o n) = true ↔ ∀ i, i < n → -32768 ≤ nth l (o + i) ∧ nth l (o + i) ≤ 32767 := by
 rw [rightB_iff, prt_len]
 constructor
 ·intro h i hi; have := h i hi; rwa [prt_nth _ _ _ _ hi] at this
 ·intro h i hi; rw [prt_nth _ _ _ _ hi]; exact h i hi
theorem goodM_parts (l : List Int) : goodM l = true ↔ reflB l = true ∧ rightB (prt l 8 8) = true ∧ rightB (prt l 16 80) = true ∧ (0 ≤ nth l 96 ∧ nth l 96 ≤ 32767) ∧ (0 ≤ nth l 97 ∧ nth l 97 ≤ 18022) ∧ (20 ≤ nth l 98 ∧ nth l 98 ≤ 79) ∧ (0 ≤ nth l 99 ∧ nth l 99 ≤ 6) ∧ (0 ≤ nth l 100 ∧ nth l 100 ≤ 65535) := by
 rw [goodM_iff, reflB_iff, right_prt, right_prt]
 constructor
 ·intro h
  refine ⟨fun i hi => ?_, fun i hi => ?_, fun i hi => ?_, h 96 (by omega), h 97 (by omega), h 98 (by omega), h 99 (by omega), h 100 (by omega)⟩
  ·have := h i (by omega); rw [(rfl_at i hi).1, (rfl_at i hi).2] at this; exact this
  ·have := h (8 + i) (by omega); rw [(smp_at (8 + i) (by omega) (by omega)).1, (smp_at (8 + i) (by omega) (by omega)).2] at this; exact this
  ·have := h (16 + i) (by omega); rw [(smp_at (16 + i) (by omega) (by omega)).1, (smp_at (16 + i) (by omega) (by omega)).2] at this; exact this
 ·rintro ⟨h1, h2, h3, h4, h5, h6, h7, h8⟩ i hi
  by_cases e1 : i < 8
  ·rw [(rfl_at i e1).1, (rfl_at i e1).2]; exact h1 i e1
  ·by_cases e2 : i < 16
   ·rw [(smp_at i (by omega) (by omega)).1, (smp_at i (by omega) (by omega)).2]
    have := h2 (i - 8) (by omega)
    rwa [show 8 + (i - 8) = i by omega] at this
   ·by_cases e3 : i < 96
    ·rw [(smp_at i (by omega) (by omega)).1, (smp_at i (by omega) (by omega)).2]
     have := h3 (i - 16) (by omega)
     rwa [show 16 + (i - 16) = i by omega] at this
    ·obtain rfl | rfl | rfl | rfl | rfl : i = 96 ∨ i = 97 ∨ i = 98 ∨ i = 99 ∨ i = 100 := by omega
     ·exact h4
     ·exact h5
     ·exact h6
     ·exact h7
     ·exact h8
def freL : List Int := ((zeros 101).set 98 20).set 100 21845
theorem freL_len : freL.length = 101 := by unfold freL; rw [List.length_set, List.length_set, zeros_len]
theorem freL_good : goodM freL = true := by decide +kernel
abbrev mxO (lag g : Int) (b : List Int) : Prop := b.length = 40 ∧ (20 ≤ lag ∧ lag ≤ 79) ∧ 0 ≤ g ∧ g ≤ 32767
def mxN (v : List Int) (g : Int) (b : List Int) (i : Nat) : Int := c16 ((c16 (nth v i) * g + 8192) / 16384 + c16 (nth b i))
def mxA (v : List Int) (g : Int) (b : List Int) : List Int := tab 40 (mxN v g b)
def mxL (h : List Int) (lag g : Int) (b : List Int) : List Int := if mxO lag g b then mxA (pasL h lag) g b else []
def mxE (lag g : Int) (b : List Int) : Int := if b.length = 40 then (if mxO lag g b then 0 else 2) else 1
theorem mxA_len (v : List Int) (g : Int) (b : List Int) : (mxA v g b).length = 40 := tab_len _ _
theorem mxA_nth (v : List Int) (g : Int) (b : List Int) (i : Nat) (h : i < 40) : nth (mxA v g b) i = mxN v g b i := tab_nth _ _ _ h
theorem mxN_16 (v : List Int) (g : Int) (b : List Int) (i : Nat) : -32768 ≤ mxN v g b i ∧ mxN v g b i ≤ 32767 := by unfold mxN; exact c16_bd _
theorem mxA_right (v : List Int) (g : Int) (b : List Int) : rightB (mxA v g b) = true := by
 rw [rightB_iff, mxA_len]
 intro i hi
 rw [mxA_nth _ _ _ _ hi]
 exact mxN_16 _ _ _ _
theorem mxL_yes {h : List Int} {lag g : Int} {b : List Int} (k : mxO lag g b) : mxL h lag g b = mxA (pasL h lag) g b ∧ mxE lag g b = 0 := ⟨if_pos k, by unfold mxE; rw [if_pos k.1, if_pos k]⟩
theorem mxL_size {h : List Int} {lag g : Int} {b : List Int} (k : b.length ≠ 40) : mxL h lag g b = [] ∧ mxE lag g b = 1 := ⟨if_neg (fun q => k q.1), if_neg k⟩
theorem mxL_range {h : List Int} {lag g : Int} {b : List Int} (k : b.length = 40) (q : ¬ mxO lag g b) : mxL h lag g b = [] ∧ mxE lag g b = 2 := ⟨if_neg q, by unfold mxE; rw [if_pos k, if_neg q]⟩
def kpN (h b : List Int) (i : Nat) : Int := if i < 40 then nth h (i + 40) else c16 (nth b (i - 40))
def kpA (h b : List Int) : List Int := tab 80 (kpN h b)
def kpL (h b : List Int) : List Int := if b.length = 40 then kpA h b else zeros 80
def kpE (b : List Int) : Int := if b.length = 40 then 0 else 1
theorem kpA_len (h b : List Int) : (kpA h b).length = 80 := tab_len _ _
theorem kpA_nth (h b : List Int) (i : Nat) (k : i < 80) : nth (kpA h b) i = kpN h b i := tab_nth _ _ _ k
theorem kpL_len (h b : List Int) : (kpL h b).length = 80 := by unfold kpL; split; exact kpA_len _ _; exact zeros_len _
theorem kpL_yes {h b : List Int} (k : b.length = 40) : kpL h b = kpA h b ∧ kpE b = 0 := ⟨if_pos k, if_pos k⟩
theorem kpL_no {h b : List Int} (k : b.length ≠ 40) : kpL h b = zeros 80 ∧ kpE b = 1 := ⟨if_neg k, if_neg k⟩
def sdN (s : Int) : Nat → Int
 | 0 => s
 | k + 1 => noS (sdN s k)
def nzN (s x : Int) (k : Nat) : Int := noX (sdN s k) x
def nzL (s x : Int) (n : Nat) : List Int := tab n (nzN s x)
theorem sdN_bd (s : Int) (h0 : 0 ≤ s) (h1 : s ≤ 65535) : ∀ k, 0 ≤ sdN s k ∧ sdN s k ≤ 65535
 | 0 => ⟨h0, h1⟩
 | k + 1 => by have := noS_bd (sdN s k); show 0 ≤ noS (sdN s k) ∧ noS (sdN s k) ≤ 65535; omega
theorem nzL_len (s x : Int) (n : Nat) : (nzL s x n).length = n := tab_len _ _
theorem nzL_nth (s x : Int) (n i : Nat) (h : i < n) : nth (nzL s x n) i = nzN s x i := tab_nth _ _ _ h
theorem nzN_bd (s x : Int) (k : Nat) : -noZ x ≤ nzN s x k ∧ nzN s x k ≤ noZ x := noX_bd _ _
theorem nzL_right (s x : Int) (n : Nat) : rightB (nzL s x n) = true := by
 rw [rightB_iff, nzL_len]
 intro i hi
 rw [nzL_nth _ _ _ _ hi]
 have := nzN_bd s x i
 have := noZ_bd x
 omega
def erN (l : List Int) (half : Int) : Int := if half = 0 ∧ nth l 99 < 6 then nth l 99 + 1 else nth l 99
def erZ (l : List Int) (half : Int) : List Int := nzL (nth l 100) (fdV (nth l 96) (erN l half) / 4) 40
def erX (l : List Int) (half : Int) : List Int := mxA (pasL (prt l 16 80) (nth l 98)) (fdV (nth l 97) (erN l half)) (erZ l half)
def memT (l : List Int) (er sd : Int) (x : List Int) : List Int := ovr ((l.set 99 er).set 100 sd) 16 x
abbrev erO (l : List Int) (half : Int) : Prop := goodM l = true ∧ 0 ≤ half ∧ half ≤ 1
def erM (l : List Int) (half : Int) : List Int := if erO l half then memT l (erN l half) (sdN (nth l 100) 40) (kpA (prt l 16 80) (erX l half)) else zeros 101
def erS (l : List Int) (half : Int) (s : Bool) : Bool := if erO l half then s else false
def erL (l : List Int) (half : Int) : List Int := if erO l half then erX l half else []
def erE (l : List Int) (half : Int) : Int := if erO l half then 0 else 2
def siX (l : List Int) : List Int := nzL (nth l 100) 8 40
def siM (l : List Int) : List Int := if goodM l = true then memT l (nth l 99) (sdN (nth l 100) 40) (kpA (prt l 16 80) (siX l)) else zeros 101
def siS (l : List Int) (s : Bool) : Bool := if goodM l = true then s else false
def siL (l : List Int) : List Int := if goodM l = true then siX l else []
def siE (l : List Int) : Int := if goodM l = true then 0 else 2
theorem erX_len (l : List Int) (half : Int) : (erX l half).length = 40 := mxA_len _ _ _
theorem siX_len (l : List Int) : (siX l).length = 40 := nzL_len _ _ _
theorem erZ_len (l : List Int) (half : Int) : (erZ l half).length = 40 := nzL_len _ _ _
theorem er_yes {l : List Int} {half : Int} {s : Bool} (k : erO l half) : erM l half = memT l (erN l half) (sdN (nth l 100) 40) (kpA (prt l 16 80) (erX l half)) ∧ erS l half s = s ∧ erL l half = erX l half ∧ erE l half = 0 := ⟨if_pos k, if_pos k, if_pos k, if_pos k⟩
theorem er_no {l : List Int} {half : Int} {s : Bool} (k : ¬ erO l half) : erM l half = zeros 101 ∧ erS l half s = false ∧ erL l half = [] ∧ erE l half = 2 := ⟨if_neg k, if_neg k, if_neg k, if_neg k⟩
theorem si_yes {l : List Int} {s : Bool} (k : goodM l = true) : siM l = memT l (nth l 99) (sdN (nth l 100) 40) (kpA (prt l 16 80) (siX l)) ∧ siS l s = s ∧ siL l = siX l ∧ siE l = 0 := ⟨if_pos k, if_pos k, if_pos k, if_pos k⟩
theorem si_no {l : List Int} {s : Bool} (k : goodM l = false) : siM l = zeros 101 ∧ siS l s = false ∧ siL l = [] ∧ siE l = 2 := by
 have k' : ¬ goodM l = true := by rw [k]; decide
 exact ⟨if_neg k', if_neg k', if_neg k', if_neg k'⟩
theorem memT_len (l : List Int) (er sd : Int) (x : List Int) : (memT l er sd x).length = l.length := by unfold memT; rw [ovr_len, List.length_set, List.length_set]
theorem setN (l : List Int) (k : Nat) (z : Int) (h : k < l.length) (i : Nat) : nth (l.set k z) i = if i = k then z else nth l i := by
 unfold nth
 by_cases e : i = k
 ·subst e; simp [List.getD, h]
 ·simp [List.getD, e, List.getElem?_set, Ne.symm e]
theorem memT_nth (l : List Int) (hl : l.length = 101) (er sd : Int) (x : List Int) (hx : x.length = 80) (i : Nat) (hi : i < 101) : nth (memT l er sd x) i = if 16 ≤ i ∧ i < 96 then nth x (i - 16) else if i = 100 then sd else if i = 99 then er else nth l i := by
 unfold memT
 rw [ovr_nth _ _ _ _ (by rw [List.length_set, List.length_set, hl]; exact hi), hx]
 by_cases h1 : 16 ≤ i ∧ i < 96
 ·rw [if_pos (by omega), if_pos h1]
 ·rw [if_neg (by omega), if_neg h1, setN _ _ _ (by rw [List.length_set]; omega), setN _ _ _ (by omega)]
theorem kep_right (h b : List Int) (hr : ∀ i, i < 80 → -32768 ≤ nth h i ∧ nth h i ≤ 32767) (i : Nat) (hi : i < 80) : -32768 ≤ nth (kpA h b) i ∧ nth (kpA h b) i ≤ 32767 := by
 rw [kpA_nth _ _ _ hi]
 unfold kpN
 split
 ·exact hr _ (by omega)
 ·exact c16_bd _
theorem memT_good (l : List Int) (hl : l.length = 101) (hg : goodM l = true) (er sd : Int) (b : List Int) (e0 : 0 ≤ er) (e6 : er ≤ 6) (s0 : 0 ≤ sd) (s9 : sd ≤ 65535) : goodM (memT l er sd (kpA (prt l 16 80) b)) = true := by
 rw [goodM_iff]
 have h := (goodM_iff l).1 hg
 intro i hi
 rw [memT_nth l hl _ _ _ (kpA_len _ _) i hi]
 by_cases h1 : 16 ≤ i ∧ i < 96
 ·rw [if_pos h1, (smp_at i (by omega) h1.2).1, (smp_at i (by omega) h1.2).2]
  refine kep_right _ _ (fun j hj => ?_) _ (by omega)
  rw [prt_nth _ _ _ _ hj]
  have := h (16 + j) (by omega)
  rw [(smp_at (16 + j) (by omega) (by omega)).1, (smp_at (16 + j) (by omega) (by omega)).2] at this
  exact this
 ·rw [if_neg h1]
  by_cases h2 : i = 100
  ·rw [if_pos h2, h2]; exact ⟨s0, s9⟩
  ·rw [if_neg h2]
   by_cases h3 : i = 99
   ·rw [if_pos h3, h3]; exact ⟨e0, e6⟩
   ·rw [if_neg h3]; exact h i hi
theorem erN_bd (l : List Int) (half : Int) (hg : goodM l = true) : 0 ≤ erN l half ∧ erN l half ≤ 6 := by
 have h := (goodM_iff l).1 hg 99 (by omega)
 have h' : 0 ≤ nth l 99 ∧ nth l 99 ≤ 6 := h
 unfold erN
 split <;> omega
theorem erM_good (l : List Int) (hl : l.length = 101) (half : Int) (k : erO l half) : goodM (erM l half) = true := by
 rw [(er_yes (s := true) k).1]
 have hs : 0 ≤ nth l 100 ∧ nth l 100 ≤ 65535 := (goodM_iff l).1 k.1 100 (by omega)
 have b := erN_bd l half k.1
 have c := sdN_bd (nth l 100) hs.1 hs.2 40
 exact memT_good l hl k.1 _ _ _ b.1 b.2 c.1 c.2
theorem siM_good (l : List Int) (hl : l.length = 101) (k : goodM l = true) : goodM (siM l) = true := by
 rw [(si_yes (s := true) k).1]
 have hs : 0 ≤ nth l 100 ∧ nth l 100 ≤ 65535 := (goodM_iff l).1 k 100 (by omega)
 have b : 0 ≤ nth l 99 ∧ nth l 99 ≤ 6 := (goodM_iff l).1 k 99 (by omega)
 have c := sdN_bd (nth l 100) hs.1 hs.2 40
 exact memT_good l hl k _ _ _ b.1 b.2 c.1 c.2
theorem good_64 {l : List Int} (hl : l.length = 101) (h : goodM l = true) : In64 l := fun i => by
 by_cases hi : i < 101
 ·have := (goodM_iff l).1 h i hi
  have : -32768 ≤ mlo i ∧ mhi i ≤ 65535 := by unfold mlo mhi; split <;> (try split) <;> (try split) <;> (try split) <;> (try split) <;> omega
  omega
 ·rw [getD_out _ i (by omega)]; omega
theorem er_mix (l : List Int) (half : Int) (hg : goodM l = true) : mxO (nth l 98) (fdV (nth l 97) (erN l half)) (erZ l half) :=
 ⟨erZ_len _ _, (goodM_iff l).1 hg 98 (by omega), fdV_bd _ _⟩
end Go.Proofs.YtdejpongekicdaaGreatDoor

/- RegA -/
namespace Go.Proofs.YtdejpongekicdaaGreatDoor
open Go.RowKit
set_option linter.unusedVariables false
theorem step_store_arr {y : Nat → Option Bool} {o : Oper} {a : Act} {w : World} {K : Act → World → Prop} {Q : Exit → Act → World → Prop} {E : Prop} (hg : o.guard = none) (T : TypeId) (x z : Operand) (ho : o.op = .store T x z)
  (b : Nat) (rs rs' : List Int) (hx : a.eval x = .pointer (some ⟨b, 0, none⟩)) (hy : a.eval z = .agg (arrI rs')) (h : Blk w b T rs) (hl : rs'.length = rs.length) (hi : (Tryz.prog.info? T).map (·.size) = some rs.length)
  (k : K (a.put o.dst undef) (putArr w b rs')) : if Region.wanted o y = true then Oper.wp Tryz.prog o a w K Q else E := by
 have hw : Region.wanted o y = true := by simp [Region.wanted, hg]
 rw [if_pos hw]
 exact wp_store_mid T x z ho b 0 (arrI rs') hx hy (by rw [show (arrI rs').size = rs.length by simp [arrI, hl]]; exact h.there) (by simpa [arrI, hl] using hi) (ones_arrI rs') (by simpa [putArr, arrI] using k)
theorem yields_load_arr {w : World} {b : Nat} {T : TypeId} {rs : List Int} {a : Act} {o : Oper} {x : Operand} (ho : o.op = .load T x) (hx : a.eval x = .pointer (some ⟨b, 0, none⟩)) (h : Blk w b T rs) (d : TypeDesc) (hu : Tryz.prog.underlying T = some d) (hd : d.isRow = true) (hi : (Tryz.prog.info? T).map (·.size) = some rs.length) :
  (execOp a.eval o).run Tryz.prog w = .ok (.value (.agg (arrI rs))) w := by
 have := load_arr h d hu hd hi
 unfold execOp
 simp [ho, hx, this]
def GrownW (w w' : World) : Prop := w.grownBy w' none
theorem gw_start (w : World) : GrownW w w.drew := grown_drew (grown_refl w none)
theorem gw_trans {w u u' : World} (h : GrownW w u) (g : u.grownBy u' none) : GrownW w u' := grown_none h g
theorem gw_alloc {w u : World} (h : GrownW w u) (o : Obj) : GrownW w (u.alloc o) := grown_none h (grown_alloc _ _ none)
theorem gw_own {w u u' : World} {b : Nat} (h : GrownW w u) (g : u.grownBy u' (some b)) (hb : w.heap.size ≤ b) : GrownW w u' := grown_own h g hb
end Go.Proofs.YtdejpongekicdaaGreatDoor

/- EndMath -/
namespace Go.Proofs.YtdejpongekicdaaGreatDoor
open Go.RowKit
set_option linter.unusedVariables false
set_option linter.unusedSimpArgs false
def refl (v : Int) : Int := spotN v 65535 - 32767
theorem tdiv4_le (S lo hi : Int) (h1 : 4 * lo ≤ S) (h2 : S ≤ 4 * hi) : lo ≤ S.tdiv 4 ∧ S.tdiv 4 ≤ hi := by
 rcases Int.le_total 0 S with h | h
 ·rw [Int.tdiv_eq_ediv_of_nonneg h]; omega
 ·have e : S.tdiv 4 = -((-S).tdiv 4) := by rw [Int.neg_tdiv]; omega
  rw [e, Int.tdiv_eq_ediv_of_nonneg (by omega)]; omega
def Mem1 (w wr : World) (T : TypeId) (a : List Int) : Prop := Blk wr w.heap.size T a ∧ w.grownBy wr none
theorem Mem1.set {w wr : World} {T : TypeId} {a : List Int} (h : Mem1 w wr T a) (k : Nat) (z : Int) : Mem1 w (wr.setCell ⟨w.heap.size, k, none⟩ (.int .i64 z)) T (a.set k z) :=
 ⟨h.1.set k z, grown_own h.2 (grown_setCell _ ⟨w.heap.size, k, none⟩ _) (by simp)⟩
end Go.Proofs.YtdejpongekicdaaGreatDoor

/- SynW -/
namespace Go.Proofs.YtdejpongekicdaaGreatDoor
open Go.RowKit
set_option linter.unusedVariables false
set_option linter.unusedSimpArgs false
def Filt (w : World) (L P : List Int) (en : Int) (e : Ending) (w' : World) : Prop := ∃ v', e = .returned (.tuple #[v', .agg (arrI P), .int .i64 en]) ∧ Own w.heap.size w' v' L ∧ w.grownBy w' none
def ListE (w : World) (L : List Int) (en : Int) (e : Ending) (w' : World) : Prop := ∃ v', e = .returned (.tuple #[v', .int .i64 en]) ∧ Own w.heap.size w' v' L ∧ w.grownBy w' none
theorem own_blk {w : World} {b base : Nat} {rs : List Int} (h : Blk w b 3 rs) (hb : base ≤ b) (hl : rs.length ≤ 1000000) : Own base w (.slice (some ⟨b, 0, none⟩) rs.length rs.length) rs :=
 ⟨by simp, .inr ⟨b, rs.length, arrI rs, rfl, hb, h, Nat.le_refl _, by unfold maxLen; omega, by simp [arrI], by simp [arrI, List.take_of_length_le]⟩⟩
theorem one_set (n : Nat) (h : 0 < n) : (zeros n).set 0 4096 = oneL n := by
 apply tab_ext (by simp [zeros])
 intro i hi
 by_cases h0 : i = 0
 ·subst h0; simp [nth, List.getD, zeros, h]
 ·rw [if_neg h0, nth_set_ne _ _ _ _ (by omega), zeros_nth]
end Go.Proofs.YtdejpongekicdaaGreatDoor

/- ConX -/
namespace Go.Proofs.YtdejpongekicdaaGreatDoor
open Go.RowKit
set_option linter.unusedVariables false
set_option linter.unusedSimpArgs false
theorem size80c : (Tryz.prog.info? 51).map (·.size) = some 80 := by kernel_rfl
theorem z80 : (Tryz.prog.info? 51).bind (·.zero) = some (.agg (arrI (zeros 80))) := by kernel_rfl
theorem Ints_cell {w : World} {ad : Option Addr} {n c : Nat} {l : List Int} (h : Ints w (.slice ad n c) l) (k : Nat) (hk : k < l.length) : ∃ a, ad = some a ∧ w.cell? (a.add k) = some (.int .i64 (nth l k)) := by
 obtain ⟨ad', c', e, _, h2⟩ := h
 simp only [Value.slice.injEq] at e
 obtain ⟨rfl, e2, rfl⟩ := e
 obtain ⟨a, rfl, h3⟩ := h2 (by omega)
 exact ⟨a, rfl, h3 k hk⟩
def AnsC (w : World) (v : Value) (e : Ending) (w' : World) : Prop := e = .returned v ∧ w.grownBy w' none
def KepE (w : World) (m : List Int) (en : Int) (e : Ending) (w' : World) : Prop := e = .returned (.tuple #[.agg (arrI m), .int .i64 en]) ∧ w.grownBy w' none
def In1 (x : Int) : Prop := -9223372036854775808 ≤ x ∧ x ≤ 9223372036854775807
end Go.Proofs.YtdejpongekicdaaGreatDoor

/- ConW -/
namespace Go.Proofs.YtdejpongekicdaaGreatDoor
open Go.RowKit
set_option linter.unusedVariables false
set_option linter.unusedSimpArgs false
def memC (l : List Int) (s : Bool) : List Value := mixC l [.bool s]
def memV (l : List Int) (s : Bool) : Value := .agg (memC l s).toArray
theorem memC_len {l : List Int} (h : l.length = 101) (s : Bool) : (memC l s).length = 102 := by unfold memC; rw [mixC_len, h]; rfl
theorem memC_one (l : List Int) (s : Bool) : ∀ v ∈ memC l s, v.oneCell' = true := mixC_one _ _ (by intro v hv; simp at hv; subst hv; rfl)
theorem zMem : (Tryz.prog.info? 53).bind (·.zero) = some (memV (zeros 101) false) := by kernel_rfl
theorem size102 : (Tryz.prog.info? 53).map (·.size) = some 102 := by kernel_rfl
theorem size8 : (Tryz.prog.info? 50).map (·.size) = some 8 := by kernel_rfl
theorem zero_mem (w : World) : Sem.run Tryz.prog (zeroValue 53) w = .ok (memV (zeros 101) false) w := by
 have hz := zMem
 cases hq : Tryz.prog.info? 53 with
 | none => simp [hq] at hz
 | some i =>
  have hi : i.zero = some (memV (zeros 101) false) := by simpa [hq] using hz
  simp [zeroValue, typeInfo, hq, hi]
def BlkM (w : World) (b : Nat) (l : List Int) (s : Bool) : Prop := BlkV w b 53 (memC l s)
theorem BlkM.cell {w : World} {b : Nat} {l : List Int} {s : Bool} (h : BlkM w b l s) (i : Nat) (hi : i < l.length) : w.cell? ⟨b, i, none⟩ = some (.int .i64 (nth l i)) := (BlkV.cell h i).trans (mixC_get _ _ _ hi)
theorem BlkM.free {w : World} {b : Nat} {l : List Int} {s : Bool} (h : BlkM w b l s) (i : Nat) : w.frozen? ⟨b, i, none⟩ = false := BlkV.free h i
theorem BlkM.keep {w w' : World} {b : Nat} {l : List Int} {s : Bool} (h : BlkM w b l s) (g : w.grownBy w' none) : BlkM w' b l s := BlkV.keep h g
theorem BlkM.keepBut {w w' : World} {b : Nat} {l : List Int} {s : Bool} {r : Nat} (h : BlkM w b l s) (g : w.grownBy w' (some r)) (hr : b ≠ r) : BlkM w' b l s := BlkV.keepBut h g hr
theorem BlkM.lt {w : World} {b : Nat} {l : List Int} {s : Bool} (h : BlkM w b l s) : b < w.heap.size := BlkV.lt h
theorem BlkM.new (w : World) (l : List Int) (s : Bool) : BlkM (w.alloc (.cells (memC l s).toArray 53)) w.heap.size l s := BlkV.new w _ _
theorem BlkM.set {w : World} {b : Nat} {l : List Int} {s : Bool} (h : BlkM w b l s) (k : Nat) (z : Int) (hk : k < l.length) : BlkM (w.setCell ⟨b, k, none⟩ (.int .i64 z)) b (l.set k z) s := by
 have := BlkV.set h k (.int .i64 z)
 unfold memC at this
 rw [mixC_set _ _ _ _ hk] at this
 exact this
theorem BlkM.put {w : World} {b : Nat} {l : List Int} {s : Bool} (h : BlkM w b l s) (o : Nat) (M : List Int) (hl : o + M.length ≤ l.length) : BlkM (putV w b o (intsV M)) b (ovr l o M) s ∧ w.grownBy (putV w b o (intsV M)) (some b) := by
 have := put_v h o (intsV M) (by rw [intsV_len]; unfold memC; rw [mixC_len]; omega)
 unfold memC at this
 rw [mixC_spl _ _ _ _ hl] at this
 exact this
theorem BlkM.putAll {w : World} {b : Nat} {l m : List Int} {s t : Bool} (h : BlkM w b l s) (hl : l.length = 101) (hm : m.length = 101) : BlkM (putV w b 0 (memC m t)) b m t ∧ w.grownBy (putV w b 0 (memC m t)) (some b) := by
 have := put_v h 0 (memC m t) (by rw [memC_len hm, memC_len hl]; omega)
 rw [splV_all _ _ (by rw [memC_len hm, memC_len hl])] at this
 exact this
theorem BlkM.part {l : List Int} (s : Bool) (o n : Nat) (h : o + n ≤ l.length) : ((memC l s).drop o).take n = intsV (prt l o n) := mixC_part _ _ _ _ h
theorem BlkM.all {l : List Int} (s : Bool) (h : l.length = 101) : ((memC l s).drop 0).take 102 = memC l s := by rw [List.drop_zero, List.take_of_length_le (by rw [memC_len h]; omega)]
theorem BlkM.ints {w : World} {b : Nat} {l : List Int} {s : Bool} (h : BlkM w b l s) (o n c : Nat) (hn : o + n ≤ l.length) (hc : n ≤ c) : Ints w (.slice (some ⟨b, o, none⟩) n c) (prt l o n) := BlkV.ints h o n c hn hc
def MemE (w : World) (m : List Int) (s : Bool) (L : List Int) (en : Int) (e : Ending) (w' : World) : Prop := ∃ v', e = .returned (.tuple #[memV m s, v', .int .i64 en]) ∧ Own w.heap.size w' v' L ∧ w.grownBy w' none
def CFr (f : Nat) (w : World) : Prop := ∀ wr, w.grownBy wr none → Calls Tryz.prog f #[] wr (AnsC wr (memV freL false))
theorem freL_64 : In64 freL := good_64 freL_len freL_good
end Go.Proofs.YtdejpongekicdaaGreatDoor

/- BlkI -/
namespace Go.Proofs.YtdejpongekicdaaGreatDoor
open Go.RowKit
set_option linter.unusedVariables false
set_option linter.unusedSimpArgs false
def BlkI (w : World) (b : Nat) (T : TypeId) (l : List Int) : Prop := BlkV w b T (intsV l)
theorem BlkI.v {w : World} {b : Nat} {T : TypeId} {l : List Int} (h : BlkI w b T l) : BlkV w b T (intsV l) := h
theorem BlkI.cell {w : World} {b : Nat} {T : TypeId} {l : List Int} (h : BlkI w b T l) (i : Nat) (hi : i < l.length) : w.cell? ⟨b, i, none⟩ = some (.int .i64 (nth l i)) := by
 have := mixC_get l [] i hi
 unfold mixC at this
 rw [List.append_nil] at this
 exact (BlkV.cell h i).trans this
theorem BlkI.free {w : World} {b : Nat} {T : TypeId} {l : List Int} (h : BlkI w b T l) (i : Nat) : w.frozen? ⟨b, i, none⟩ = false := BlkV.free h i
theorem BlkI.lt {w : World} {b : Nat} {T : TypeId} {l : List Int} (h : BlkI w b T l) : b < w.heap.size := BlkV.lt h
theorem BlkI.keep {w w' : World} {b : Nat} {T : TypeId} {l : List Int} (h : BlkI w b T l) (g : w.grownBy w' none) : BlkI w' b T l := BlkV.keep h g
theorem BlkI.keepBut {w w' : World} {b : Nat} {T : TypeId} {l : List Int} {r : Nat} (h : BlkI w b T l) (g : w.grownBy w' (some r)) (hr : b ≠ r) : BlkI w' b T l := BlkV.keepBut h g hr
theorem BlkI.new (w : World) (T : TypeId) (l : List Int) : BlkI (w.alloc (.cells (arrI l) T)) w.heap.size T l := BlkV.new w T (intsV l)
theorem BlkI.set {w : World} {b : Nat} {T : TypeId} {l : List Int} (h : BlkI w b T l) (k : Nat) (z : Int) (hk : k < l.length) : BlkI (w.setCell ⟨b, k, none⟩ (.int .i64 z)) b T (l.set k z) := by
 have := BlkV.set h k (.int .i64 z)
 have e := mixC_set l [] k z hk
 unfold mixC at e
 rw [List.append_nil, List.append_nil] at e
 rw [e] at this
 exact this
theorem BlkI.put {w : World} {b : Nat} {T : TypeId} {l : List Int} (h : BlkI w b T l) (o : Nat) (M : List Int) (hl : o + M.length ≤ l.length) : BlkI (putV w b o (intsV M)) b T (ovr l o M) ∧ w.grownBy (putV w b o (intsV M)) (some b) := by
 have := put_v h o (intsV M) (by rw [intsV_len, intsV_len]; exact hl)
 have e := mixC_spl l [] o M hl
 unfold mixC at e
 rw [List.append_nil, List.append_nil] at e
 rw [e] at this
 exact this
theorem BlkI.part {l : List Int} (o n : Nat) (h : o + n ≤ l.length) : ((intsV l).drop o).take n = intsV (prt l o n) := by
 have := mixC_part l [] o n h
 unfold mixC at this
 rwa [List.append_nil] at this
theorem BlkI.all (l : List Int) (n : Nat) (h : l.length = n) : ((intsV l).drop 0).take n = intsV l := by rw [List.drop_zero, List.take_of_length_le (by rw [intsV_len]; omega)]
theorem BlkI.putAll {w : World} {b : Nat} {T : TypeId} {l m : List Int} (h : BlkI w b T l) (hl : m.length = l.length) : BlkI (putV w b 0 (intsV m)) b T m ∧ w.grownBy (putV w b 0 (intsV m)) (some b) := by
 have := put_v h 0 (intsV m) (by rw [intsV_len, intsV_len]; omega)
 rw [splV_all _ _ (by rw [intsV_len, intsV_len]; exact hl)] at this
 exact this
theorem BlkI.ints {w : World} {b : Nat} {T : TypeId} {l : List Int} (h : BlkI w b T l) (o n c : Nat) (hn : o + n ≤ l.length) (hc : n ≤ c) : Ints w (.slice (some ⟨b, o, none⟩) n c) (prt l o n) := by
 have k : BlkV w b T (mixC l []) := by unfold mixC; rw [List.append_nil]; exact h
 exact k.ints o n c hn hc
end Go.Proofs.YtdejpongekicdaaGreatDoor

/- EncS -/
namespace Go.Proofs.YtdejpongekicdaaGreatDoor
open Go.RowKit
set_option linter.unusedVariables false
set_option linter.unusedSimpArgs false
def encC (e : List Int) (s : Bool) : List Value := mixC e [.bool s]
def encV (e : List Int) (s : Bool) : Value := .agg (encC e s).toArray
theorem encC_len {e : List Int} (h : e.length = 225) (s : Bool) : (encC e s).length = 226 := by unfold encC; rw [mixC_len, h]; rfl
theorem encC_one (e : List Int) (s : Bool) : ∀ v ∈ encC e s, v.oneCell' = true := mixC_one _ _ (by intro v hv; simp at hv; subst hv; rfl)
theorem zEnc : (Tryz.prog.info? 55).bind (·.zero) = some (encV (zeros 225) false) := by kernel_rfl
theorem size226 : (Tryz.prog.info? 55).map (·.size) = some 226 := by kernel_rfl
theorem size4h : (Tryz.prog.info? 48).map (·.size) = some 4 := by kernel_rfl
theorem zero_enc (w : World) : Sem.run Tryz.prog (zeroValue 55) w = .ok (encV (zeros 225) false) w := by
 have hz := zEnc
 cases hq : Tryz.prog.info? 55 with
 | none => simp [hq] at hz
 | some i =>
  have hi : i.zero = some (encV (zeros 225) false) := by simpa [hq] using hz
  simp [zeroValue, typeInfo, hq, hi]
def BlkE (w : World) (b : Nat) (e : List Int) (s : Bool) : Prop := BlkV w b 55 (encC e s)
theorem BlkE.keep {w w' : World} {b : Nat} {e : List Int} {s : Bool} (h : BlkE w b e s) (g : w.grownBy w' none) : BlkE w' b e s := BlkV.keep h g
theorem BlkE.keepBut {w w' : World} {b : Nat} {e : List Int} {s : Bool} {r : Nat} (h : BlkE w b e s) (g : w.grownBy w' (some r)) (hr : b ≠ r) : BlkE w' b e s := BlkV.keepBut h g hr
theorem BlkE.lt {w : World} {b : Nat} {e : List Int} {s : Bool} (h : BlkE w b e s) : b < w.heap.size := BlkV.lt h
theorem BlkE.new (w : World) (e : List Int) (s : Bool) : BlkE (w.alloc (.cells (encC e s).toArray 55)) w.heap.size e s := BlkV.new w _ _
theorem BlkE.putAll {w : World} {b : Nat} {l m : List Int} {s t : Bool} (h : BlkE w b l s) (hl : l.length = 225) (hm : m.length = 225) : BlkE (putV w b 0 (encC m t)) b m t ∧ w.grownBy (putV w b 0 (encC m t)) (some b) := by
 have := put_v h 0 (encC m t) (by rw [encC_len hm, encC_len hl]; omega)
 rw [splV_all _ _ (by rw [encC_len hm, encC_len hl])] at this
 exact this
theorem BlkE.all {e : List Int} (s : Bool) (h : e.length = 225) : ((encC e s).drop 0).take 226 = encC e s := by rw [List.drop_zero, List.take_of_length_le (by rw [encC_len h]; omega)]
theorem encC_part {e : List Int} (s : Bool) (o n : Nat) (h : o + n ≤ e.length) : ((encC e s).drop o).take n = intsV (prt e o n) := mixC_part _ _ _ _ h
theorem encC_mem {e : List Int} (s : Bool) (he : e.length = 225) : ((encC e s).drop 124).take 102 = memC (prt e 124 101) s := by
 rw [← prt_eq e 124 101 (by omega)]
 unfold encC memC mixC
 rw [List.drop_append_of_le_length (by rw [intsV_len]; omega), List.take_of_length_le (by simp [intsV]; omega)]
 congr 1
 rw [List.take_of_length_le (by simp; omega)]
 unfold intsV
 rw [List.map_drop]
theorem BlkE.input {w : World} {b : Nat} {e : List Int} {s : Bool} (h : BlkE w b e s) (o n c : Nat) (hn : o + n ≤ e.length) (hc : n ≤ c) : Ints w (.slice (some ⟨b, o, none⟩) n c) (prt e o n) := BlkV.ints h o n c hn hc
theorem grown_setRowE (w : World) (g : Nat) (cs : Array Value) : w.grownBy (w.setRow g cs) (some g) :=
 ⟨rfl, rfl, rfl, by simp, fun k _ h => setRow_other w g k cs (fun e => h (by rw [e]))⟩
theorem wpList_copyV {ops : Array Oper} {rest : List Oper} {o : Oper} {a : Act} {w : World} {Q : Exit → Act → World → Prop} (hgd : o.guard = none) (d s : Operand)
  (hop : o.op = Op.call { callee := Callee.builtin Builtin.copy, args := #[d, s], argTypes := #[26, 26] }) (b off dn n dc sc : Nat) (T : TypeId) (cs : List Value) (L : List Int) (ad : Addr) (hb : BlkV w b T cs) (hd : a.eval d = .slice (some ⟨b, off, none⟩) dn dc) (hs : a.eval s = .slice (some ad) n sc)
  (hL : L.length = n) (hdn : n ≤ dn) (hsrc : ∀ j, j < n → w.cell? (ad.add j) = some (.int .i64 (nth L j))) (hfit : off + n ≤ cs.length)
  (hK : ∀ w', BlkV w' b T (splV cs off (intsV L)) → w.grownBy w' (some b) → wpList Tryz.prog ops Q rest (a.put o.dst (goInt n)) w') : wpList Tryz.prog ops Q (o :: rest) a w := by
 have hsz : (Tryz.prog.info? 3).map (·.size) = some 1 := by kernel_rfl
 refine wpList_copy_own hgd d s _ _ hop 3 Tryz.underlying26 hsz b off dn dc ad n sc hd hs cs.toArray T hb (L.map (Value.int .i64)) (by rw [List.length_map, hL]; exact (Nat.min_eq_left hdn).symm) (fun j v hv' => ?_) (by simp [hL]; omega) (fun v hv' => ?_) ?_
 ·have hj : j < L.length := by
   by_cases hj : j < L.length
   ·exact hj
   ·rw [List.getElem?_eq_none (by simp; omega)] at hv'; cases hv'
  rw [hsrc j (by omega)]
  simpa [nth, List.getD, hj] using hv'
 ·obtain ⟨x, _, rfl⟩ := List.mem_map.1 hv'
  rfl
 ·have e : (cs.toArray.toList.take off ++ (L.map (Value.int .i64) ++ cs.toArray.toList.drop (off + (L.map (Value.int .i64)).length))).toArray = (splV cs off (intsV L)).toArray := by simp [splV, intsV]
  rw [e, List.length_map, hL]
  exact hK _ (setRow_heap _ _ _ _ _ _ hb) (grown_setRowE _ _ _)
theorem splV_mid (A B C V : List Value) (o : Nat) (hA : A.length = o) (hB : B.length = V.length) : splV (A ++ (B ++ C)) o V = A ++ (V ++ C) := by
 subst hA
 unfold splV
 rw [List.take_left, List.append_assoc]
 congr 2
 rw [← List.append_assoc, List.drop_left' (by rw [List.length_append, hB])]
def EncE (w : World) (e : List Int) (s : Bool) (B L : List Int) (en : Int) (x : Ending) (w' : World) : Prop := ∃ vb vl, x = .returned (.tuple #[encV e s, vb, vl, .int .i64 en]) ∧ OwnB w.heap.size w' vb B ∧ Own w.heap.size w' vl L ∧ w.grownBy w' none
end Go.Proofs.YtdejpongekicdaaGreatDoor

/- EraMath -/
namespace Go.Proofs.YtdejpongekicdaaGreatDoor
open Go.RowKit
set_option linter.unusedVariables false
set_option linter.unusedSimpArgs false
def souM (A m x : List Int) : List Int := ovr m 8 (mkP A (prt m 8 8) x)
def souL (A m x : List Int) : List Int := mkL A (prt m 8 8) x
theorem souM_len (A m x : List Int) : (souM A m x).length = m.length := ovr_len _ _ _
theorem souM_nth (A m x : List Int) (i : Nat) (hi : i < m.length) : nth (souM A m x) i = if 8 ≤ i ∧ i < 16 then nth (mkP A (prt m 8 8) x) (i - 8) else nth m i := by
 unfold souM
 rw [ovr_nth _ _ _ _ hi, mkP_len]
structure WideP (A : List Int) : Prop where
 len : A.length = 9
 wide : wide20 A = true
 one : nth A 0 = 4096
theorem dir_wide (k : List Int) (hk : k.length = 8) (h : steadyB k = true) : WideP (dirL k) := by
 have e : dirL k = tab 9 (dirN (nth k)) := if_pos h
 refine ⟨dirL_len k, ?_, ?_⟩
 ·rw [wide20_iff, dirL_len]
  intro i hi
  rw [e, tab_nth _ _ _ hi]
  have := dirN_bd k hk h i
  omega
 ·rw [e, tab_nth _ _ _ (by omega), dirN_zero]
theorem mul_fac (c f : Int) (h1 : -1048576 ≤ c) (h2 : c ≤ 1048576) (h3 : 0 ≤ f) (h4 : f ≤ 32768) : -34359738368 ≤ c * f ∧ c * f ≤ 34359738368 := by
 have a := Int.mul_le_mul_of_nonneg_right h2 h3
 have b := Int.mul_le_mul_of_nonneg_right h1 h3
 omega
theorem exp_wide {A : List Int} (hA : WideP A) (g : Int) (h0 : 0 ≤ g) (h1 : g ≤ 32768) : WideP (expL A g) := by
 have w := (wide20_iff A).1 hA.wide
 have ok : okX A g = true := by
  unfold okX
  have : wideB A = true := (wideB_iff A).2 fun i hi => by have := w i hi; omega
  simp [h0, h1, this]
 have e : expL A g = tab 9 (expN A g) := if_pos ok
 refine ⟨expL_len A g, ?_, ?_⟩
 ·rw [wide20_iff, expL_len]
  intro i hi
  rw [e, tab_nth _ _ _ hi]
  have a := w i (by rw [hA.len]; exact hi)
  have f := fac_bd g h0 h1 i
  have b := mul_fac _ _ a.1 a.2 f.1 f.2
  unfold expN
  omega
 ·rw [e, tab_nth _ _ _ (by omega)]
  unfold expN
  rw [hA.one]
  show (4096 * 32768 + 16384) / 32768 = (4096 : Int)
  decide
theorem sou_ok {A m x : List Int} (hA : WideP A) (hg : goodM m = true) (hx : rightB x = true) : okF A (prt m 8 8) x = true := by
 unfold okF
 have p := ((goodM_parts m).1 hg).2.1
 simp [hA.wide, hA.one, p, hx]
theorem souL_yes {A m x : List Int} (hA : WideP A) (hg : goodM m = true) (hx : rightB x = true) : souL A m x = mkN A (prt m 8 8) x x.length := if_pos (sou_ok hA hg hx)
theorem souL_len {A m x : List Int} (hA : WideP A) (hg : goodM m = true) (hx : rightB x = true) : (souL A m x).length = x.length := mkL_len _ _ _ (sou_ok hA hg hx)
theorem souL_right {A m x : List Int} (hA : WideP A) (hg : goodM m = true) (hx : rightB x = true) : rightB (souL A m x) = true := by rw [souL_yes hA hg hx]; exact mkN_right _ _ _ _
theorem souM_good {A m x : List Int} (hm : m.length = 101) (hA : WideP A) (hg : goodM m = true) (hx : rightB x = true) : goodM (souM A m x) = true := by
 rw [goodM_iff]
 intro i hi
 rw [souM_nth _ _ _ _ (by omega)]
 by_cases h : 8 ≤ i ∧ i < 16
 ·rw [if_pos h, (smp_at i h.1 (by omega)).1, (smp_at i h.1 (by omega)).2]
  have e : mkP A (prt m 8 8) x = newL (prt m 8 8) (mkN A (prt m 8 8) x x.length) := if_pos (sou_ok hA hg hx)
  rw [e]
  have r := newL_right (prt m 8 8) (mkN A (prt m 8 8) x x.length) ((goodM_parts m).1 hg).2.1 (mkN_right _ _ _ _)
  exact (rightB_iff _).1 r (i - 8) (by rw [newL_len]; omega)
 ·rw [if_neg h]; exact (goodM_iff m).1 hg i hi
theorem reflM_steady {m : List Int} (hg : goodM m = true) : steadyB (prt m 0 8) = true := by
 rw [steadyB_iff, prt_len]
 intro i hi
 rw [prt_nth _ _ _ _ hi]
 have := (reflB_iff m).1 ((goodM_parts m).1 hg).1 i hi
 rw [Nat.zero_add]
 omega
theorem erL_right (l : List Int) (half : Int) : rightB (erL l half) = true := by
 unfold erL
 split
 ·exact mxA_right _ _ _
 ·rfl
theorem siL_right (l : List Int) : rightB (siL l) = true := by
 unfold siL
 split
 ·exact nzL_right _ _ _
 ·rfl
def eaA (l : List Int) : List Int := expL (dirL (prt l 0 8)) 32440
theorem eaA_wide {l : List Int} (hg : goodM l = true) : WideP (eaA l) := exp_wide (dir_wide _ (prt_len _ _ _) (reflM_steady hg)) 32440 (by decide) (by decide)
def eaM (A l : List Int) : Nat → List Int
 | 0 => l
 | n + 1 => souM A (erM (eaM A l n) n) (erL (eaM A l n) n)
def eaO (A l : List Int) : Nat → List Int
 | 0 => []
 | n + 1 => eaO A l n ++ souL A (erM (eaM A l n) n) (erL (eaM A l n) n)
theorem erM_lenE (l : List Int) (hl : l.length = 101) (half : Int) : (erM l half).length = 101 := by
 unfold erM
 split
 ·rw [memT_len, hl]
 ·exact zeros_len _
theorem eaM_len (A l : List Int) (hl : l.length = 101) : ∀ n, (eaM A l n).length = 101
 | 0 => hl
 | n + 1 => by
  show (souM A (erM (eaM A l n) n) _).length = 101
  rw [souM_len, erM_lenE _ (eaM_len A l hl n)]
theorem eaM_good (A l : List Int) (hl : l.length = 101) (hA : WideP A) (hg : goodM l = true) : ∀ n, n ≤ 2 → goodM (eaM A l n) = true
 | 0, _ => hg
 | n + 1, h => by
  have g := eaM_good A l hl hA hg n (by omega)
  have len := eaM_len A l hl n
  exact souM_good (erM_lenE _ len _) hA (erM_good _ len n ⟨g, by omega, by omega⟩) (erL_right _ _)
theorem eaO_right (A l : List Int) (hl : l.length = 101) (hA : WideP A) (hg : goodM l = true) : ∀ n, n ≤ 2 → (eaO A l n).length = 40 * n ∧ rightB (eaO A l n) = true
 | 0, _ => ⟨rfl, rfl⟩
 | n + 1, h => by
  obtain ⟨a, b⟩ := eaO_right A l hl hA hg n (by omega)
  have g := eaM_good A l hl hA hg n (by omega)
  have len := eaM_len A l hl n
  have o : erO (eaM A l n) (n : Int) := ⟨g, by omega, by omega⟩
  have gm := erM_good _ len n o
  have xl : (erL (eaM A l n) n).length = 40 := by rw [(er_yes (s := true) o).2.2.1, erX_len]
  constructor
  ·show (eaO A l n ++ souL A _ _).length = _
   rw [List.length_append, a, souL_len hA gm (erL_right _ _), xl]; omega
  ·show rightB (eaO A l n ++ souL A _ _) = true
   have c := souL_right (A := A) (m := erM (eaM A l n) n) (x := erL (eaM A l n) n) hA gm (erL_right _ _)
   unfold rightB at *
   rw [List.all_append, b, c]; rfl
def ersM (l : List Int) : List Int := if goodM l = true then eaM (eaA l) l 2 else zeros 101
def ersS (l : List Int) (s : Bool) : Bool := if goodM l = true then s else false
def ersL (l : List Int) : List Int := if goodM l = true then eaO (eaA l) l 2 else []
def ersE (l : List Int) : Int := if goodM l = true then 0 else 2
theorem ers_yes {l : List Int} {s : Bool} (k : goodM l = true) : ersM l = eaM (eaA l) l 2 ∧ ersS l s = s ∧ ersL l = eaO (eaA l) l 2 ∧ ersE l = 0 := ⟨if_pos k, if_pos k, if_pos k, if_pos k⟩
theorem ers_no {l : List Int} {s : Bool} (k : goodM l = false) : ersM l = zeros 101 ∧ ersS l s = false ∧ ersL l = [] ∧ ersE l = 2 := by
 have k' : ¬ goodM l = true := by rw [k]; decide
 exact ⟨if_neg k', if_neg k', if_neg k', if_neg k'⟩
theorem ersM_good {l : List Int} (hl : l.length = 101) (k : goodM l = true) : goodM (ersM l) = true := by
 rw [(ers_yes (s := true) k).1]; exact eaM_good _ _ hl (eaA_wide k) k 2 (by omega)
theorem ersL_right {l : List Int} (hl : l.length = 101) (k : goodM l = true) : (ersL l).length = 80 ∧ rightB (ersL l) = true := by
 rw [(ers_yes (s := true) k).2.2.1]; exact eaO_right _ _ hl (eaA_wide k) k 2 (by omega)
end Go.Proofs.YtdejpongekicdaaGreatDoor

/- QuantMath -/
namespace Go.Proofs.YtdejpongekicdaaGreatDoor
open Go.RowKit
set_option maxRecDepth 100000
def wid (i : Nat) : Nat := if i < 2 then 6 else if i < 4 then 5 else if i < 6 then 4 else 3
def many (b : Nat) : Nat := 2 ^ b
theorem wid_in (i : Nat) : wid i = 6 ∨ wid i = 5 ∨ wid i = 4 ∨ wid i = 3 := by unfold wid; split <;> (try split) <;> (try split) <;> simp
def upL (M n : Int) : Int := 31000 - 31000 * (2 * (M - n) - 1) * (2 * (M - n) - 1) / (M * M)
def lvl (b : Nat) (n : Int) : Int := if 2 * n < (many b : Int) then -upL (many b) ((many b : Int) - 1 - n) else upL (many b) n
def okB (b : Nat) : Prop := b = 6 ∨ b = 5 ∨ b = 4 ∨ b = 3
theorem many_bd (b : Nat) (h : okB b) : 8 ≤ many b ∧ many b ≤ 64 := by rcases h with rfl | rfl | rfl | rfl <;> decide
theorem many_even (b : Nat) (h : okB b) : ∃ q : Nat, many b = 2 * q := ⟨many b / 2, by rcases h with rfl | rfl | rfl | rfl <;> decide⟩
theorem sq_bdQ (M r : Int) (h0 : 1 ≤ r) (h1 : r ≤ M) (h2 : 8 ≤ M) (h3 : M ≤ 64) : 0 ≤ 31000 * r * r / (M * M) ∧ 31000 * r * r / (M * M) ≤ 31000 ∧ 0 ≤ 31000 * r * r ∧ 31000 * r * r ≤ 126976000 ∧ 0 < M * M ∧ M * M ≤ 4096 := by
 have e1 : r * r ≤ M * M := Int.mul_le_mul h1 h1 (by omega) (by omega)
 have e2 : 0 ≤ r * r := Int.mul_nonneg (by omega) (by omega)
 have e3 : M * M ≤ 64 * 64 := Int.mul_le_mul h3 h3 (by omega) (by omega)
 have e4 : 8 * 8 ≤ M * M := Int.mul_le_mul h2 h2 (by omega) (by omega)
 rw [Int.mul_assoc]
 generalize r * r = x at *
 generalize M * M = y at *
 have d1 : 0 ≤ 31000 * x / y := Int.ediv_nonneg (by omega) (by omega)
 have d2 : 31000 * x / y ≤ 31000 := Int.ediv_le_of_le_mul (by omega) (by omega)
 omega
theorem upL_bd (b : Nat) (n : Int) (h : okB b) (h1 : (many b : Int) ≤ 2 * n) (h2 : n < many b) : 0 ≤ upL (many b) n ∧ upL (many b) n ≤ 31000 := by
 obtain ⟨m1, m2⟩ := many_bd b h
 obtain ⟨q, hq⟩ := many_even b h
 have := sq_bdQ (many b) (2 * ((many b : Int) - n) - 1) (by omega) (by omega) (by omega) (by omega)
 unfold upL
 omega
theorem lvl_bd (b : Nat) (n : Int) (h : okB b) (h1 : 0 ≤ n) (h2 : n < many b) : -31000 ≤ lvl b n ∧ lvl b n ≤ 31000 := by
 obtain ⟨q, hq⟩ := many_even b h
 unfold lvl
 split
 ·have := upL_bd b ((many b : Int) - 1 - n) h (by omega) (by omega)
  omega
 ·have := upL_bd b n h (by omega) (by omega)
  omega
theorem lvl_low (b : Nat) (n : Int) (h : 2 * n < many b) : lvl b n = -upL (many b) ((many b : Int) - 1 - n) := if_pos h
theorem lvl_high (b : Nat) (n : Int) (h : ¬2 * n < many b) : lvl b n = upL (many b) n := if_neg h
def far (x y : Int) : Int := if x < y then y - x else x - y
def gap (b : Nat) (k : Int) (n : Nat) : Int := far (lvl b n) k
def best (b : Nat) (k : Int) : Nat → Nat
 | 0 => 0
 | n + 1 => if gap b k n < gap b k (best b k n) then n else best b k n
theorem best_yes (b : Nat) (k : Int) (n : Nat) (h : gap b k n < gap b k (best b k n)) : best b k (n + 1) = n := if_pos h
theorem best_no (b : Nat) (k : Int) (n : Nat) (h : ¬gap b k n < gap b k (best b k n)) : best b k (n + 1) = best b k n := if_neg h
theorem best_one (b : Nat) (k : Int) : best b k 1 = 0 := by
 show (if gap b k 0 < gap b k 0 then 0 else 0) = 0
 split <;> rfl
theorem best_lt (b : Nat) (k : Int) : ∀ n, best b k (n + 1) ≤ n
 | 0 => by rw [best_one]; omega
 | n + 1 => by
  have := best_lt b k n
  show (if gap b k (n + 1) < gap b k (best b k (n + 1)) then n + 1 else best b k (n + 1)) ≤ n + 1
  split <;> omega
theorem best_in (b : Nat) (k : Int) (n m : Nat) (h : n ≤ m) (hm : 0 < m) : best b k n < m := by
 match n with
 | 0 => exact hm
 | n + 1 => have := best_lt b k n; omega
def one (b : Nat) (k : Int) : Nat := best b k (many b)
theorem one_lt (b : Nat) (k : Int) (h : okB b) : one b k < many b := best_in b k _ _ (Nat.le_refl _) (by have := many_bd b h; omega)
end Go.Proofs.YtdejpongekicdaaGreatDoor

/- PulMath -/
namespace Go.Proofs.YtdejpongekicdaaGreatDoor
open Go.RowKit
set_option linter.unusedVariables false
set_option linter.unusedSimpArgs false
set_option maxHeartbeats 1000000
theorem sumT_le (f : Nat → Int) (B : Int) (h : ∀ i, -B ≤ f i ∧ f i ≤ B) : ∀ n : Nat, -(B * (n : Int)) ≤ sumT f n ∧ sumT f n ≤ B * (n : Int)
 | 0 => by show -(B * ((0 : Nat) : Int)) ≤ 0 ∧ (0 : Int) ≤ B * ((0 : Nat) : Int); simp
 | n + 1 => by
  have h1 := sumT_le f B h n
  have h2 := h n
  have e : B * ((n + 1 : Nat) : Int) = B * (n : Int) + B := by rw [show ((n + 1 : Nat) : Int) = (n : Int) + 1 from rfl, Int.mul_add, Int.mul_one]
  show -(B * ((n + 1 : Nat) : Int)) ≤ sumT f n + f n ∧ sumT f n + f n ≤ B * ((n + 1 : Nat) : Int)
  rw [e]; omega
theorem sumT_zero (f : Nat → Int) : ∀ n, (∀ i, i < n → f i = 0) → sumT f n = 0
 | 0, _ => rfl
 | n + 1, h => by show sumT f n + f n = 0; rw [sumT_zero f n (fun i hi => h i (by omega)), h n (by omega)]; rfl
theorem sumT_shift (f : Nat → Int) (n : Nat) (h : ∀ i, i < n → f i = 0) : ∀ k, sumT f (n + k) = sumT (fun i => f (n + i)) k
 | 0 => sumT_zero f n h
 | k + 1 => by show sumT f (n + k) + f (n + k) = sumT (fun i => f (n + i)) k + f (n + k); rw [sumT_shift f n h k]
def lateN (r : List Int) (n i : Nat) : Int := if n ≤ i then c16 (nth r (i - n)) else 0
theorem lateN_bd (r : List Int) (n i : Nat) : -32768 ≤ lateN r n i ∧ lateN r n i ≤ 32767 := by
 unfold lateN
 split
 ·exact c16_bd _
 ·omega
def enN (r : List Int) (a b : Nat) : Int := sumT (fun i => lateN r a i * lateN r b i) 40
theorem enN_last (r : List Int) (a b : Nat) (ha : a ≤ 39) (hb : b ≤ 39) (h : a = 39 ∨ b = 39) : enN r a b = c16 (nth r (39 - a)) * c16 (nth r (39 - b)) := by
 show sumT (fun i => lateN r a i * lateN r b i) 39 + lateN r a 39 * lateN r b 39 = _
 rw [sumT_zero _ 39 (fun i hi => by
  rcases h with h | h
  ·rw [show lateN r a i = 0 from if_neg (by omega)]; simp
  ·rw [show lateN r b i = 0 from if_neg (by omega)]; simp)]
 rw [show lateN r a 39 = c16 (nth r (39 - a)) from if_pos ha, show lateN r b 39 = c16 (nth r (39 - b)) from if_pos hb]
 omega
theorem enN_step (r : List Int) (a b : Nat) (ha : a < 39) (hb : b < 39) : enN r a b = c16 (nth r (39 - a)) * c16 (nth r (39 - b)) + enN r (a + 1) (b + 1) := by
 have e1 : enN r (a + 1) (b + 1) = sumT (fun i => lateN r a i * lateN r b i) 39 := by
  show sumT (fun i => lateN r (a + 1) i * lateN r (b + 1) i) (39 + 1) = _
  rw [sumT_front, show lateN r (a + 1) 0 = 0 from if_neg (by omega)]
  rw [sumT_congr (fun i => lateN r (a + 1) (i + 1) * lateN r (b + 1) (i + 1)) (fun i => lateN r a i * lateN r b i) 39 (fun i _ => by
   have f : ∀ n, lateN r (n + 1) (i + 1) = lateN r n i := fun n => by
    unfold lateN
    by_cases h : n ≤ i
    ·rw [if_pos h, if_pos (by omega), show i + 1 - (n + 1) = i - n by omega]
    ·rw [if_neg h, if_neg (by omega)]
   rw [f a, f b])]
  simp
 rw [e1]
 show sumT (fun i => lateN r a i * lateN r b i) 39 + lateN r a 39 * lateN r b 39 = _
 rw [show lateN r a 39 = c16 (nth r (39 - a)) from if_pos (by omega), show lateN r b 39 = c16 (nth r (39 - b)) from if_pos (by omega)]
 omega
theorem enN_bd (r : List Int) (a b : Nat) : -42949672960 ≤ enN r a b ∧ enN r a b ≤ 42949672960 := by
 have := sumT_bd (fun i => lateN r a i * lateN r b i) (fun i => p16_bd _ _ (lateN_bd r a i).1 (lateN_bd r a i).2 (lateN_bd r b i).1 (lateN_bd r b i).2) 40
 unfold enN
 omega
def tbN (r : List Int) (k : Nat) : Int := enN r (k / 40) (k % 40)
def tbl (r : List Int) : List Int := tab 1600 (tbN r)
theorem tbl_len (r : List Int) : (tbl r).length = 1600 := tab_len _ _
theorem tbl_at (r : List Int) (a b : Nat) (ha : a < 40) (hb : b < 40) : nth (tbl r) (a * 40 + b) = enN r a b := by
 unfold tbl
 rw [tab_nth _ _ _ (by omega)]
 unfold tbN
 rw [show (a * 40 + b) / 40 = a by omega, show (a * 40 + b) % 40 = b by omega]
def TbF (r : List Int) (a b : Nat) (rs : List Int) : Prop := rs.length = 1600 ∧ ∀ x y, x < 40 → y < 40 → (a < x ∨ (a = x ∧ b ≤ y)) → nth rs (x * 40 + y) = enN r x y
theorem tbF_start (r : List Int) : TbF r 40 0 (zeros 1600) := ⟨zeros_len _, fun x y hx hy h => by omega⟩
theorem tbF_next {r : List Int} {a : Nat} {rs : List Int} (h : TbF r (a + 1) 0 rs) : TbF r a 40 rs := ⟨h.1, fun x y hx hy hh => h.2 x y hx hy (by omega)⟩
theorem tbF_set {r : List Int} {a b : Nat} {rs : List Int} (ha : a < 40) (hb : b < 40) (h : TbF r a (b + 1) rs) (z : Int) (hz : z = enN r a b) : TbF r a b (rs.set (a * 40 + b) z) := by
 refine ⟨by simpa using h.1, fun x y hx hy hh => ?_⟩
 by_cases e : a = x ∧ b = y
 ·obtain ⟨rfl, rfl⟩ := e
  rw [nth_set_eq _ _ _ (by rw [h.1]; omega), hz]
 ·rw [nth_set_ne _ _ _ _ (by omega)]
  exact h.2 x y hx hy (by omega)
theorem tbF_other {r : List Int} {a b : Nat} {rs : List Int} (ha : a < 40) (hb : b < 40) (h : TbF r a (b + 1) rs) (z : Int) : TbF r a (b + 1) (rs.set (a * 40 + b) z) :=
 ⟨by simpa using h.1, fun x y hx hy hh => by rw [nth_set_ne _ _ _ _ (by omega)]; exact h.2 x y hx hy hh⟩
theorem tbF_all {r : List Int} {rs : List Int} (h : TbF r 0 0 rs) : rs = tbl r := by
 refine tab_ext h.1 (fun i hi => ?_)
 have := h.2 (i / 40) (i % 40) (by omega) (by omega) (by omega)
 rw [show i / 40 * 40 + i % 40 = i by omega] at this
 exact this
def tgN (t r : List Int) (n : Nat) : Int := sumT (fun i => nth t i * lateN r n i) 40
def tgL (t r : List Int) : List Int := tab 40 (tgN t r)
theorem tgN_drop (t r : List Int) (hr : rightB r = true) (n : Nat) (hn : n ≤ 40) : dotS (t.drop n) r (40 - n) = tgN t r n := by
 have e := sumT_shift (fun i => nth t i * lateN r n i) n (fun i hi => by rw [show lateN r n i = 0 from if_neg (by omega)]; simp) (40 - n)
 rw [show n + (40 - n) = 40 by omega] at e
 unfold tgN
 rw [e]
 refine sumT_congr _ _ _ (fun i _ => ?_)
 have b := nth_in _ _ _ (by omega) (by omega) ((rightB_iff r).1 hr) i
 rw [nth_drop, show lateN r n (n + i) = nth r i by unfold lateN; rw [if_pos (by omega), show n + i - n = i by omega, c16_id _ b.1 b.2]]
def tgV (t r : List Int) : List Int := if t.length = 40 ∧ r.length = 40 ∧ (rightB t && rightB r) = true then tgL t r else []
def tgE (t r : List Int) : Int := if t.length = 40 ∧ r.length = 40 then (if (rightB t && rightB r) = true then 0 else 2) else 1
def sg (x : Int) : Int := if x < 0 then -1 else 1
theorem sg_cases (x : Int) : (x < 0 ∧ sg x = -1) ∨ (0 ≤ x ∧ sg x = 1) := by
 unfold sg
 by_cases h : x < 0
 ·exact .inl ⟨h, if_pos h⟩
 ·exact .inr ⟨by omega, if_neg h⟩
def psN (x : List Int) (t : Nat) : Nat := t + 4 * (nth x t).toNat
def goodX (x : List Int) : Bool := x.all fun p => decide (0 ≤ p) && decide (p ≤ 9)
theorem goodX_iff (x : List Int) : goodX x = true ↔ ∀ i, i < x.length → 0 ≤ nth x i ∧ nth x i ≤ 9 := by
 unfold goodX
 rw [List.all_eq_true]
 constructor
 ·intro h i hi
  have := h x[i] (List.getElem_mem hi)
  simp only [Bool.and_eq_true, decide_eq_true_eq] at this
  simpa [nth, List.getD, hi] using this
 ·intro h y hy
  obtain ⟨i, hi, rfl⟩ := List.getElem_of_mem hy
  have := h i hi
  simp only [nth, List.getD, List.getElem?_eq_getElem hi, Option.getD_some] at this
  simp [this]
theorem psN_lt {x : List Int} (hx : goodX x = true) (hl : x.length = 4) (t : Nat) (ht : t < 4) : psN x t < 40 := by
 have := (goodX_iff x).1 hx t (by omega)
 unfold psN; omega
def scC (d x : List Int) : Nat → Int
 | 0 => 0
 | t + 1 => wrap64 (scC d x t + wrap64 (sg (nth d (psN x t)) * nth d (psN x t)))
def ssN (d x : List Int) (t : Nat) : Int := sg (nth d (psN x t))
def scT (d r x : List Int) (t u : Nat) : Int := ssN d x t * ssN d x u * enN r (psN x t) (psN x u)
def scE (d r x : List Int) (t u : Nat) : Int := sumT (fun a => sumT (fun b => scT d r x a b) 4) t + sumT (fun b => scT d r x t b) u
theorem scE_step (d r x : List Int) (t u : Nat) : scE d r x t (u + 1) = scE d r x t u + scT d r x t u := by
 unfold scE
 show _ + (sumT (fun b => scT d r x t b) u + scT d r x t u) = _
 omega
theorem scE_next (d r x : List Int) (t : Nat) : scE d r x t 4 = scE d r x (t + 1) 0 := by
 unfold scE
 show _ = sumT (fun a => sumT (fun b => scT d r x a b) 4) t + sumT (fun b => scT d r x t b) 4 + 0
 omega
theorem scT_bd (d r x : List Int) (t u : Nat) : -42949672960 ≤ scT d r x t u ∧ scT d r x t u ≤ 42949672960 := by
 have := enN_bd r (psN x t) (psN x u)
 unfold scT ssN
 rcases sg_cases (nth d (psN x t)) with ⟨_, h⟩ | ⟨_, h⟩ <;> rcases sg_cases (nth d (psN x u)) with ⟨_, g⟩ | ⟨_, g⟩ <;> rw [h, g] <;> omega
theorem scE_bd (d r x : List Int) (t u : Nat) (ht : t ≤ 4) (hu : u ≤ 4) : -1000000000000 ≤ scE d r x t u ∧ scE d r x t u ≤ 1000000000000 := by
 have h1 := sumT_le (fun a => sumT (fun b => scT d r x a b) 4) 171798691840 (fun a => by
  have := sumT_le (fun b => scT d r x a b) 42949672960 (fun b => scT_bd d r x a b) 4
  omega) t
 have h2 := sumT_le (fun b => scT d r x t b) 42949672960 (fun b => scT_bd d r x t b) u
 unfold scE
 omega
def cS (d x : List Int) : Int := scC d x 4
def eS (d r x : List Int) : Int := scE d r x 4 0
def bsS (C E : List Int → Int) (ix : Nat → List Int) : Nat → List Int × Int × Int
 | 0 => (zeros 4, 0, 0)
 | m + 1 => if m = 0 ∨ btr (C (ix m)) (E (ix m)) (bsS C E ix m).2.1 (bsS C E ix m).2.2 = true then (ix m, C (ix m), E (ix m)) else bsS C E ix m
theorem bsS_yes (C E : List Int → Int) (ix : Nat → List Int) (m : Nat) (h : m = 0 ∨ btr (C (ix m)) (E (ix m)) (bsS C E ix m).2.1 (bsS C E ix m).2.2 = true) : bsS C E ix (m + 1) = (ix m, C (ix m), E (ix m)) := if_pos h
theorem bsS_no (C E : List Int → Int) (ix : Nat → List Int) (m : Nat) (h : ¬ (m = 0 ∨ btr (C (ix m)) (E (ix m)) (bsS C E ix m).2.1 (bsS C E ix m).2.2 = true)) : bsS C E ix (m + 1) = bsS C E ix m := if_neg h
theorem bsS_own (C E : List Int → Int) (ix : Nat → List Int) : ∀ m, 0 < m → ∃ j, j < m ∧ bsS C E ix m = (ix j, C (ix j), E (ix j))
 | 0, h => by omega
 | m + 1, _ => by
  by_cases h : m = 0 ∨ btr (C (ix m)) (E (ix m)) (bsS C E ix m).2.1 (bsS C E ix m).2.2 = true
  ·exact ⟨m, by omega, bsS_yes C E ix m h⟩
  ·obtain ⟨j, hj, e⟩ := bsS_own C E ix m (by omega)
   exact ⟨j, by omega, by rw [bsS_no C E ix m h, e]⟩
def fewN (C E : List Int → Int) : Nat → List Int
 | 0 => zeros 4
 | k + 1 => (bsS C E (fun p => (fewN C E k).set (k % 4) (p : Int)) 10).1
theorem goodX_set {x : List Int} (hx : goodX x = true) (t : Nat) (p : Int) (h0 : 0 ≤ p) (h1 : p ≤ 9) : goodX (x.set t p) = true := by
 rw [goodX_iff] at *
 intro i hi
 rw [List.length_set] at hi
 by_cases e : t = i
 ·subst e; rw [nth_set_eq _ _ _ hi]; exact ⟨h0, h1⟩
 ·rw [nth_set_ne _ _ _ _ e]; exact hx i hi
theorem fewN_good (C E : List Int → Int) : ∀ k, (fewN C E k).length = 4 ∧ goodX (fewN C E k) = true
 | 0 => ⟨rfl, rfl⟩
 | k + 1 => by
  have ih := fewN_good C E k
  obtain ⟨j, hj, e⟩ := bsS_own C E (fun p => (fewN C E k).set (k % 4) (p : Int)) 10 (by omega)
  show (bsS C E (fun p => (fewN C E k).set (k % 4) (p : Int)) 10).1.length = 4 ∧ goodX (bsS C E (fun p => (fewN C E k).set (k % 4) (p : Int)) 10).1 = true
  rw [e]
  exact ⟨by simpa using ih.1, goodX_set ih.2 _ _ (by omega) (by omega)⟩
def sgB (d x : List Int) (t : Nat) : Int := if nth d (psN x t) < 0 then 0 else 2 ^ t
def sgS (d x : List Int) (n : Nat) : Int := sumT (sgB d x) n
theorem sgB_bd (d x : List Int) (t : Nat) : 0 ≤ sgB d x t ∧ sgB d x t ≤ 2 ^ t := by
 have : (0 : Int) < 2 ^ t := Int.pow_pos (by omega)
 unfold sgB
 split <;> omega
theorem sgS_bd (d x : List Int) : 0 ≤ sgS d x 4 ∧ sgS d x 4 ≤ 15 := by
 have h0 := sgB_bd d x 0
 have h1 := sgB_bd d x 1
 have h2 := sgB_bd d x 2
 have h3 := sgB_bd d x 3
 show 0 ≤ 0 + sgB d x 0 + sgB d x 1 + sgB d x 2 + sgB d x 3 ∧ 0 + sgB d x 0 + sgB d x 1 + sgB d x 2 + sgB d x 3 ≤ 15
 have e : (2 : Int) ^ 0 = 1 ∧ (2 : Int) ^ 1 = 2 ∧ (2 : Int) ^ 2 = 4 ∧ (2 : Int) ^ 3 = 8 := by decide
 omega
def ok40 (d : List Int) : Bool := d.all fun x => decide (-1099511627776 ≤ x) && decide (x ≤ 1099511627776)
theorem ok40_iff (l : List Int) : ok40 l = true ↔ ∀ i, i < l.length → -1099511627776 ≤ nth l i ∧ nth l i ≤ 1099511627776 := by
 unfold ok40
 rw [List.all_eq_true]
 constructor
 ·intro h i hi
  have := h l[i] (List.getElem_mem hi)
  simp only [Bool.and_eq_true, decide_eq_true_eq] at this
  simpa [nth, List.getD, hi] using this
 ·intro h x hx
  obtain ⟨i, hi, rfl⟩ := List.getElem_of_mem hx
  have := h i hi
  simp only [nth, List.getD, List.getElem?_eq_getElem hi, Option.getD_some] at this
  simp [this]
def seE (d r : List Int) : Int := if d.length = 40 ∧ r.length = 40 then (if ok40 d = true then 0 else 2) else 1
def seX (d r : List Int) (X : List Int) : List Int := if seE d r = 0 then X else zeros 4
def seG (d r : List Int) (X : List Int) : Int := if seE d r = 0 then sgS d X 4 else 0
def fewX (d r : List Int) : List Int := fewN (cS d) (eS d r) 8
def blN (x : List Int) (s z : Int) (i : Nat) : Int := if nth x (i % 4) = ((i / 4 : Nat) : Int) then (if s / 2 ^ (i % 4) % 2 = 1 then z else -z) else 0
def blE (x : List Int) (s z : Int) : Int := if (0 ≤ s ∧ s ≤ 15) ∧ (0 ≤ z ∧ z ≤ 32767) ∧ goodX x = true then 0 else 2
def blL (x : List Int) (s z : Int) : List Int := if blE x s z = 0 then tab 40 (blN x s z) else []
def blV (s z : Int) (m : Nat) : Int := if s / 2 ^ m % 2 = 1 then z else -z
def FillB (x : List Int) (s z : Int) (m : Nat) (rs : List Int) : Prop := rs.length = 40 ∧ ∀ i, i < 40 → nth rs i = if i % 4 < m then blN x s z i else 0
theorem fillB_start (x : List Int) (s z : Int) : FillB x s z 0 (zeros 40) := ⟨zeros_len _, fun i hi => by rw [zeros_nth, if_neg (by omega)]⟩
theorem fillB_step {x : List Int} {s z : Int} {m : Nat} {rs : List Int} (hx : goodX x = true) (hl : x.length = 4) (hm : m < 4) (h : FillB x s z m rs) : FillB x s z (m + 1) (rs.set (psN x m) (blV s z m)) := by
 have hg := (goodX_iff x).1 hx m (by omega)
 have hp := psN_lt hx hl m hm
 refine ⟨by simpa using h.1, fun i hi => ?_⟩
 by_cases e : psN x m = i
 ·subst e
  rw [nth_set_eq _ _ _ (by rw [h.1]; exact hp)]
  have h4 : psN x m % 4 = m := by unfold psN; omega
  have h5 : ((psN x m / 4 : Nat) : Int) = nth x m := by unfold psN; omega
  rw [if_pos (by omega)]
  unfold blN blV
  rw [h4, h5, if_pos rfl]
 ·rw [nth_set_ne _ _ _ _ e, h.2 i hi]
  by_cases h1 : i % 4 < m
  ·rw [if_pos h1, if_pos (by omega)]
  ·rw [if_neg h1]
   by_cases h2 : i % 4 < m + 1
   ·have h3 : i % 4 = m := by omega
    rw [if_pos h2]
    unfold blN
    rw [h3, if_neg (fun e' => e (by unfold psN; omega))]
   ·rw [if_neg h2]
theorem fillB_all {x : List Int} {s z : Int} {rs : List Int} (h : FillB x s z 4 rs) : rs = tab 40 (blN x s z) :=
 tab_ext h.1 (fun i hi => by rw [h.2 i hi, if_pos (by omega)])
theorem blL_no {x : List Int} {s z : Int} (h : ¬ ((0 ≤ s ∧ s ≤ 15) ∧ (0 ≤ z ∧ z ≤ 32767) ∧ goodX x = true)) : blE x s z = 2 ∧ blL x s z = [] := by
 have e : blE x s z = 2 := if_neg h
 exact ⟨e, by unfold blL; rw [if_neg (by rw [e]; decide)]⟩
theorem blL_yes {x : List Int} {s z : Int} (h : (0 ≤ s ∧ s ≤ 15) ∧ (0 ≤ z ∧ z ≤ 32767) ∧ goodX x = true) : blE x s z = 0 ∧ blL x s z = tab 40 (blN x s z) := by
 have e : blE x s z = 0 := if_pos h
 exact ⟨e, by unfold blL; rw [if_pos e]⟩
end Go.Proofs.YtdejpongekicdaaGreatDoor

/- PlyMath -/
namespace Go.Proofs.YtdejpongekicdaaGreatDoor
open Go.RowKit
set_option linter.unusedVariables false
set_option linter.unusedSimpArgs false
def prdP (was now : List Int) (half : Nat) : List Int := if half = 0 then dirL (mixL was now 2) else dirL now
theorem mix_steady (a b : List Int) (ha : a.length = 8) (hb : b.length = 8) (sa : steadyB a = true) (sb : steadyB b = true) : steadyB (mixL a b 2) = true := by
 have ok : okM a b 2 = true := by unfold okM; rw [sa, sb]; decide
 have e : mixL a b 2 = tab 8 (mixN a b 2) := if_pos ok
 rw [steadyB_iff, mixL_len]
 intro i hi
 rw [e, tab_nth _ _ _ hi]
 have x := (steadyB_iff a).1 sa i (by omega)
 have y := (steadyB_iff b).1 sb i (by omega)
 have := tdiv4_le (nth a i * (4 - 2) + nth b i * 2) (-32767) 32767 (by omega) (by omega)
 unfold mixN
 omega
theorem mix_all (a b : List Int) (hb : b.length = 8) (sa : steadyB a = true) (sb : steadyB b = true) : mixL a b 4 = b := by
 have ok : okM a b 4 = true := by unfold okM; rw [sa, sb]; decide
 have e : mixL a b 4 = tab 8 (mixN a b 4) := if_pos ok
 rw [e]
 refine (tab_ext hb (fun i hi => ?_)).symm
 unfold mixN
 have := tdiv4_le (nth a i * (4 - 4) + nth b i * 4) (nth b i) (nth b i) (by omega) (by omega)
 omega
theorem prdP_wide (was now : List Int) (half : Nat) (hw : was.length = 8) (hn : now.length = 8) (sw : steadyB was = true) (sn : steadyB now = true) : WideP (prdP was now half) := by
 unfold prdP
 split
 ·exact dir_wide _ (mixL_len _ _ _) (mix_steady _ _ hw hn sw sn)
 ·exact dir_wide _ hn sn
theorem prdP_mix (was now : List Int) (half : Nat) (hh : half < 2) (hn : now.length = 8) (sw : steadyB was = true) (sn : steadyB now = true) : dirL (mixL was now (2 + 2 * (half : Int))) = prdP was now half := by
 obtain rfl | rfl : half = 0 ∨ half = 1 := by omega
 ·rfl
 ·unfold prdP
  rw [if_neg (by omega)]
  rw [show (2 : Int) + 2 * ((1 : Nat) : Int) = 4 from rfl, mix_all was now hn sw sn]
def vlL (p : List Int) : List Int := tab 8 (fun i => lvl (wid i) (nth p (1 + i)))
theorem vlL_len (p : List Int) : (vlL p).length = 8 := tab_len _ _
theorem mo_many (i : Nat) (h : i < 8) : moN (1 + i) = (many (wid i) : Int) - 1 := by
 have : ∀ i : Fin 8, moN (1 + i.val) = (many (wid i.val) : Int) - 1 := by decide
 exact this ⟨i, h⟩
theorem vlL_bd (p : List Int) (hp : gudP p = true) (i : Nat) (h : i < 8) : -31000 ≤ nth (vlL p) i ∧ nth (vlL p) i ≤ 31000 := by
 unfold vlL
 rw [tab_nth _ _ _ h]
 have := (gudP_iff p).1 hp (1 + i) (by omega)
 rw [mo_many i h] at this
 exact lvl_bd _ _ (wid_in i) this.1 (by omega)
theorem vlL_steady (p : List Int) (hp : gudP p = true) : steadyB (vlL p) = true := by
 rw [steadyB_iff, vlL_len]
 intro i hi
 have := vlL_bd p hp i hi
 omega
def subL (p : List Int) (k : Nat) : List Int := prt p (9 + 8 * k) 8
structure GudS (u : List Int) : Prop where
 len : u.length = 8
 lag : 0 ≤ nth u 0 ∧ nth u 0 ≤ 59
 pit : 0 ≤ nth u 1 ∧ nth u 1 ≤ 7
 idx : ∀ j, j < 4 → 0 ≤ nth u (2 + j) ∧ nth u (2 + j) ≤ 9
 sgn : 0 ≤ nth u 6 ∧ nth u 6 ≤ 15
 lev : 0 ≤ nth u 7 ∧ nth u 7 ≤ 31
theorem subL_good (p : List Int) (hp : gudP p = true) (k : Nat) (hk : k < 2) : GudS (subL p k) := by
 have h := (gudP_iff p).1 hp
 have g : ∀ i, i < 8 → 0 ≤ nth (subL p k) i ∧ nth (subL p k) i ≤ moN (9 + 8 * k + i) := fun i hi => by
  unfold subL
  rw [prt_nth _ _ _ _ hi]
  exact h (9 + 8 * k + i) (by omega)
 obtain rfl | rfl : k = 0 ∨ k = 1 := by omega
 ·refine ⟨prt_len _ _ _, g 0 (by omega), g 1 (by omega), fun j hj => ?_, g 6 (by omega), g 7 (by omega)⟩
  obtain rfl | rfl | rfl | rfl : j = 0 ∨ j = 1 ∨ j = 2 ∨ j = 3 := by omega
  ·exact g 2 (by omega)
  ·exact g 3 (by omega)
  ·exact g 4 (by omega)
  ·exact g 5 (by omega)
 ·refine ⟨prt_len _ _ _, g 0 (by omega), g 1 (by omega), fun j hj => ?_, g 6 (by omega), g 7 (by omega)⟩
  obtain rfl | rfl | rfl | rfl : j = 0 ∨ j = 1 ∨ j = 2 ∨ j = 3 := by omega
  ·exact g 2 (by omega)
  ·exact g 3 (by omega)
  ·exact g 4 (by omega)
  ·exact g 5 (by omega)
def spZ (u : List Int) : Int := glV (nth u 7)
def spG (u : List Int) : Int := gaV (nth u 1)
def spB (u : List Int) : List Int := blL (prt u 2 4) (nth u 6) (spZ u)
def spX (l u : List Int) : List Int := mxL (prt l 16 80) (20 + nth u 0) (spG u) (spB u)
def spM (l u : List Int) : List Int := (((ovr l 16 (kpL (prt l 16 80) (spX l u))).set 98 (20 + nth u 0)).set 97 (spG u)).set 96 (spZ u)
theorem spM_len (l u : List Int) : (spM l u).length = l.length := by unfold spM; rw [List.length_set, List.length_set, List.length_set, ovr_len]
theorem spZ_bd {u : List Int} (h : GudS u) : 0 ≤ spZ u ∧ spZ u ≤ 25267 := by
 have e : spZ u = gszN (nth u 7).toNat := if_pos h.lev
 rw [e]; exact gszN_bd _
theorem spG_bd {u : List Int} (h : GudS u) : 0 ≤ spG u ∧ spG u ≤ 18022 := by
 have e : spG u = gainN (nth u 1).toNat := if_pos h.pit
 rw [e]; exact gainN_bd _
theorem sp_idx {u : List Int} (h : GudS u) : goodX (prt u 2 4) = true := by
 unfold goodX
 rw [all_iff, prt_len]
 intro i hi
 rw [prt_nth _ _ _ _ hi]
 have := h.idx i hi
 simp [this.1, this.2]
theorem spB_yes {u : List Int} (h : GudS u) : blE (prt u 2 4) (nth u 6) (spZ u) = 0 ∧ spB u = tab 40 (blN (prt u 2 4) (nth u 6) (spZ u)) :=
 blL_yes ⟨h.sgn, ⟨(spZ_bd h).1, by have := (spZ_bd h).2; omega⟩, sp_idx h⟩
theorem spB_len {u : List Int} (h : GudS u) : (spB u).length = 40 := by rw [(spB_yes h).2, tab_len]
theorem sp_mix {u : List Int} (h : GudS u) : mxO (20 + nth u 0) (spG u) (spB u) :=
 ⟨spB_len h, by have := h.lag; omega, (spG_bd h).1, by have := (spG_bd h).2; omega⟩
theorem spX_yes {u : List Int} (h : GudS u) (l : List Int) : spX l u = mxA (pasL (prt l 16 80) (20 + nth u 0)) (spG u) (spB u) ∧ mxE (20 + nth u 0) (spG u) (spB u) = 0 := mxL_yes (sp_mix h)
theorem spX_len {u : List Int} (h : GudS u) (l : List Int) : (spX l u).length = 40 := by rw [(spX_yes h l).1, mxA_len]
theorem spX_right {u : List Int} (h : GudS u) (l : List Int) : rightB (spX l u) = true := by rw [(spX_yes h l).1]; exact mxA_right _ _ _
theorem spM_good {l u : List Int} (hl : l.length = 101) (hg : goodM l = true) (h : GudS u) : goodM (spM l u) = true := by
 have g := (goodM_iff l).1 hg
 have kx : kpL (prt l 16 80) (spX l u) = kpA (prt l 16 80) (spX l u) := (kpL_yes (spX_len h l)).1
 rw [goodM_iff]
 intro i hi
 unfold spM
 rw [kx]
 have z := spZ_bd h
 have p := spG_bd h
 have a := h.lag
 rw [setN _ _ _ (by rw [List.length_set, List.length_set, ovr_len]; omega), setN _ _ _ (by rw [List.length_set, ovr_len]; omega), setN _ _ _ (by rw [ovr_len]; omega)]
 by_cases e1 : i = 96
 ·rw [if_pos e1, e1]; exact ⟨z.1, by show spZ u ≤ 32767; omega⟩
 ·rw [if_neg e1]
  by_cases e2 : i = 97
  ·rw [if_pos e2, e2]; exact p
  ·rw [if_neg e2]
   by_cases e3 : i = 98
   ·rw [if_pos e3, e3]; exact ⟨by show (20 : Int) ≤ _; omega, by show _ ≤ (79 : Int); omega⟩
   ·rw [if_neg e3, ovr_nth _ _ _ _ (by omega), kpA_len]
    by_cases e4 : 16 ≤ i ∧ i < 16 + 80
    ·rw [if_pos e4, (smp_at i (by omega) (by omega)).1, (smp_at i (by omega) (by omega)).2]
     refine kep_right _ _ (fun j hj => ?_) _ (by omega)
     rw [prt_nth _ _ _ _ hj]
     have := g (16 + j) (by omega)
     rw [(smp_at (16 + j) (by omega) (by omega)).1, (smp_at (16 + j) (by omega) (by omega)).2] at this
     exact this
    ·rw [if_neg e4]; exact g i hi
def plP (sil : Bool) (l u : List Int) : List Int := if sil = true then siM l else spM l u
def plX (sil : Bool) (l u : List Int) : List Int := if sil = true then siL l else spX l u
def plM (sil : Bool) (now l p : List Int) : Nat → List Int
 | 0 => l
 | n + 1 => souM (prdP (prt (plP sil (plM sil now l p n) (subL p n)) 0 8) now n) (plP sil (plM sil now l p n) (subL p n)) (plX sil (plM sil now l p n) (subL p n))
def plO (sil : Bool) (now l p : List Int) : Nat → List Int
 | 0 => []
 | n + 1 => plO sil now l p n ++ souL (prdP (prt (plP sil (plM sil now l p n) (subL p n)) 0 8) now n) (plP sil (plM sil now l p n) (subL p n)) (plX sil (plM sil now l p n) (subL p n))
theorem plP_len (sil : Bool) {l : List Int} (hl : l.length = 101) (u : List Int) : (plP sil l u).length = 101 := by
 unfold plP
 split
 ·unfold siM; split
  ·rw [memT_len, hl]
  ·exact zeros_len _
 ·rw [spM_len, hl]
theorem plP_good (sil : Bool) {l u : List Int} (hl : l.length = 101) (hg : goodM l = true) (h : GudS u) : goodM (plP sil l u) = true := by
 unfold plP
 split
 ·exact siM_good l hl hg
 ·exact spM_good hl hg h
theorem plX_right (sil : Bool) {l u : List Int} (hg : goodM l = true) (h : GudS u) : (plX sil l u).length = 40 ∧ rightB (plX sil l u) = true := by
 unfold plX
 split
 ·exact ⟨by rw [(si_yes (s := true) hg).2.2.1, siX_len], siL_right _⟩
 ·exact ⟨spX_len h l, spX_right h l⟩
theorem plM_len (sil : Bool) (now p : List Int) {l : List Int} (hl : l.length = 101) : ∀ n, (plM sil now l p n).length = 101
 | 0 => hl
 | n + 1 => by
  show (souM _ (plP sil (plM sil now l p n) (subL p n)) _).length = 101
  rw [souM_len, plP_len sil (plM_len sil now p hl n)]
theorem plM_good (sil : Bool) {now p l : List Int} (hl : l.length = 101) (hg : goodM l = true) (hn : now.length = 8) (sn : steadyB now = true) (hp : gudP p = true) : ∀ n, n ≤ 2 → goodM (plM sil now l p n) = true
 | 0, _ => hg
 | n + 1, h => by
  have g := plM_good sil hl hg hn sn hp n (by omega)
  have len := plM_len sil now p hl n
  have u := subL_good p hp n (by omega)
  have gp := plP_good sil len g u
  exact souM_good (plP_len sil len _) (prdP_wide _ _ _ (prt_len _ _ _) hn (reflM_steady gp) sn) gp (plX_right sil g u).2
theorem plO_right (sil : Bool) {now p l : List Int} (hl : l.length = 101) (hg : goodM l = true) (hn : now.length = 8) (sn : steadyB now = true) (hp : gudP p = true) : ∀ n, n ≤ 2 → (plO sil now l p n).length = 40 * n ∧ rightB (plO sil now l p n) = true
 | 0, _ => ⟨rfl, rfl⟩
 | n + 1, h => by
  obtain ⟨a, b⟩ := plO_right sil hl hg hn sn hp n (by omega)
  have g := plM_good sil hl hg hn sn hp n (by omega)
  have len := plM_len sil now p hl n
  have u := subL_good p hp n (by omega)
  have gp := plP_good sil len g u
  have x := plX_right sil g u
  have wd := prdP_wide (prt (plP sil (plM sil now l p n) (subL p n)) 0 8) now n (prt_len _ _ _) hn (reflM_steady gp) sn
  constructor
  ·show (plO sil now l p n ++ souL _ _ _).length = _
   rw [List.length_append, a, souL_len wd gp x.2, x.1]; omega
  ·show rightB (plO sil now l p n ++ souL _ _ _) = true
   have c := souL_right wd gp x.2
   unfold rightB at *
   rw [List.all_append, b, c]; rfl
def plF (l p : List Int) : List Int := if nth p 0 = 1 then freL else l
def plyS (p : List Int) : Bool := decide (nth p 0 = 2)
def plyM (l p : List Int) : List Int := (ovr (plM (plyS p) (vlL p) (plF l p) p 2) 0 (vlL p)).set 99 0
def plyL (l p : List Int) : List Int := plO (plyS p) (vlL p) (plF l p) p 2
theorem plF_good {l p : List Int} (hl : l.length = 101) (hg : goodM l = true) : (plF l p).length = 101 ∧ goodM (plF l p) = true := by
 unfold plF
 split
 ·exact ⟨freL_len, freL_good⟩
 ·exact ⟨hl, hg⟩
theorem plyM_len {l : List Int} (p : List Int) (hl : l.length = 101) : (plyM l p).length = 101 := by
 unfold plyM
 rw [List.length_set, ovr_len, plM_len]
 unfold plF
 split
 ·exact freL_len
 ·exact hl
theorem plyM_good {l p : List Int} (hl : l.length = 101) (hg : goodM l = true) (hp : gudP p = true) : goodM (plyM l p) = true := by
 obtain ⟨fl, fg⟩ := plF_good (p := p) hl hg
 have g := (goodM_iff _).1 (plM_good (plyS p) fl fg (vlL_len p) (vlL_steady p hp) hp 2 (by omega))
 have ln := plM_len (plyS p) (vlL p) p fl 2
 rw [goodM_iff]
 intro i hi
 unfold plyM
 rw [setN _ _ _ (by rw [ovr_len]; omega)]
 by_cases e : i = 99
 ·rw [if_pos e, e]; exact ⟨by decide, by decide⟩
 ·rw [if_neg e, ovr_nth _ _ _ _ (by omega), vlL_len]
  by_cases e2 : 0 ≤ i ∧ i < 0 + 8
  ·rw [if_pos e2, (rfl_at i (by omega)).1, (rfl_at i (by omega)).2]
   exact vlL_bd p hp (i - 0) (by omega)
  ·rw [if_neg e2]; exact g i hi
theorem plyL_right {l p : List Int} (hl : l.length = 101) (hg : goodM l = true) (hp : gudP p = true) : (plyL l p).length = 80 ∧ rightB (plyL l p) = true := by
 obtain ⟨fl, fg⟩ := plF_good (p := p) hl hg
 exact plO_right (plyS p) fl fg (vlL_len p) (vlL_steady p hp) hp 2 (by omega)
def decM (l b : List Int) : List Int := if goodM l = true ∧ unE b = 0 then plyM l (unpL b) else zeros 101
def decS (l b : List Int) : Bool := if goodM l = true ∧ unE b = 0 then plyS (unpL b) else false
def decL (l b : List Int) : List Int := if goodM l = true ∧ unE b = 0 then plyL l (unpL b) else []
def decE (l b : List Int) : Int := if goodM l = true then unE b else 2
theorem unpL_good (b : List Int) (h : unE b = 0) : gudP (unpL b) = true := by
 have e : unpL b = unF (xB b 14) := if_pos h
 rw [e]; exact (unE_zero b h).2.2.2.1
theorem dec_yes {l b : List Int} (k : goodM l = true) (h : unE b = 0) : decM l b = plyM l (unpL b) ∧ decS l b = plyS (unpL b) ∧ decL l b = plyL l (unpL b) ∧ decE l b = 0 := ⟨if_pos ⟨k, h⟩, if_pos ⟨k, h⟩, if_pos ⟨k, h⟩, by unfold decE; rw [if_pos k, h]⟩
theorem dec_no {l b : List Int} (k : goodM l = true) (h : unE b ≠ 0) : decM l b = zeros 101 ∧ decS l b = false ∧ decL l b = [] ∧ decE l b = unE b := ⟨if_neg (fun q => h q.2), if_neg (fun q => h q.2), if_neg (fun q => h q.2), if_pos k⟩
theorem dec_bad {l b : List Int} (k : goodM l = false) : decM l b = zeros 101 ∧ decS l b = false ∧ decL l b = [] ∧ decE l b = 2 := by
 have n : ¬ goodM l = true := by rw [k]; decide
 exact ⟨if_neg (fun q => n q.1), if_neg (fun q => n q.1), if_neg (fun q => n q.1), if_neg n⟩
theorem decM_len {l : List Int} (b : List Int) (hl : l.length = 101) : (decM l b).length = 101 := by
 unfold decM
 split
 ·exact plyM_len _ hl
 ·exact zeros_len _
end Go.Proofs.YtdejpongekicdaaGreatDoor

/- PikMath -/
namespace Go.Proofs.YtdejpongekicdaaGreatDoor
open Go.RowKit
set_option linter.unusedVariables false
set_option linter.unusedSimpArgs false
set_option maxHeartbeats 1000000
def goodB (f : List Int) : Bool := decide (f.length = 40) && rightB f
def pkC (t : List Int) (F : List Int → List Int) (h : List Int) (k : Nat) : Int := if rightB t && goodB (F (pasV h k)) then dotS t (F (pasV h k)) 40 else 0
def pkE (F : List Int → List Int) (h : List Int) (k : Nat) : Int := if goodB (F (pasV h k)) then dotS (F (pasV h k)) (F (pasV h k)) 40 else 0
def allGood (F : List Int → List Int) (h : List Int) : Bool := (List.range 60).all fun j => goodB (F (pasV h (20 + j)))
def pickV (p : Nat × Int × Int) : Value := .tuple #[.int .i64 (p.1 : Int), .int .i64 p.2.1, .int .i64 p.2.2, .int .i64 0]
def pickT (h t : List Int) (F : List Int → List Int) : Value :=
 if t.length = 40 then (if (rightB t && rightB h) = true then (if allGood F h = true then pickV (pkN (pkC t F h) (pkE F h) 60) else .tuple #[.int .i64 0, .int .i64 0, .int .i64 0, .int .i64 1]) else .tuple #[.int .i64 0, .int .i64 0, .int .i64 0, .int .i64 2])
 else .tuple #[.int .i64 0, .int .i64 0, .int .i64 0, .int .i64 1]
theorem good_right {f : List Int} (h : goodB f = true) : f.length = 40 ∧ rightB f = true := by unfold goodB at h; simpa using h
theorem pkC_le (t : List Int) (F : List Int → List Int) (h : List Int) (k : Nat) : pkC t F h k ≤ 42949672960 := by
 unfold pkC
 split
 ·rename_i c
  simp only [Bool.and_eq_true] at c
  have := dotS_bd t (F (pasV h k)) c.1 (good_right c.2).2 40
  omega
 ·omega
theorem pkE_le (F : List Int → List Int) (h : List Int) (k : Nat) : pkE F h k ≤ 42949672960 := by
 unfold pkE
 split
 ·rename_i c
  have := dotS_bd (F (pasV h k)) (F (pasV h k)) (good_right c).2 (good_right c).2 40
  omega
 ·omega
theorem allGood_yes (F : List Int → List Int) (h : List Int) (hg : ∀ j, j < 60 → goodB (F (pasV h (20 + j))) = true) : allGood F h = true := by
 unfold allGood
 rw [List.all_eq_true]
 exact fun j hj => hg j (List.mem_range.1 hj)
def Folds (w : World) (n : Nat) (caps : Array Value) (F : List Int → List Int) : Prop :=
 ∀ wr v l, w.grownBy wr none → Ints wr v l → Shp v l → l.length = 40 → rightB l = true →
  Calls Tryz.prog n (#[v] ++ caps) wr fun e w' => ∃ v', e = .returned v' ∧ Ints w' v' (F l) ∧ (F l).length ≤ 1000000000000000000 ∧ wr.grownBy w' none
theorem func_nil (fn : Fn) (first caps : Array Value) (u : World) : Sem.run Tryz.prog (binOp BinOp.eql 63 (.func fn first caps) .nilFunc) u = .ok (.bool false) u := by kernel_rfl
theorem results_tmp4 {fn : Func} {t u v x : Tmp} (h : fn.results = #[.tmp t, .tmp u, .tmp v, .tmp x]) (tmps : Array Value) (P : Program) (w : World) :
  (results fn tmps).run P w = .ok (.tuple #[tmps.getD t undef, tmps.getD u undef, tmps.getD v undef, tmps.getD x undef]) w := by
 simp [results, h]
end Go.Proofs.YtdejpongekicdaaGreatDoor
