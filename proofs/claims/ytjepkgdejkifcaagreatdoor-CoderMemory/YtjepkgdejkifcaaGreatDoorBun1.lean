/- Texts put together: Grow, BigMath, Math, Ints, Arrs, LpcMath, LpcS, LevMath, VBlk, DualMath, PowMath, GainMath, SynthMath, Btr, PitchMath, MemMath, EraMath, Owns, RegA, EndMath, SynW, ConX, ConW, MemS, CodW, LpcA, Base, SynA, SynB, Order, SynC, QuantMath, PulMath. -/
import Derived.Test.YtjepkgdejkifcaaGreatDoorProg
import Derived.WalkKit
import Derived.WalkSpells
import Derived.WalkLawsBesides
import Derived.RowKit3
import Derived.Laws.OwnMore
import Derived.Deep.MidRow
import Derived.Laws.AppendOwnNone
import Derived.OrdersHeld
import Derived.RegionTactic
import Derived.Deep.RegionHeld
import Derived.Deep.CutRange
import Derived.Laws.CopyOwn
import Derived.BigQuiet
import Derived.Deep.QuietTactic
import Derived.StillTail
/- Grow -/
namespace Go.Proofs.YtjepkgdejkifcaaGreatDoor
open Go.RowKit
set_option linter.unusedVariables false
theorem hide {p : Prop} (h : p) : Hid p := h
theorem lt_of_some {w : World} {b : Nat} {o : Obj} (h : w.heap[b]? = some o) : b < w.heap.size := by
  by_cases hb : b < w.heap.size
  · exact hb
  · rw [Array.getElem?_eq_none (by omega)] at h; cases h
theorem cell_of_heap {w : World} {b : Nat} {cs : Array Value} {t : TypeId} {f : Nat × Nat} (h : w.heap[b]? = some (.cells cs t f)) (i : Nat) : w.cell? ⟨b, i, none⟩ = cs[i]? := by
  simp [World.cell?, h]
theorem frozen_of_heap {w : World} {b : Nat} {cs : Array Value} {t : TypeId} (h : w.heap[b]? = some (.cells cs t (0, 0))) (i : Nat) : w.frozen? ⟨b, i, none⟩ = false := by
  simp [World.frozen?, h]
theorem grown_refl (w : World) (r : Option Nat) : w.grownBy w r := ⟨rfl, rfl, rfl, Nat.le_refl _, fun _ _ _ => rfl⟩
theorem grown_alloc (w : World) (o : Obj) (r : Option Nat) : w.grownBy (w.alloc o) r := ⟨rfl, rfl, rfl, by simp, fun k hk _ => Below.heap_alloc _ _ _ hk⟩
theorem grown_trans {a b c : World} {r s : Option Nat} (h : a.grownBy b r) (k : b.grownBy c s) (t : Option Nat) (hr : ∀ i, r = some i → i < a.heap.size → t = some i) (hs : ∀ i, s = some i → i < a.heap.size → t = some i) : a.grownBy c t :=
  ⟨k.os.trans h.os, k.tape.trans h.tape, k.output.trans h.output, Nat.le_trans h.size k.size, fun i hi ht => by
    rw [k.block i (Nat.lt_of_lt_of_le hi h.size) (fun e => ht ((hs i e.symm hi).symm)), h.block i hi (fun e => ht ((hr i e.symm hi).symm))]⟩
theorem grown_none {a b c : World} (h : a.grownBy b none) (k : b.grownBy c none) : a.grownBy c none := grown_trans h k none (fun i e => by cases e) (fun i e => by cases e)
theorem grown_setCell (w : World) (a : Addr) (v : Value) : w.grownBy (w.setCell a v) (some a.block) := ⟨rfl, rfl, rfl, by simp [World.setCell], fun k _ h => Below.heap_setCell _ _ _ _ (fun e => h (by rw [e]))⟩
theorem grown_drew {a b : World} {r : Option Nat} (h : a.grownBy b r) : a.grownBy b.drew r := ⟨h.os, h.tape, h.output, h.size, h.block⟩
theorem heap_new (w : World) (o : Obj) : (w.alloc o).heap[w.heap.size]? = some o := by
  show (w.heap.push o)[w.heap.size]? = _
  simp
theorem grown_own {a b c : World} {i : Nat} (h : a.grownBy b none) (k : b.grownBy c (some i)) (hi : a.heap.size ≤ i) : a.grownBy c none :=
  grown_trans h k none (fun i e _ => by cases e) (fun j e hj => by cases e; omega)
theorem below_of_grown {w w' : World} (h : w.grownBy w' none) : Below w.heap.size w w' := ⟨h.os, h.tape, h.output, h.size, fun k hk => h.block k hk (by simp)⟩
theorem kept_heap {w w' : World} {o : Obj} (h : (w.alloc o).grownBy w' none) : w'.heap[w.heap.size]? = some o := by rw [h.block _ (lt_of_some (heap_new w _)) (by simp)]; exact heap_new w _
theorem grown_drewN' (w : World) (n : Nat) (r : Option Nat) : w.grownBy (w.drewN n) r := ⟨rfl, rfl, rfl, Nat.le_refl _, fun _ _ _ => rfl⟩
theorem grown_keep {w w' : World} (h : w.grownBy w' none) {a : Addr} {v : Value} (hc : w.cell? a = some v) : w'.cell? a = some v := by
  have hb : a.block < w.heap.size := by
    rcases Nat.lt_or_ge a.block w.heap.size with g | g
    · exact g
    · unfold World.cell? at hc
      rw [Array.getElem?_eq_none g] at hc
      simp at hc
  rw [World.cell?_of_block (w := w) (h.block a.block hb (by simp))]; exact hc
theorem sL {α : Type} : (∀ (l : List α) (i : Nat) (a : α), l.toArray.setIfInBounds i a = (l.set i a).toArray) ∧ (∀ (a b : α) (l : List α), (a :: l).set 0 b = b :: l) ∧ (∀ (a b : α) (l : List α) (n : Nat), (a :: l).set (n + 1) b = a :: l.set n b) ∧ (∀ (xs : List α) (i : Nat) (h : i < xs.toArray.size), xs.toArray[i] = xs[i]'(by simpa using h)) ∧ (∀ (a : α) (l : List α) (h : 0 < (a :: l).length), (a :: l)[0] = a) ∧ (∀ (a : α) (l : List α) (i : Nat) (h : i + 1 < (a :: l).length), (a :: l)[i + 1] = l[i]'(by simpa using h)) :=
  ⟨fun _ _ _ => List.setIfInBounds_toArray .., fun _ _ _ => List.set_cons_zero .., fun _ _ _ _ => List.set_cons_succ .., fun _ _ _ => List.getElem_toArray .., fun _ _ _ => List.getElem_cons_zero .., fun _ _ _ _ => List.getElem_cons_succ ..⟩
end Go.Proofs.YtjepkgdejkifcaaGreatDoor

/- BigMath -/
namespace Go.Proofs.YtjepkgdejkifcaaGreatDoor
def nth (l : List Int) (i : Nat) : Int := l.getD i 0
def P (k : Nat) : Int := 4294967296 ^ k
def valTo (l : List Int) : Nat → Int
  | 0 => 0
  | k + 1 => valTo l k + nth l k * P k
def val (l : List Int) : Int := valTo l l.length
theorem getD_out (l : List Int) (k : Nat) (h : l.length ≤ k) : nth l k = 0 := by simp [nth, List.getD, List.getElem?_eq_none h]
def Bits (z : Int) (n : Nat) : Prop := z < 2 ^ n ∧ (z = 0 → n = 0) ∧ (0 < z → 1 ≤ n ∧ 2 ^ (n - 1) ≤ z)
end Go.Proofs.YtjepkgdejkifcaaGreatDoor

/- Math -/
namespace Go.Proofs.YtjepkgdejkifcaaGreatDoor
open Go.RowKit
def c16 (x : Int) : Int := if x < -32768 then -32768 else if 32767 < x then 32767 else x
def o16 (x : Int) : Bool := c16 x != x
def spotN (v n : Int) : Int := v % n
theorem c16_bd (x : Int) : -32768 ≤ c16 x ∧ c16 x ≤ 32767 := by unfold c16; split <;> (try split) <;> omega
theorem c16_id (x : Int) (h : -32768 ≤ x) (h' : x ≤ 32767) : c16 x = x := by unfold c16; split <;> (try split) <;> omega
theorem stop16 (x : Int) : (if 32767 < (if x < -32768 then -32768 else x) then 32767 else (if x < -32768 then -32768 else x)) = c16 x := by
  unfold c16; split <;> split <;> (try split) <;> omega
theorem mul16_bd (a b : Int) (h1 : -32768 ≤ a) (h2 : a ≤ 32767) (h3 : -32768 ≤ b) (h4 : b ≤ 32767) : -1073709056 ≤ a * b ∧ a * b ≤ 1073741824 := by
  have e1 : 0 ≤ (32767 - a) * (b + 32768) := Int.mul_nonneg (by omega) (by omega)
  have e2 : 0 ≤ (a + 32768) * (32767 - b) := Int.mul_nonneg (by omega) (by omega)
  have e3 : 0 ≤ (a + 32768) * (b + 32768) := Int.mul_nonneg (by omega) (by omega)
  have e4 : 0 ≤ (32767 - a) * (32767 - b) := Int.mul_nonneg (by omega) (by omega)
  simp only [Int.sub_mul, Int.add_mul, Int.mul_add, Int.mul_sub] at e1 e2 e3 e4
  omega
end Go.Proofs.YtjepkgdejkifcaaGreatDoor

/- Ints -/
namespace Go.Proofs.YtjepkgdejkifcaaGreatDoor
open Go.RowKit
set_option linter.unusedVariables false
set_option linter.unusedSimpArgs false
set_option maxHeartbeats 1000000
def Ints (w : World) (v : Value) (l : List Int) : Prop :=
  ∃ (ad : Option Addr) (c : Nat), v = .slice ad l.length c ∧ l.length ≤ c ∧ (0 < l.length → ∃ a, ad = some a ∧ ∀ i, i < l.length → w.cell? (a.add i) = some (.int .i64 (nth l i)))
def rightB (l : List Int) : Bool := l.all fun x => decide (-32768 ≤ x) && decide (x ≤ 32767)
theorem rightB_iff (l : List Int) : rightB l = true ↔ ∀ i, i < l.length → -32768 ≤ nth l i ∧ nth l i ≤ 32767 := by
  unfold rightB
  rw [List.all_eq_true]
  constructor
  · intro h i hi
    have := h l[i] (List.getElem_mem hi)
    simp only [Bool.and_eq_true, decide_eq_true_eq] at this
    simpa [nth, List.getD, hi] using this
  · intro h x hx
    obtain ⟨i, hi, rfl⟩ := List.getElem_of_mem hx
    have := h i hi
    simp only [nth, List.getD, List.getElem?_eq_getElem hi, Option.getD_some] at this
    simp [this]
def arrI (l : List Int) : Array Value := (l.map (Value.int .i64)).toArray
theorem arrI_get (l : List Int) (i : Nat) (h : i < l.length) : (arrI l)[i]? = some (.int .i64 (nth l i)) := by
  simp [arrI, nth, List.getD, h]
theorem arrI_set (l : List Int) (k : Nat) (v : Int) : (arrI l).setIfInBounds k (.int .i64 v) = arrI (l.set k v) := by
  simp [arrI, List.map_set]
theorem infoI64 : (Tryz.prog.info? 3).map (fun i => (i.zero, i.size, i.bytes)) = some (some (.int .i64 0), 1, 8) := by kernel_rfl
theorem made_arrI (n : Nat) : madeCells #[.int .i64 0] n = arrI (List.replicate n 0) := by
  unfold arrI madeCells
  apply Array.ext
  · simp
  · intro i h1 h2
    simp [Nat.mod_one]
theorem make_int (z : Int) (h0 : 0 ≤ z) (h1 : z ≤ 35184372088832) (u : World) :
    (Instr.makeSlice 27 (.int .i64 z) (.int .i64 z)).run Tryz.prog u = .ok (.slice (some ⟨u.heap.size, 0, none⟩) z.toNat z.toNat) (u.alloc (.cells (arrI (List.replicate z.toNat 0)) 3)) := by
  obtain ⟨i0, hi, hz0, hz1, hz2⟩ := info_parts infoI64
  have h := run_make (P := Tryz.prog) u 27 3 i0 (.int .i64 0) Tryz.underlying27 hi hz0 .i64 .i64 z z h0 (Int.le_refl _) (by rw [hz2]; omega) (by omega)
  rw [← made_arrI]
  simpa [hz1, Value.cells] using h
theorem Ints_keep {w w' : World} {v : Value} {l : List Int} (h : Ints w v l) (g : w.grownBy w' none) : Ints w' v l := by
  obtain ⟨ad, c, rfl, hc, hcell⟩ := h
  refine ⟨ad, c, rfl, hc, fun h => ?_⟩
  obtain ⟨a, rfl, hv⟩ := hcell h
  exact ⟨a, rfl, fun i hi => grown_keep g (hv i hi)⟩
theorem Ints_of_owns {w : World} {base : Nat} {v : Value} {l : List Int} (h : w.ownsRow base 3 1 v l.length (l.map (Value.int .i64))) : Ints w v l := by
  obtain ⟨h1, h2⟩ := h
  rcases h2 with ⟨h2, h3⟩ | ⟨g, cap, cur, h2, _, h4, h5, _, h7, h8⟩
  · exact ⟨none, 0, by rw [h2, h3], by omega, fun h => by omega⟩
  · refine ⟨some ⟨g, 0, none⟩, cap, h2, h5, fun _ => ⟨_, rfl, fun i hi => ?_⟩⟩
    have e : (cur.toList.take (l.length * 1))[i]? = (l.map (Value.int .i64))[i]? := by rw [h8]
    rw [List.getElem?_take, if_pos (by omega), Array.getElem?_toList] at e
    have ea : (⟨g, 0, none⟩ : Addr).add i = ⟨g, i, none⟩ := by unfold Addr.add; split <;> simp_all
    rw [ea, cell_of_heap h4, e]
    simp [nth, List.getD, hi]
theorem heap_setCell {w : World} {b k : Nat} {cs : Array Value} {t : TypeId} (h : w.heap[b]? = some (.cells cs t (0, 0))) (v : Value) :
    (w.setCell ⟨b, k, none⟩ v).heap[b]? = some (.cells (cs.setIfInBounds k v) t (0, 0)) := by
  simp only [World.setCell, Array.getElem?_modify, h]
  simp
theorem ints_pair {w : World} {b : Nat} {cs : Array Value} {t : TypeId} (h : w.heap[b]? = some (.cells cs t (0, 0))) (o : Nat) (p q : Int) (h1 : cs[o]? = some (.int .i64 p)) (h2 : cs[o + 1]? = some (.int .i64 q)) : Ints w (.slice (some ⟨b, o, none⟩) 2 2) [p, q] := by
  refine ⟨some ⟨b, o, none⟩, 2, rfl, Nat.le_refl _, fun _ => ⟨_, rfl, fun i hi => ?_⟩⟩
  have ea : (⟨b, o, none⟩ : Addr).add i = ⟨b, o + i, none⟩ := by unfold Addr.add; split <;> simp_all
  rw [ea, cell_of_heap h]
  match i, hi with
  | 0, _ => exact h1
  | 1, _ => exact h2
def hiS (x0 x1 x2 y1 y2 : Int) : Int := c16 ((3798 * (x0 - 2 * x1 + x2) + 7807 * y1 - 3733 * y2 + 2048) / 4096)
def hiY (xs : List Int) (ys0 : List Int) : Nat → List Int
  | 0 => ys0
  | i + 1 => hiY xs ys0 i ++ [hiS (nth xs (i + 2)) (nth xs (i + 1)) (nth xs i) (nth (hiY xs ys0 i) (i + 1)) (nth (hiY xs ys0 i) i)]
theorem hiY_len (xs : List Int) (y0 y1 : Int) : ∀ k, (hiY xs [y1, y0] k).length = k + 2
  | 0 => rfl
  | k + 1 => by
    show (hiY xs [y1, y0] k ++ [_]).length = _
    rw [List.length_append, hiY_len xs y0 y1 k]; rfl
theorem xs_right (x0 x1 : Int) (l : List Int) (hx : rightB [x0, x1] = true) (hr : rightB l = true) (j : Nat) : -32768 ≤ nth ([x1, x0] ++ l) j ∧ nth ([x1, x0] ++ l) j ≤ 32767 := by
  have h0 := (rightB_iff _).1 hx 0 (by simp)
  have h1 := (rightB_iff _).1 hx 1 (by simp)
  match j with
  | 0 => exact h1
  | 1 => exact h0
  | j + 2 =>
    show -32768 ≤ nth l j ∧ nth l j ≤ 32767
    by_cases hj : j < l.length
    · exact (rightB_iff _).1 hr j hj
    · rw [getD_out l j (by omega)]; omega
theorem hi_right (xs : List Int) (y0 y1 : Int) (hy : rightB [y0, y1] = true) : ∀ k j, -32768 ≤ nth (hiY xs [y1, y0] k) j ∧ nth (hiY xs [y1, y0] k) j ≤ 32767
  | 0, j => by
    have h0 := (rightB_iff _).1 hy 0 (by simp)
    have h1 := (rightB_iff _).1 hy 1 (by simp)
    match j with
    | 0 => exact h1
    | 1 => exact h0
    | j + 2 => show -32768 ≤ nth [] j ∧ nth [] j ≤ 32767; rw [getD_out [] j (by simp)]; omega
  | k + 1, j => by
    have ih := hi_right xs y0 y1 hy k
    have hlen := hiY_len xs y0 y1 k
    show -32768 ≤ nth (hiY xs [y1, y0] k ++ [_]) j ∧ nth (hiY xs [y1, y0] k ++ [_]) j ≤ 32767
    generalize hv : hiS (nth xs (k + 2)) (nth xs (k + 1)) (nth xs k) (nth (hiY xs [y1, y0] k) (k + 1)) (nth (hiY xs [y1, y0] k) k) = v
    have hvb : -32768 ≤ v ∧ v ≤ 32767 := by rw [← hv]; exact c16_bd _
    generalize hiY xs [y1, y0] k = L at *
    rcases Nat.lt_trichotomy j L.length with h | h | h
    · have : nth (L ++ [v]) j = nth L j := by simp [nth, List.getD, List.getElem?_append, h]
      rw [this]; exact ih j
    · have : nth (L ++ [v]) j = v := by subst h; simp [nth, List.getD]
      rw [this]; exact hvb
    · rw [getD_out _ j (by simp; omega)]; omega
theorem wrapI (n : Int) (h0 : -9223372036854775808 ≤ n) (h1 : n ≤ 9223372036854775807) : IntKind.i64.wrap n = n := by
  show (if (true && decide (n % 18446744073709551616 ≥ 9223372036854775808)) = true then n % 18446744073709551616 - 18446744073709551616 else n % 18446744073709551616) = n
  split
  · rename_i hh
    simp at hh
    omega
  · rename_i hh
    simp at hh
    omega
def In64 (l : List Int) : Prop := ∀ i, -9223372036854775808 ≤ nth l i ∧ nth l i ≤ 9223372036854775807
end Go.Proofs.YtjepkgdejkifcaaGreatDoor

/- Arrs -/
namespace Go.Proofs.YtjepkgdejkifcaaGreatDoor
open Go.RowKit
set_option linter.unusedVariables false
set_option linter.unusedSimpArgs false
def Blk (w : World) (b : Nat) (T : TypeId) (rs : List Int) : Prop := w.heap[b]? = some (.cells (arrI rs) T (0, 0))
theorem Blk.cell {w : World} {b : Nat} {T : TypeId} {rs : List Int} (h : Blk w b T rs) (i : Nat) (hi : i < rs.length) : w.cell? ⟨b, i, none⟩ = some (.int .i64 (nth rs i)) := (cell_of_heap h i).trans (arrI_get rs i hi)
theorem Blk.free {w : World} {b : Nat} {T : TypeId} {rs : List Int} (h : Blk w b T rs) (i : Nat) : w.frozen? ⟨b, i, none⟩ = false := frozen_of_heap h i
theorem Blk.lt {w : World} {b : Nat} {T : TypeId} {rs : List Int} (h : Blk w b T rs) : b < w.heap.size := lt_of_some h
theorem Blk.keep {w w' : World} {b : Nat} {T : TypeId} {rs : List Int} (h : Blk w b T rs) (g : w.grownBy w' none) : Blk w' b T rs := (g.block _ (lt_of_some h) (by simp)).trans h
theorem Blk.keepBut {w w' : World} {b : Nat} {T : TypeId} {rs : List Int} {r : Nat} (h : Blk w b T rs) (g : w.grownBy w' (some r)) (hr : b ≠ r) : Blk w' b T rs := (g.block _ (lt_of_some h) (by simpa using hr)).trans h
theorem Blk.new (w : World) (T : TypeId) (rs : List Int) : Blk (w.alloc (.cells (arrI rs) T)) w.heap.size T rs := heap_new w _
theorem Blk.new1 (w : World) (o : Obj) (T : TypeId) (rs : List Int) : Blk ((w.alloc o).alloc (.cells (arrI rs) T)) (w.heap.size + 1) T rs := by simpa using Blk.new (w.alloc o) T rs
theorem Blk.set {w : World} {b : Nat} {T : TypeId} {rs : List Int} (h : Blk w b T rs) (k : Nat) (z : Int) : Blk (w.setCell ⟨b, k, none⟩ (.int .i64 z)) b T (rs.set k z) := by
  unfold Blk
  rw [heap_setCell h, arrI_set]
theorem Blk.range {w : World} {b : Nat} {T : TypeId} {rs : List Int} (h : Blk w b T rs) : w.rangeAt b 0 (rs.map (Value.int .i64)) := fun j v hv => by
  rw [Nat.zero_add, cell_of_heap h]
  simpa [arrI] using hv
theorem Blk.there {w : World} {b : Nat} {T : TypeId} {rs : List Int} (h : Blk w b T rs) : w.there b 0 rs.length := fun j hj => by
  rw [Nat.zero_add]
  exact ⟨by rw [h.cell j hj]; rfl, h.free j⟩
theorem load_arr {w : World} {b : Nat} {T : TypeId} {rs : List Int} (h : Blk w b T rs) (d : TypeDesc) (hu : Tryz.prog.underlying T = some d) (hd : d.isRow = true) (hi : (Tryz.prog.info? T).map (·.size) = some rs.length) :
    Sem.run Tryz.prog (Instr.loadAt T (.pointer (some ⟨b, 0, none⟩))) w = .ok (.agg (arrI rs)) w :=
  run_loadAt_mid w b 0 T (rs.map (Value.int .i64)) d h.range hu hd (by simpa using hi)
theorem loadVar_arr {w : World} {b : Nat} {T : TypeId} {rs : List Int} (h : Blk w b T rs) (d : TypeDesc) (hu : Tryz.prog.underlying T = some d) (hd : d.isRow = true) (hi : (Tryz.prog.info? T).map (·.size) = some rs.length) :
    Sem.run Tryz.prog (loadVar T ⟨b, 0, none⟩) w = .ok (.agg (arrI rs)) w :=
  run_loadVar_mid w b 0 T (rs.map (Value.int .i64)) d h.range hu hd (by simpa using hi)
def putArr (w : World) (b : Nat) (rs : List Int) : World := w.setCells b 0 (rs.map (Value.int .i64))
theorem ones_arrI (rs : List Int) : (arrI rs).all (·.oneCell') = true := by
  apply all_oneCell_toArray
  intro v hv
  obtain ⟨x, _, rfl⟩ := List.mem_map.1 hv
  rfl
theorem heap_setCells (b : Nat) (T : TypeId) : ∀ (vs : List Value) (o : Nat) (w : World) (cs : Array Value), w.heap[b]? = some (.cells cs T (0, 0)) → o + vs.length ≤ cs.size →
    ∃ cs', (w.setCells b o vs).heap[b]? = some (.cells cs' T (0, 0)) ∧ cs'.size = cs.size ∧ (∀ i, i < o → cs'[i]? = cs[i]?) ∧ (∀ i, i < vs.length → cs'[o + i]? = vs[i]?) ∧ w.grownBy (w.setCells b o vs) (some b)
  | [], o, w, cs, h, _ => ⟨cs, h, rfl, fun _ _ => rfl, fun i hi => by simp at hi, grown_refl w _⟩
  | v :: vs, o, w, cs, h, hl => by
    simp only [List.length_cons] at hl
    have h1 := heap_setCell (k := o) h v
    obtain ⟨cs', c1, c2, c3, c4, c5⟩ := heap_setCells b T vs (o + 1) (w.setCell ⟨b, o, none⟩ v) (cs.setIfInBounds o v) h1 (by simp; omega)
    refine ⟨cs', c1, by simpa using c2, fun i hi => ?_, fun i hi => ?_, grown_trans (grown_setCell w ⟨b, o, none⟩ v) c5 (some b) (fun i e _ => e) (fun i e _ => e)⟩
    · rw [c3 i (by omega)]
      simp [Array.getElem?_setIfInBounds, show ¬ o = i by omega]
    · match i, hi with
      | 0, _ =>
        rw [Nat.add_zero, c3 o (by omega)]
        simp [Array.getElem?_setIfInBounds, show o < cs.size by omega]
      | i + 1, hi =>
        have := c4 i (by simp at hi; omega)
        rw [show o + (i + 1) = o + 1 + i by omega, this]
        simp
theorem put_arr {w : World} {b : Nat} {T : TypeId} {rs rs' : List Int} (h : Blk w b T rs) (hl : rs'.length = rs.length) : Blk (putArr w b rs') b T rs' ∧ w.grownBy (putArr w b rs') (some b) := by
  obtain ⟨cs', c1, c2, _, c4, c5⟩ := heap_setCells b T (rs'.map (Value.int .i64)) 0 w (arrI rs) h (by simp [arrI, hl])
  refine ⟨?_, c5⟩
  unfold Blk putArr
  rw [c1]
  have : cs' = arrI rs' := by
    apply Array.ext_getElem?
    intro i
    by_cases hi : i < rs'.length
    · have := c4 i (by simpa using hi)
      rw [Nat.zero_add] at this
      rw [this]; simp [arrI]
    · rw [Array.getElem?_eq_none (by rw [c2]; simp [arrI]; omega), Array.getElem?_eq_none (by simp [arrI]; omega)]
  rw [this]
theorem wpList_load_arr {ops : Array Oper} {rest : List Oper} {op : Oper} {a : Act} {w : World} {Q : Exit → Act → World → Prop} (hgd : op.guard = none) (T : TypeId) (x : Operand) (ho : op.op = .load T x)
    (b : Nat) (hx : a.eval x = .pointer (some ⟨b, 0, none⟩)) (rs : List Int) (h : Blk w b T rs) (d : TypeDesc) (hu : Tryz.prog.underlying T = some d) (hd : d.isRow = true) (hi : (Tryz.prog.info? T).map (·.size) = some rs.length)
    (k : wpList Tryz.prog ops Q rest (a.put op.dst (.agg (arrI rs))) w) : wpList Tryz.prog ops Q (op :: rest) a w :=
  wpList_load_mid hgd T x ho b 0 hx (rs.map (Value.int .i64)) d h.range hu hd (by simpa using hi) k
theorem wpList_store_arr {ops : Array Oper} {rest : List Oper} {op : Oper} {a : Act} {w : World} {Q : Exit → Act → World → Prop} (hgd : op.guard = none) (T : TypeId) (x y : Operand) (ho : op.op = .store T x y)
    (b : Nat) (rs rs' : List Int) (hx : a.eval x = .pointer (some ⟨b, 0, none⟩)) (hy : a.eval y = .agg (arrI rs')) (h : Blk w b T rs) (hl : rs'.length = rs.length) (hi : (Tryz.prog.info? T).map (·.size) = some rs.length)
    (k : wpList Tryz.prog ops Q rest (a.put op.dst undef) (putArr w b rs')) : wpList Tryz.prog ops Q (op :: rest) a w :=
  wpList_store_mid hgd T x y ho b 0 (arrI rs') hx hy (by rw [show (arrI rs').size = rs.length by simp [arrI, hl]]; exact h.there) (by simpa [arrI, hl] using hi) (ones_arrI rs') (by simpa [putArr, arrI] using k)
def zeros (n : Nat) : List Int := List.replicate n 0
theorem zeros_len (n : Nat) : (zeros n).length = n := by simp [zeros]
theorem zeros_nth (n i : Nat) : nth (zeros n) i = 0 := by simp [zeros, nth, List.getD, List.getElem?_replicate]; split <;> rfl
theorem zero_arr {T : TypeId} {n : Nat} (hz : (Tryz.prog.info? T).bind (·.zero) = some (.agg (arrI (zeros n)))) (w : World) : Sem.run Tryz.prog (zeroValue T) w = .ok (.agg (arrI (zeros n))) w := by
  cases hq : Tryz.prog.info? T with
  | none => simp [hq] at hz
  | some i =>
    have hi : i.zero = some (.agg (arrI (zeros n))) := by simpa [hq] using hz
    simp [zeroValue, typeInfo, hq, hi]
theorem index_arr {T : TypeId} {n : Nat} (rs : List Int) (hu : Tryz.prog.underlying T = some (.array n 3)) (k : Nat) (hk : k < rs.length) (hn : rs.length = n) (w : World) : Sem.run Tryz.prog (Instr.index T (.agg (arrI rs)) (.int .i64 k)) w = .ok (.int .i64 (nth rs k)) w := by
  have hg := arrI_get rs k hk
  have hb : (0 : Int) ≤ k ∧ (k : Int) < n := by omega
  obtain ⟨i0, hi, hz0, hz1, hz2⟩ := info_parts infoI64
  simp [Instr.index, run_underlying hu, asIntOf, hb, go_sem, sizeOf, typeInfo, hi, hz1, part, isAgg, run_underlying Tryz.underlying3, hg]
  intro h; omega
theorem make_zeros (n : Nat) (h1 : n ≤ 35184372088832) (u : World) :
    (Instr.makeSlice 27 (.int .i64 n) (.int .i64 n)).run Tryz.prog u = .ok (.slice (some ⟨u.heap.size, 0, none⟩) n n) (u.alloc (.cells (arrI (zeros n)) 3)) := by
  have := make_int n (by omega) (by omega) u
  simpa [zeros] using this
theorem fresh_arr (w : World) (T : TypeId) (n : Nat) (L : List Int) (hL : L.length = n) : Blk (w.alloc (.cells (arrI (zeros n)) T)) w.heap.size T (zeros n) ∧ Blk (putArr (w.alloc (.cells (arrI (zeros n)) T)) w.heap.size L) w.heap.size T L ∧ w.grownBy (putArr (w.alloc (.cells (arrI (zeros n)) T)) w.heap.size L) none := by
  have hB := Blk.new w T (zeros n)
  have PU := put_arr (rs' := L) hB (by rw [hL, zeros_len])
  exact ⟨hB, PU.1, grown_own (grown_alloc _ _ none) PU.2 (Nat.le_refl _)⟩
theorem wpList_load_arrG {ops : Array Oper} {rest : List Oper} {op : Oper} {a : Act} {w : World} {Q : Exit → Act → World → Prop} (hgd : Region.wanted op (yielded ops a.tmps) = true) (T : TypeId) (x : Operand) (ho : op.op = .load T x)
    (b : Nat) (hx : a.eval x = .pointer (some ⟨b, 0, none⟩)) (rs : List Int) (h : Blk w b T rs) (d : TypeDesc) (hu : Tryz.prog.underlying T = some d) (hd : d.isRow = true) (hi : (Tryz.prog.info? T).map (·.size) = some rs.length)
    (k : wpList Tryz.prog ops Q rest (a.put op.dst (.agg (arrI rs))) w) : wpList Tryz.prog ops Q (op :: rest) a w := by
  refine wpList_step fun K hK => ?_
  rw [if_pos hgd]
  exact wp_load_mid T x ho b 0 hx (rs.map (Value.int .i64)) d h.range hu hd (by simpa using hi) (hK _ _ k)
end Go.Proofs.YtjepkgdejkifcaaGreatDoor

/- LpcMath -/
namespace Go.Proofs.YtjepkgdejkifcaaGreatDoor
open Go.RowKit
set_option linter.unusedVariables false
set_option linter.unusedSimpArgs false
def steadyB (k : List Int) : Bool := k.all fun q => decide (-32768 < q) && decide (q < 32768)
theorem all_iff (l : List Int) (p : Int → Bool) : l.all p = true ↔ ∀ i, i < l.length → p (nth l i) = true := by
  rw [List.all_eq_true]
  constructor
  · intro h i hi
    have := h l[i] (List.getElem_mem hi)
    simpa [nth, List.getD, hi] using this
  · intro h x hx
    obtain ⟨i, hi, rfl⟩ := List.getElem_of_mem hx
    have := h i hi
    simpa [nth, List.getD, hi] using this
theorem steadyB_iff (k : List Int) : steadyB k = true ↔ ∀ i, i < k.length → -32768 < nth k i ∧ nth k i < 32768 := by
  unfold steadyB
  rw [all_iff]
  simp
def mixN (a b : List Int) (num : Int) (i : Nat) : Int := (nth a i * (4 - num) + nth b i * num).tdiv 4
def okM (a b : List Int) (num : Int) : Bool := decide (0 ≤ num) && decide (num ≤ 4) && steadyB a && steadyB b
def mixL (a b : List Int) (num : Int) : List Int := if okM a b num = true then (List.range 8).map (mixN a b num) else zeros 8
def mixE (a b : List Int) (num : Int) : Int := if okM a b num = true then 0 else 2
theorem mixL_len (a b : List Int) (num : Int) : (mixL a b num).length = 8 := by unfold mixL; split <;> simp [zeros]
def FillN (n : Nat) (f : Nat → Int) (k : Nat) (rs : List Int) : Prop := rs.length = n ∧ ∀ j, j < k → nth rs j = f j
theorem fillN_step {n : Nat} {f : Nat → Int} {k : Nat} {rs : List Int} (h : FillN n f k rs) (hk : k < n) : FillN n f (k + 1) (rs.set k (f k)) := by
  obtain ⟨h1, h2⟩ := h
  refine ⟨by simpa using h1, fun j hj => ?_⟩
  by_cases e : j = k
  · subst e
    simp [nth, List.getD, h1, hk]
  · have := h2 j (by omega)
    simpa [nth, List.getD, List.getElem?_set, Ne.symm e] using this
theorem fillN_all {n : Nat} {f : Nat → Int} {rs : List Int} (h : FillN n f n rs) : rs = (List.range n).map f := by
  apply List.ext_getElem
  · simp [h.1]
  · intro i h1 h2
    have := h.2 i (by have := h.1; omega)
    simpa [nth, List.getD, h1] using this
theorem fillN_start (n : Nat) (f : Nat → Int) : FillN n f 0 (zeros n) := ⟨zeros_len n, fun j hj => by omega⟩
end Go.Proofs.YtjepkgdejkifcaaGreatDoor

/- LpcS -/
namespace Go.Proofs.YtjepkgdejkifcaaGreatDoor
open Go.RowKit
set_option linter.unusedVariables false
set_option linter.unusedSimpArgs false
theorem size9' : (Tryz.prog.info? 88).map (·.size) = some 9 := by kernel_rfl
theorem size8' : (Tryz.prog.info? 22).map (·.size) = some 8 := by kernel_rfl
theorem z9' : arrI (zeros 9) = #[.int .i64 0, .int .i64 0, .int .i64 0, .int .i64 0, .int .i64 0, .int .i64 0, .int .i64 0, .int .i64 0, .int .i64 0] := rfl
theorem z8' : arrI (zeros 8) = #[.int .i64 0, .int .i64 0, .int .i64 0, .int .i64 0, .int .i64 0, .int .i64 0, .int .i64 0, .int .i64 0] := rfl
theorem build9 (u : World) : Sem.run Tryz.prog (Instr.build 88 #[]) u = .ok (.agg (arrI (zeros 9))) u := run_build u 88 #[] (arrI (zeros 9)) (by kernel_rfl)
theorem build8 (u : World) : Sem.run Tryz.prog (Instr.build 22 #[]) u = .ok (.agg (arrI (zeros 8))) u := run_build u 22 #[] (arrI (zeros 8)) (by kernel_rfl)
def ArrE (w : World) (L : List Int) (en : Int) (e : Ending) (w' : World) : Prop := e = .returned (.tuple #[.agg (arrI L), .int .i64 en]) ∧ w.grownBy w' none
theorem laid3 (w : World) (T1 T2 T3 : TypeId) (a b c : List Int) : Blk (((w.alloc (.cells (arrI a) T1)).alloc (.cells (arrI b) T2)).alloc (.cells (arrI c) T3)) w.heap.size T1 a ∧ Blk (((w.alloc (.cells (arrI a) T1)).alloc (.cells (arrI b) T2)).alloc (.cells (arrI c) T3)) (w.heap.size + 1) T2 b ∧ Blk (((w.alloc (.cells (arrI a) T1)).alloc (.cells (arrI b) T2)).alloc (.cells (arrI c) T3)) (w.heap.size + 1 + 1) T3 c ∧ w.grownBy (((w.alloc (.cells (arrI a) T1)).alloc (.cells (arrI b) T2)).alloc (.cells (arrI c) T3)) none := by
  have g := grown_alloc ((w.alloc (.cells (arrI a) T1)).alloc (.cells (arrI b) T2)) (.cells (arrI c) T3) none
  refine ⟨((Blk.new w T1 a).keep (grown_alloc _ _ none)).keep g, (Blk.new1 w _ T2 b).keep g, ?_, grown_none (grown_none (grown_alloc _ _ none) (grown_alloc _ _ none)) g⟩
  simpa using Blk.new ((w.alloc (.cells (arrI a) T1)).alloc (.cells (arrI b) T2)) T3 c
theorem laid2 (w : World) (T1 T2 : TypeId) (a b : List Int) : Blk ((w.alloc (.cells (arrI a) T1)).alloc (.cells (arrI b) T2)) w.heap.size T1 a ∧ Blk ((w.alloc (.cells (arrI a) T1)).alloc (.cells (arrI b) T2)) (w.heap.size + 1) T2 b ∧ w.grownBy ((w.alloc (.cells (arrI a) T1)).alloc (.cells (arrI b) T2)) none :=
  ⟨(Blk.new w T1 a).keep (grown_alloc _ _ none), Blk.new1 w _ T2 b, grown_none (grown_alloc _ _ none) (grown_alloc _ _ none)⟩
def Mem2 (w wr : World) (T1 T2 : TypeId) (a b : List Int) : Prop := Blk wr w.heap.size T1 a ∧ Blk wr (w.heap.size + 1) T2 b ∧ w.grownBy wr none
def Mem3 (w wr : World) (T1 T2 T3 : TypeId) (a b c : List Int) : Prop := Blk wr w.heap.size T1 a ∧ Blk wr (w.heap.size + 1) T2 b ∧ Blk wr (w.heap.size + 1 + 1) T3 c ∧ w.grownBy wr none
theorem Mem2.keep {w wr wr' : World} {T1 T2 : TypeId} {a b : List Int} (h : Mem2 w wr T1 T2 a b) (g : wr.grownBy wr' none) : Mem2 w wr' T1 T2 a b := ⟨h.1.keep g, h.2.1.keep g, grown_none h.2.2 g⟩
theorem Mem3.keep {w wr wr' : World} {T1 T2 T3 : TypeId} {a b c : List Int} (h : Mem3 w wr T1 T2 T3 a b c) (g : wr.grownBy wr' none) : Mem3 w wr' T1 T2 T3 a b c := ⟨h.1.keep g, h.2.1.keep g, h.2.2.1.keep g, grown_none h.2.2.2 g⟩
theorem Mem2.set {w wr : World} {T1 T2 : TypeId} {a b : List Int} (h : Mem2 w wr T1 T2 a b) (k : Nat) (z : Int) : Mem2 w (wr.setCell ⟨w.heap.size, k, none⟩ (.int .i64 z)) T1 T2 (a.set k z) b :=
  ⟨h.1.set k z, h.2.1.keepBut (grown_setCell _ ⟨w.heap.size, k, none⟩ _) (by simp), grown_own h.2.2 (grown_setCell _ ⟨w.heap.size, k, none⟩ _) (by simp)⟩
theorem Mem3.set {w wr : World} {T1 T2 T3 : TypeId} {a b c : List Int} (h : Mem3 w wr T1 T2 T3 a b c) (k : Nat) (z : Int) : Mem3 w (wr.setCell ⟨w.heap.size, k, none⟩ (.int .i64 z)) T1 T2 T3 (a.set k z) b c :=
  ⟨h.1.set k z, h.2.1.keepBut (grown_setCell _ ⟨w.heap.size, k, none⟩ _) (by simp), h.2.2.1.keepBut (grown_setCell _ ⟨w.heap.size, k, none⟩ _) (by simp; omega), grown_own h.2.2.2 (grown_setCell _ ⟨w.heap.size, k, none⟩ _) (by simp)⟩
theorem Mem3.set3 {w wr : World} {T1 T2 T3 : TypeId} {a b c : List Int} (h : Mem3 w wr T1 T2 T3 a b c) (k : Nat) (z : Int) : Mem3 w (wr.setCell ⟨w.heap.size + 1 + 1, k, none⟩ (.int .i64 z)) T1 T2 T3 a b (c.set k z) :=
  ⟨h.1.keepBut (grown_setCell _ ⟨w.heap.size + 1 + 1, k, none⟩ _) (by simp; omega), h.2.1.keepBut (grown_setCell _ ⟨w.heap.size + 1 + 1, k, none⟩ _) (by simp), h.2.2.1.set k z, grown_own h.2.2.2 (grown_setCell _ ⟨w.heap.size + 1 + 1, k, none⟩ _) (by simp; omega)⟩
end Go.Proofs.YtjepkgdejkifcaaGreatDoor

/- LevMath -/
namespace Go.Proofs.YtjepkgdejkifcaaGreatDoor
open Go.RowKit
set_option linter.unusedVariables false
set_option linter.unusedSimpArgs false
def tab (n : Nat) (p : Nat → Int) : List Int := (List.range n).map p
theorem tab_len (n : Nat) (p : Nat → Int) : (tab n p).length = n := by simp [tab]
theorem tab_nth (n : Nat) (p : Nat → Int) (i : Nat) (h : i < n) : nth (tab n p) i = p i := by simp [tab, nth, List.getD, h]
theorem tab_ext {n : Nat} {p : Nat → Int} {l : List Int} (h1 : l.length = n) (h2 : ∀ i, i < n → nth l i = p i) : l = tab n p := fillN_all (n := n) ⟨h1, h2⟩
theorem tab_set (n : Nat) (p : Nat → Int) (k : Nat) (z : Int) (hk : k < n) : (tab n p).set k z = tab n (fun i => if i = k then z else p i) := by
  apply tab_ext
  · simp [tab_len]
  · intro i hi
    by_cases e : i = k
    · subst e; simp [nth, List.getD, tab, hi]
    · simp [nth, List.getD, tab, hi, e, List.getElem?_set, Ne.symm e]
theorem zeros_tab (n : Nat) : zeros n = tab n (fun _ => 0) := tab_ext (zeros_len n) (fun i _ => zeros_nth n i)
def gr (p : Nat → Int) (m : Nat) (q : Int) (i : Nat) : Int := if 1 ≤ i ∧ i ≤ m then p i + q * p (m - i) / 32768 else p i
def Wi (p : Nat → Int) (B : Int) : Prop := ∀ i, -B ≤ p i ∧ p i ≤ B
theorem qmul_bd (q x B : Int) (q1 : -32768 ≤ q) (q2 : q ≤ 32768) (x1 : -B ≤ x) (x2 : x ≤ B) : -(32768 * B) ≤ q * x ∧ q * x ≤ 32768 * B := by
  have e1 : 0 ≤ (32768 - q) * (B - x) := Int.mul_nonneg (by omega) (by omega)
  have e2 : 0 ≤ (32768 + q) * (B + x) := Int.mul_nonneg (by omega) (by omega)
  have e3 : 0 ≤ (32768 - q) * (B + x) := Int.mul_nonneg (by omega) (by omega)
  have e4 : 0 ≤ (32768 + q) * (B - x) := Int.mul_nonneg (by omega) (by omega)
  simp only [Int.add_mul, Int.sub_mul, Int.mul_add, Int.mul_sub] at e1 e2 e3 e4
  omega
theorem gr_bd {p : Nat → Int} {B : Int} (h : Wi p B) (hB : 0 ≤ B) (m : Nat) (q : Int) (q1 : -32768 ≤ q) (q2 : q ≤ 32768) : Wi (gr p m q) (2 * B) := by
  intro i
  have a := h i
  have b := h (m - i)
  have c := qmul_bd q _ B q1 q2 b.1 b.2
  unfold gr
  split <;> omega
theorem gr_out {p : Nat → Int} {m : Nat} (h : ∀ i, m ≤ i → p i = 0) (q : Int) : ∀ i, m + 1 ≤ i → gr p m q i = 0 := by
  intro i hi
  unfold gr
  rw [if_neg (by omega)]
  exact h i (by omega)
def one24 (i : Nat) : Int := if i = 0 then 16777216 else 0
theorem one24_bd : Wi one24 16777216 := by intro i; unfold one24; split <;> omega
theorem gr_one (q : Int) (q1 : -32768 ≤ q) (q2 : q ≤ 32768) : Wi (gr one24 1 q) 16777216 := by
  intro i
  have a := one24_bd i
  have b := one24_bd (1 - i)
  have c := qmul_bd q _ _ q1 q2 b.1 b.2
  unfold gr
  split
  · rename_i h
    have : i = 1 := by omega
    subst this
    simp only [one24] at *
    simp at *
    omega
  · exact a
def prd (k : Nat → Int) : Nat → Nat → Int
  | 0 => one24
  | m + 1 => gr (prd k m) (m + 1) (k m)
theorem prd_zero (k : Nat → Int) : ∀ m, prd k m 0 = 16777216
  | 0 => rfl
  | m + 1 => by show gr (prd k m) (m + 1) (k m) 0 = _; simp [gr, prd_zero k m]
theorem prd_bd (k : Nat → Int) (n : Nat) (hk : ∀ i, i < n → -32768 ≤ k i ∧ k i ≤ 32768) : ∀ m, m + 1 ≤ n → Wi (prd k (m + 1)) (16777216 * 2 ^ m)
  | 0, h => by
    have := hk 0 (by omega)
    exact gr_one _ this.1 this.2
  | m + 1, h => by
    have := hk (m + 1) (by omega)
    have g := gr_bd (prd_bd k n hk m (by omega)) (Int.mul_nonneg (by decide) (Int.le_of_lt (Int.pow_pos (by decide)))) (m + 1 + 1) (k (m + 1)) this.1 this.2
    rw [show (16777216 : Int) * 2 ^ (m + 1) = 2 * (16777216 * 2 ^ m) by rw [Int.pow_succ]; omega]
    exact g
theorem pow8 (m : Nat) (h : m ≤ 8) : (2 : Int) ^ m ≤ 256 := by
  match m, h with
  | 0, _ | 1, _ | 2, _ | 3, _ | 4, _ | 5, _ | 6, _ | 7, _ | 8, _ => decide
theorem Wi.le {p : Nat → Int} {A B : Int} (h : Wi p A) (hB : A ≤ B) : Wi p B := fun i => by have := h i; omega
theorem prd_bd32 (k : Nat → Int) (hk : ∀ i, i < 8 → -32768 ≤ k i ∧ k i ≤ 32768) (m : Nat) (hm : m ≤ 8) : Wi (prd k m) 2147483648 := by
  match m, hm with
  | 0, _ => exact one24_bd.le (by decide)
  | m + 1, hm =>
    refine (prd_bd k 8 hk m hm).le ?_
    have e : (2 : Int) ^ m ≤ 128 := by
      match m, hm with
      | 0, _ | 1, _ | 2, _ | 3, _ | 4, _ | 5, _ | 6, _ | 7, _ => decide
    omega
def dirN (k : Nat → Int) (i : Nat) : Int := (prd k 8 i + 2048) / 4096
def dirL (k : List Int) : List Int := if steadyB k = true then tab 9 (dirN (nth k)) else zeros 9
def dirE (k : List Int) : Int := if steadyB k = true then 0 else 2
theorem dirL_len (k : List Int) : (dirL k).length = 9 := by unfold dirL; split; exact tab_len _ _; exact zeros_len _
theorem steady_le {k : List Int} (hk : k.length = 8) (h : steadyB k = true) : ∀ i, i < 8 → -32768 ≤ nth k i ∧ nth k i ≤ 32768 := fun i hi => by
  have := (steadyB_iff k).1 h i (by omega)
  omega
theorem dirN_bd (k : List Int) (hk : k.length = 8) (h : steadyB k = true) (i : Nat) : -524288 ≤ dirN (nth k) i ∧ dirN (nth k) i ≤ 524288 := by
  have := prd_bd32 (nth k) (steady_le hk h) 8 (by omega) i
  unfold dirN
  omega
theorem dirN_zero (k : Nat → Int) : dirN k 0 = 4096 := by unfold dirN; rw [prd_zero]; decide
def mis (p r : Nat → Int) (m : Nat) : Nat → Int
  | 0 => 0
  | i + 1 => mis p r m i + (p i / 512 * r (m - i)) / 32768
theorem mterm_bd (x y : Int) (x1 : -4294967296 ≤ x) (x2 : x ≤ 4294967296) (y1 : -2147483647 ≤ y) (y2 : y ≤ 2147483647) : (-18014398509481984 ≤ x / 512 * y ∧ x / 512 * y ≤ 18014398509481984) ∧ -549755813888 ≤ (x / 512 * y) / 32768 ∧ (x / 512 * y) / 32768 ≤ 549755813888 := by
  have b1 : -8388608 ≤ x / 512 := by omega
  have b2 : x / 512 ≤ 8388608 := by omega
  generalize x / 512 = z at *
  have e1 : 0 ≤ (8388608 - z) * (2147483648 - y) := Int.mul_nonneg (by omega) (by omega)
  have e2 : 0 ≤ (8388608 + z) * (2147483648 + y) := Int.mul_nonneg (by omega) (by omega)
  have e3 : 0 ≤ (8388608 - z) * (2147483648 + y) := Int.mul_nonneg (by omega) (by omega)
  have e4 : 0 ≤ (8388608 + z) * (2147483648 - y) := Int.mul_nonneg (by omega) (by omega)
  simp only [Int.add_mul, Int.sub_mul, Int.mul_add, Int.mul_sub] at e1 e2 e3 e4
  omega
def RB (r : Nat → Int) : Prop := ∀ i, -2147483647 ≤ r i ∧ r i ≤ 2147483647
theorem mis_bd {p r : Nat → Int} (hp : Wi p 4294967296) (hr : RB r) (m : Nat) : ∀ i : Nat, -549755813888 * (i : Int) ≤ mis p r m i ∧ mis p r m i ≤ 549755813888 * (i : Int)
  | 0 => by simp [mis]
  | i + 1 => by
    have a := mis_bd hp hr m i
    have b := (mterm_bd (p i) (r (m - i)) (hp i).1 (hp i).2 (hr _).1 (hr _).2).2
    show -549755813888 * ((i + 1 : Nat) : Int) ≤ mis p r m i + _ ∧ mis p r m i + _ ≤ 549755813888 * ((i + 1 : Nat) : Int)
    omega
structure Lev where
  k : Nat → Int
  p : Nat → Int
  e : Int
  go : Bool
def levQ (r : Nat → Int) (m : Nat) (s : Lev) : Int := (-(mis s.p r (m + 1) (m + 1)) * 32768).tdiv s.e
def eN (e q : Int) : Int := e - (e * q / 32768) * q / 32768
def levStep (r : Nat → Int) (m : Nat) (s : Lev) : Lev :=
  if s.go = true then (if -32000 < levQ r m s ∧ levQ r m s < 32000 then ⟨fun i => if i = m then levQ r m s else s.k i, gr s.p (m + 1) (levQ r m s), eN s.e (levQ r m s), true⟩ else ⟨s.k, s.p, s.e, false⟩) else s
def lev (r : Nat → Int) : Nat → Lev
  | 0 => ⟨fun _ => 0, one24, r 0, true⟩
  | m + 1 => levStep r m (lev r m)
theorem lev_stuck (r : Nat → Int) (m : Nat) (h : (lev r m).go = false) : ∀ d, lev r (m + d) = lev r m
  | 0 => rfl
  | d + 1 => by
    show levStep r (m + d) (lev r (m + d)) = _
    rw [lev_stuck r m h d]
    simp [levStep, h]
theorem eN_bd (e q : Int) (he : 0 < e) (q1 : -32000 < q) (q2 : q < 32000) : 0 < eN e q ∧ eN e q ≤ e ∧ (-(32768 * e) ≤ e * q ∧ e * q ≤ 32768 * e) ∧ (-(32768 * e) ≤ (e * q / 32768) * q ∧ (e * q / 32768) * q ≤ 32768 * e) := by
  have h := qmul_bd q e e (by omega) (by omega) (by omega) (by omega)
  rw [Int.mul_comm q e] at h
  have ht : -e ≤ e * q / 32768 ∧ e * q / 32768 ≤ e := by omega
  have h2 : 0 ≤ (e * q / 32768) * q ∧ (e * q / 32768) * q ≤ 32000 * e := by
    rcases Int.le_total 0 q with c | c
    · have g : 0 ≤ e * q := Int.mul_nonneg (by omega) c
      have t0 : 0 ≤ e * q / 32768 := by omega
      generalize e * q / 32768 = t at *
      have p1 := Int.mul_nonneg t0 c
      have p2 : t * q ≤ e * 32000 := Int.mul_le_mul ht.2 (by omega) c (by omega)
      omega
    · have g : 0 ≤ e * -q := Int.mul_nonneg (by omega) (by omega)
      rw [Int.mul_neg] at g
      have t0 : e * q / 32768 ≤ 0 := by omega
      generalize e * q / 32768 = t at *
      have p1 : 0 ≤ -t * -q := Int.mul_nonneg (by omega) (by omega)
      have p2 : -t * -q ≤ e * 32000 := Int.mul_le_mul (by omega) (by omega) (by omega) (by omega)
      rw [Int.neg_mul_neg] at p1 p2
      omega
  unfold eN
  omega
structure InvL (r : Nat → Int) (m : Nat) (s : Lev) : Prop where
  e0 : 0 < s.e
  e1 : s.e ≤ r 0
  pb : Wi s.p (16777216 * 2 ^ m)
  ko : ∀ i, m ≤ i → s.k i = 0
  po : ∀ i, m + 1 ≤ i → s.p i = 0
  kb : ∀ i, -32000 < s.k i ∧ s.k i < 32000
theorem inv_start (r : Nat → Int) (h : 0 < r 0) : InvL r 0 (lev r 0) :=
  ⟨h, Int.le_refl _, one24_bd, fun _ _ => rfl, fun i hi => by simp [lev, one24]; omega, fun _ => by simp [lev]⟩
theorem inv_step {r : Nat → Int} {m : Nat} (h : InvL r m (lev r m)) (hg : (lev r m).go = true) (q1 : -32000 < levQ r m (lev r m)) (q2 : levQ r m (lev r m) < 32000) :
    lev r (m + 1) = ⟨fun i => if i = m then levQ r m (lev r m) else (lev r m).k i, gr (lev r m).p (m + 1) (levQ r m (lev r m)), eN (lev r m).e (levQ r m (lev r m)), true⟩ ∧ InvL r (m + 1) (lev r (m + 1)) := by
  have hs : lev r (m + 1) = ⟨fun i => if i = m then levQ r m (lev r m) else (lev r m).k i, gr (lev r m).p (m + 1) (levQ r m (lev r m)), eN (lev r m).e (levQ r m (lev r m)), true⟩ := by
    show levStep r m (lev r m) = _
    unfold levStep
    rw [if_pos hg, if_pos ⟨q1, q2⟩]
  refine ⟨hs, ?_⟩
  rw [hs]
  obtain ⟨a, b, c, d, f, g⟩ := h
  have en := eN_bd _ _ a q1 q2
  refine ⟨en.1, by have := en.2.1; show eN _ _ ≤ _; omega, ?_, fun i hi => ?_, fun i hi => gr_out f _ i hi, fun i => ?_⟩
  · rw [show (16777216 : Int) * 2 ^ (m + 1) = 2 * (16777216 * 2 ^ m) by rw [Int.pow_succ]; omega]
    exact gr_bd c (Int.mul_nonneg (by decide) (Int.le_of_lt (Int.pow_pos (by decide)))) _ _ (by omega) (by omega)
  · show (if i = m then _ else _) = (0 : Int)
    rw [if_neg (by omega)]
    exact d i (by omega)
  · show -32000 < (if i = m then _ else _) ∧ (if i = m then _ else _) < (32000 : Int)
    split
    · exact ⟨q1, q2⟩
    · exact g i
theorem lev_stop {r : Nat → Int} {m : Nat} (hg : (lev r m).go = true) (hq : ¬ (-32000 < levQ r m (lev r m) ∧ levQ r m (lev r m) < 32000)) (hm : m < 8) : lev r 8 = ⟨(lev r m).k, (lev r m).p, (lev r m).e, false⟩ := by
  have hs : lev r (m + 1) = ⟨(lev r m).k, (lev r m).p, (lev r m).e, false⟩ := by
    show levStep r m (lev r m) = _
    unfold levStep
    rw [if_pos hg, if_neg hq]
  have := lev_stuck r (m + 1) (by rw [hs]) (7 - m)
  rw [show m + 1 + (7 - m) = 8 by omega] at this
  rw [this, hs]
theorem InvL.pb' {r : Nat → Int} {m : Nat} {s : Lev} (h : InvL r m s) (hm : m ≤ 8) : Wi s.p 4294967296 := h.pb.le (by have := pow8 m hm; omega)
def rngB (r : List Int) : Bool := r.all fun c => decide (-2147483647 ≤ c) && decide (c ≤ 2147483647)
theorem rngB_iff (a : List Int) : rngB a = true ↔ ∀ i, i < a.length → -2147483647 ≤ nth a i ∧ nth a i ≤ 2147483647 := by
  unfold rngB
  rw [all_iff]
  simp
theorem RB_of {r : List Int} (h : rngB r = true) : RB (nth r) := fun i => by
  by_cases hi : i < r.length
  · exact (rngB_iff r).1 h i hi
  · rw [getD_out r i (by omega)]; omega
def okL (r : List Int) : Bool := rngB r && decide (0 < nth r 0)
def levK (r : List Int) : List Int := if okL r = true then tab 8 (lev (nth r) 8).k else zeros 8
def levE (r : List Int) : Int := if okL r = true then (lev (nth r) 8).e else 0
def levG (r : List Int) : Bool := if okL r = true then (lev (nth r) 8).go else false
theorem levK_len (r : List Int) : (levK r).length = 8 := by unfold levK; split; exact tab_len _ _; exact zeros_len _
theorem lev_all (r : Nat → Int) (h : 0 < r 0) : ∀ m, (∀ i, -32000 < (lev r m).k i ∧ (lev r m).k i < 32000) ∧ ((lev r m).go = true → InvL r m (lev r m))
  | 0 => ⟨fun i => by simp [lev], fun _ => inv_start r h⟩
  | m + 1 => by
    obtain ⟨a, b⟩ := lev_all r h m
    rcases hg : (lev r m).go with _ | _
    · have := lev_stuck r m hg 1
      rw [this]
      exact ⟨a, fun h => by rw [hg] at h; cases h⟩
    · by_cases hq : -32000 < levQ r m (lev r m) ∧ levQ r m (lev r m) < 32000
      · have i1 := (inv_step (b hg) hg hq.1 hq.2).2
        exact ⟨i1.kb, fun _ => i1⟩
      · have hs : lev r (m + 1) = ⟨(lev r m).k, (lev r m).p, (lev r m).e, false⟩ := by
          show levStep r m (lev r m) = _
          unfold levStep
          rw [if_pos hg, if_neg hq]
        rw [hs]
        exact ⟨a, fun h => by cases h⟩
theorem levK_bd (r : List Int) (i : Nat) : -32000 < nth (levK r) i ∧ nth (levK r) i < 32000 := by
  unfold levK
  split
  · rename_i h
    have h0 : 0 < nth r 0 := by simp [okL] at h; exact h.2
    by_cases hi : i < 8
    · rw [tab_nth _ _ _ hi]; exact (lev_all _ h0 8).1 i
    · rw [getD_out _ i (by rw [tab_len]; omega)]; omega
  · rw [zeros_nth]; omega
end Go.Proofs.YtjepkgdejkifcaaGreatDoor

/- VBlk -/
namespace Go.Proofs.YtjepkgdejkifcaaGreatDoor
open Go.RowKit
set_option linter.unusedVariables false
set_option linter.unusedSimpArgs false
def BlkV (w : World) (b : Nat) (T : TypeId) (cs : List Value) : Prop := w.heap[b]? = some (.cells cs.toArray T (0, 0))
theorem BlkV.cell {w : World} {b : Nat} {T : TypeId} {cs : List Value} (h : BlkV w b T cs) (i : Nat) : w.cell? ⟨b, i, none⟩ = cs[i]? := by rw [cell_of_heap h]; simp
theorem BlkV.free {w : World} {b : Nat} {T : TypeId} {cs : List Value} (h : BlkV w b T cs) (i : Nat) : w.frozen? ⟨b, i, none⟩ = false := frozen_of_heap h i
theorem BlkV.lt {w : World} {b : Nat} {T : TypeId} {cs : List Value} (h : BlkV w b T cs) : b < w.heap.size := lt_of_some h
theorem BlkV.keep {w w' : World} {b : Nat} {T : TypeId} {cs : List Value} (h : BlkV w b T cs) (g : w.grownBy w' none) : BlkV w' b T cs := (g.block _ (lt_of_some h) (by simp)).trans h
theorem BlkV.keepBut {w w' : World} {b : Nat} {T : TypeId} {cs : List Value} {r : Nat} (h : BlkV w b T cs) (g : w.grownBy w' (some r)) (hr : b ≠ r) : BlkV w' b T cs := (g.block _ (lt_of_some h) (by simpa using hr)).trans h
theorem BlkV.new (w : World) (T : TypeId) (cs : List Value) : BlkV (w.alloc (.cells cs.toArray T)) w.heap.size T cs := heap_new w _
theorem BlkV.set {w : World} {b : Nat} {T : TypeId} {cs : List Value} (h : BlkV w b T cs) (k : Nat) (v : Value) : BlkV (w.setCell ⟨b, k, none⟩ v) b T (cs.set k v) := by
  unfold BlkV
  rw [heap_setCell h]
  simp
theorem BlkV.range {w : World} {b : Nat} {T : TypeId} {cs : List Value} (h : BlkV w b T cs) (o n : Nat) : w.rangeAt b o ((cs.drop o).take n) := fun j v hv => by
  rw [h.cell]
  rw [List.getElem?_take] at hv
  split at hv
  · rw [List.getElem?_drop] at hv; exact hv
  · cases hv
theorem BlkV.there {w : World} {b : Nat} {T : TypeId} {cs : List Value} (h : BlkV w b T cs) (o n : Nat) (hn : o + n ≤ cs.length) : w.there b o n := fun j hj =>
  ⟨by rw [h.cell, List.getElem?_eq_getElem (by omega)]; rfl, h.free _⟩
def splV (cs : List Value) (o : Nat) (vs : List Value) : List Value := cs.take o ++ vs ++ cs.drop (o + vs.length)
theorem splV_all (cs vs : List Value) (h : vs.length = cs.length) : splV cs 0 vs = vs := by simp [splV, h]
theorem heap_setV (b : Nat) (T : TypeId) : ∀ (vs : List Value) (o : Nat) (w : World) (cs : List Value), BlkV w b T cs → o + vs.length ≤ cs.length → BlkV (w.setCells b o vs) b T (splV cs o vs) ∧ w.grownBy (w.setCells b o vs) (some b)
  | [], o, w, cs, h, _ => ⟨by show BlkV w b T (splV cs o []); unfold splV; simp; exact h, grown_refl w _⟩
  | z :: M, o, w, cs, h, hl => by
    simp only [List.length_cons] at hl
    have h1 := h.set o z
    obtain ⟨a1, a2⟩ := heap_setV b T M (o + 1) (w.setCell ⟨b, o, none⟩ z) (cs.set o z) h1 (by rw [List.length_set]; omega)
    refine ⟨?_, grown_trans (grown_setCell w ⟨b, o, none⟩ _) a2 (some b) (fun i e _ => e) (fun i e _ => e)⟩
    have e : splV (cs.set o z) (o + 1) M = splV cs o (z :: M) := by
      unfold splV
      rw [List.take_succ_eq_append_getElem (by rw [List.length_set]; omega)]
      simp [show o < cs.length by omega]
      rw [List.drop_set_of_lt (by omega), show o + 1 + M.length = o + (M.length + 1) by omega]
      rw [List.take_set_of_le (Nat.le_refl _)]
    rw [← e]
    exact a1
def putV (w : World) (b o : Nat) (vs : List Value) : World := w.setCells b o vs
theorem put_v {w : World} {b : Nat} {T : TypeId} {cs : List Value} (h : BlkV w b T cs) (o : Nat) (vs : List Value) (hl : o + vs.length ≤ cs.length) : BlkV (putV w b o vs) b T (splV cs o vs) ∧ w.grownBy (putV w b o vs) (some b) := heap_setV b T vs o w cs h hl
theorem wpList_load_v {ops : Array Oper} {rest : List Oper} {op : Oper} {a : Act} {w : World} {Q : Exit → Act → World → Prop} (hgd : op.guard = none) (T : TypeId) (x : Operand) (ho : op.op = .load T x)
    (b o n : Nat) (hx : a.eval x = .pointer (some ⟨b, o, none⟩)) (TB : TypeId) (cs : List Value) (h : BlkV w b TB cs) (d : TypeDesc) (hu : Tryz.prog.underlying T = some d) (hd : d.isRow = true) (hi : (Tryz.prog.info? T).map (·.size) = some n) (hn : o + n ≤ cs.length) (vs : List Value) (hvs : (cs.drop o).take n = vs)
    (k : wpList Tryz.prog ops Q rest (a.put op.dst (.agg vs.toArray)) w) : wpList Tryz.prog ops Q (op :: rest) a w := by
  subst hvs
  exact wpList_load_mid hgd T x ho b o hx _ d (h.range o n) hu hd (by rw [hi]; simp; omega) k
theorem yields_load_v {w : World} {b o n : Nat} {T TB : TypeId} {cs : List Value} {a : Act} {op : Oper} {x : Operand} (ho : op.op = .load T x) (hx : a.eval x = .pointer (some ⟨b, o, none⟩)) (h : BlkV w b TB cs) (d : TypeDesc) (hu : Tryz.prog.underlying T = some d) (hd : d.isRow = true) (hi : (Tryz.prog.info? T).map (·.size) = some n) (hn : o + n ≤ cs.length) (vs : List Value) (hvs : (cs.drop o).take n = vs) :
    (execOp a.eval op).run Tryz.prog w = .ok (.value (.agg vs.toArray)) w := by
  subst hvs
  have := run_loadAt_mid (P := Tryz.prog) w b o T _ d (h.range o n) hu hd (by rw [hi]; simp; omega)
  unfold execOp
  simp [ho, hx, this]
theorem loadVar_v {w : World} {b : Nat} {T : TypeId} {cs : List Value} (h : BlkV w b T cs) (d : TypeDesc) (hu : Tryz.prog.underlying T = some d) (hd : d.isRow = true) (hi : (Tryz.prog.info? T).map (·.size) = some cs.length) :
    Sem.run Tryz.prog (loadVar T ⟨b, 0, none⟩) w = .ok (.agg cs.toArray) w := by
  have := run_loadVar_mid (P := Tryz.prog) w b 0 T ((cs.drop 0).take cs.length) d (h.range 0 cs.length) hu hd (by rw [hi]; simp)
  simpa using this
theorem ones_v {vs : List Value} (h : ∀ v ∈ vs, v.oneCell' = true) : vs.toArray.all (·.oneCell') = true := all_oneCell_toArray h
theorem wpList_store_v {ops : Array Oper} {rest : List Oper} {op : Oper} {a : Act} {w : World} {Q : Exit → Act → World → Prop} (hgd : op.guard = none) (T : TypeId) (x y : Operand) (ho : op.op = .store T x y)
    (b o : Nat) (TB : TypeId) (cs vs : List Value) (hx : a.eval x = .pointer (some ⟨b, o, none⟩)) (hy : a.eval y = .agg vs.toArray) (h : BlkV w b TB cs) (hl : o + vs.length ≤ cs.length) (hi : (Tryz.prog.info? T).map (·.size) = some vs.length) (h1 : ∀ v ∈ vs, v.oneCell' = true)
    (k : wpList Tryz.prog ops Q rest (a.put op.dst undef) (putV w b o vs)) : wpList Tryz.prog ops Q (op :: rest) a w :=
  wpList_store_mid hgd T x y ho b o vs.toArray hx hy (by simpa using h.there o vs.length hl) (by simpa using hi) (ones_v h1) (by simpa [putV] using k)
theorem step_store_v {y : Nat → Option Bool} {op : Oper} {a : Act} {w : World} {K : Act → World → Prop} {Q : Exit → Act → World → Prop} {E : Prop} (hg : op.guard = none) (T : TypeId) (x z : Operand) (ho : op.op = .store T x z)
    (b o : Nat) (TB : TypeId) (cs vs : List Value) (hx : a.eval x = .pointer (some ⟨b, o, none⟩)) (hy : a.eval z = .agg vs.toArray) (h : BlkV w b TB cs) (hl : o + vs.length ≤ cs.length) (hi : (Tryz.prog.info? T).map (·.size) = some vs.length) (h1 : ∀ v ∈ vs, v.oneCell' = true)
    (k : K (a.put op.dst undef) (putV w b o vs)) : if Region.wanted op y = true then Oper.wp Tryz.prog op a w K Q else E := by
  have hw : Region.wanted op y = true := by simp [Region.wanted, hg]
  rw [if_pos hw]
  exact wp_store_mid T x z ho b o vs.toArray hx hy (by simpa using h.there o vs.length hl) (by simpa using hi) (ones_v h1) (by simpa [putV] using k)
def intsV (l : List Int) : List Value := l.map (Value.int .i64)
theorem intsV_arr (l : List Int) : (intsV l).toArray = arrI l := rfl
theorem intsV_one (l : List Int) : ∀ v ∈ intsV l, v.oneCell' = true := by
  intro v hv
  obtain ⟨x, _, rfl⟩ := List.mem_map.1 hv
  rfl
theorem intsV_len (l : List Int) : (intsV l).length = l.length := by simp [intsV]
def prt (l : List Int) (o n : Nat) : List Int := tab n (fun i => nth l (o + i))
theorem prt_len (l : List Int) (o n : Nat) : (prt l o n).length = n := tab_len _ _
theorem prt_nth (l : List Int) (o n i : Nat) (h : i < n) : nth (prt l o n) i = nth l (o + i) := tab_nth _ _ _ h
theorem prt_eq (l : List Int) (o n : Nat) (h : o + n ≤ l.length) : (l.drop o).take n = prt l o n := by
  refine tab_ext (by simp; omega) (fun i hi => ?_)
  simp [nth, List.getD, List.getElem?_take, List.getElem?_drop, hi]
def ovr (l : List Int) (o : Nat) (M : List Int) : List Int := tab l.length (fun i => if o ≤ i ∧ i < o + M.length then nth M (i - o) else nth l i)
theorem ovr_len (l : List Int) (o : Nat) (M : List Int) : (ovr l o M).length = l.length := tab_len _ _
theorem ovr_nth (l : List Int) (o : Nat) (M : List Int) (i : Nat) (h : i < l.length) : nth (ovr l o M) i = if o ≤ i ∧ i < o + M.length then nth M (i - o) else nth l i := tab_nth _ _ _ h
theorem ovr_eq (l : List Int) (o : Nat) (M : List Int) (h : o + M.length ≤ l.length) : l.take o ++ M ++ l.drop (o + M.length) = ovr l o M := by
  refine tab_ext (by simp; omega) (fun i hi => ?_)
  unfold nth List.getD
  by_cases h1 : i < o
  · rw [if_neg (by omega), List.getElem?_append_left (by simp; omega), List.getElem?_append_left (by simp; omega), List.getElem?_take, if_pos h1]
  · by_cases h2 : i < o + M.length
    · rw [if_pos (by omega), List.getElem?_append_left (by simp; omega), List.getElem?_append_right (by simp; omega)]
      congr 2
      simp; omega
    · rw [if_neg (by omega), List.getElem?_append_right (by simp; omega), List.getElem?_drop]
      congr 2
      simp; omega
def mixC (l : List Int) (z : List Value) : List Value := intsV l ++ z
theorem mixC_len (l : List Int) (z : List Value) : (mixC l z).length = l.length + z.length := by simp [mixC, intsV]
theorem mixC_get (l : List Int) (z : List Value) (i : Nat) (h : i < l.length) : (mixC l z)[i]? = some (.int .i64 (nth l i)) := by
  unfold mixC
  rw [List.getElem?_append_left (by rw [intsV_len]; exact h)]
  simp [intsV, nth, List.getD, h]
theorem mixC_set (l : List Int) (z : List Value) (i : Nat) (x : Int) (h : i < l.length) : (mixC l z).set i (.int .i64 x) = mixC (l.set i x) z := by
  unfold mixC intsV
  rw [List.set_append_left _ _ (by simpa using h), List.map_set]
theorem mixC_part (l : List Int) (z : List Value) (o n : Nat) (h : o + n ≤ l.length) : ((mixC l z).drop o).take n = intsV (prt l o n) := by
  rw [← prt_eq l o n h]
  unfold mixC intsV
  rw [List.drop_append_of_le_length (by simp; omega), List.take_append_of_le_length (by simp; omega), ← List.map_drop, ← List.map_take]
theorem mixC_spl (l : List Int) (z : List Value) (o : Nat) (M : List Int) (h : o + M.length ≤ l.length) : splV (mixC l z) o (intsV M) = mixC (ovr l o M) z := by
  rw [← ovr_eq l o M h]
  unfold splV mixC
  rw [intsV_len, List.take_append_of_le_length (by rw [intsV_len]; omega), List.drop_append_of_le_length (by rw [intsV_len]; exact h)]
  simp [intsV, List.map_take, List.map_drop]
theorem mixC_one (l : List Int) (z : List Value) (h : ∀ v ∈ z, v.oneCell' = true) : ∀ v ∈ mixC l z, v.oneCell' = true := by
  intro v hv
  rcases List.mem_append.1 hv with q | q
  · exact intsV_one l v q
  · exact h v q
theorem BlkV.ints {w : World} {b : Nat} {T : TypeId} {l : List Int} {z : List Value} (h : BlkV w b T (mixC l z)) (o n c : Nat) (hn : o + n ≤ l.length) (hc : n ≤ c) : Ints w (.slice (some ⟨b, o, none⟩) n c) (prt l o n) := by
  refine ⟨some ⟨b, o, none⟩, c, by rw [prt_len], by rw [prt_len]; exact hc, fun _ => ⟨_, rfl, fun i hi => ?_⟩⟩
  rw [prt_len] at hi
  rw [Addr.add_mid, h.cell, mixC_get _ _ _ (by omega), prt_nth _ _ _ _ hi]
end Go.Proofs.YtjepkgdejkifcaaGreatDoor

/- DualMath -/
namespace Go.Proofs.YtjepkgdejkifcaaGreatDoor

end Go.Proofs.YtjepkgdejkifcaaGreatDoor

/- PowMath -/
namespace Go.Proofs.YtjepkgdejkifcaaGreatDoor
open Go.RowKit
def gro : List Int := [444758425, 203159592, 97181937, 47538611, 23511884, 11692281, 5830311, 2911209, 1454619, 727063, 363470, 181719, 90856, 45427, 22713]
def groAt (k : Nat) : Int := gro.getD k 0
def powUp (y r : Int) : Int := y + y * r / 1073741824
def powBit (f : Int) (k : Nat) : Int := f / 2 ^ (14 - k) % 2
def pw (f : Int) : Nat → Int
  | 0 => 1073741824
  | k + 1 => if powBit f k = 1 then powUp (pw f k) (groAt k) else pw f k
def topR : List Int → Int → Int
  | [], y => y
  | r :: l, y => topR l (powUp y r)
theorem powUp_ge (y r : Int) (hy : 0 ≤ y) (hr : 0 ≤ r) : y ≤ powUp y r := by
  unfold powUp
  have := Int.ediv_nonneg (Int.mul_nonneg hy hr) (b := 1073741824) (by decide)
  omega
theorem powUp_mono (y z r : Int) (h : y ≤ z) (hr : 0 ≤ r) : powUp y r ≤ powUp z r := by
  unfold powUp
  have := Int.ediv_le_ediv (c := 1073741824) (by decide) (Int.mul_le_mul_of_nonneg_right h hr)
  omega
theorem topR_ge : ∀ (l : List Int) (y : Int), (∀ r ∈ l, 0 ≤ r) → 0 ≤ y → y ≤ topR l y
  | [], _, _, _ => Int.le_refl _
  | r :: l, y, h, hy => by
    have h0 := powUp_ge y r hy (h r (List.mem_cons_self ..))
    exact Int.le_trans h0 (topR_ge l _ (fun x hx => h x (List.mem_cons_of_mem _ hx)) (by omega))
theorem topR_mono : ∀ (l : List Int) (y z : Int), (∀ r ∈ l, 0 ≤ r) → y ≤ z → topR l y ≤ topR l z
  | [], _, _, _, h => h
  | r :: l, y, z, h, hy => topR_mono l _ _ (fun x hx => h x (List.mem_cons_of_mem _ hx)) (powUp_mono y z r hy (h r (List.mem_cons_self ..)))
theorem gro_nn : ∀ r ∈ gro, 0 ≤ r := by decide
theorem gro_drop (k : Nat) : ∀ r ∈ gro.drop k, 0 ≤ r := fun r h => gro_nn r (List.mem_of_mem_drop h)
theorem gro_cons (k : Nat) (h : k < 15) : gro.drop k = groAt k :: gro.drop (k + 1) := by
  rw [List.drop_eq_getElem_cons (show k < gro.length from h)]
  unfold groAt
  have e : gro[k]? = some (gro[k]'(show k < gro.length from h)) := List.getElem?_eq_getElem _
  rw [List.getD_eq_getElem?_getD, e]
  rfl
theorem groAt_nn (k : Nat) (h : k < 15) : 0 ≤ groAt k := gro_drop k _ (by rw [gro_cons k h]; exact List.mem_cons_self ..)
theorem pw_bd (f : Int) : ∀ k, k ≤ 15 → 1073741824 ≤ pw f k ∧ topR (gro.drop k) (pw f k) ≤ topR gro 1073741824
  | 0, _ => ⟨by show (1073741824 : Int) ≤ 1073741824; omega, Int.le_refl _⟩
  | k + 1, hk => by
    obtain ⟨h1, h2⟩ := pw_bd f k (by omega)
    have hr := groAt_nn k (by omega)
    have up := powUp_ge (pw f k) (groAt k) (by omega) hr
    rw [gro_cons k (by omega)] at h2
    have h3 : topR (gro.drop (k + 1)) (powUp (pw f k) (groAt k)) ≤ topR gro 1073741824 := h2
    unfold pw
    split
    · exact ⟨by omega, h3⟩
    · exact ⟨h1, Int.le_trans (topR_mono _ _ _ (gro_drop _) up) h3⟩
theorem pw_most (f : Int) (k : Nat) (hk : k ≤ 15) : 1073741824 ≤ pw f k ∧ pw f k ≤ 2147438200 := by
  obtain ⟨h1, h2⟩ := pw_bd f k hk
  have h3 := topR_ge (gro.drop k) (pw f k) (gro_drop _) (by omega)
  have h4 : topR gro 1073741824 = 2147438200 := by decide
  omega
def powN (n : Nat) (f : Int) : Int := pw f 15 / 2 ^ (30 - n)
theorem powN_ge (n : Nat) (f : Int) (hn : n ≤ 30) : (2 : Int) ^ n ≤ powN n f ∧ powN n f < 2 ^ (n + 1) ∧ powN n f ≤ 2147438200 := by
  obtain ⟨h1, h2⟩ := pw_most f 15 (Nat.le_refl _)
  have hp : (0 : Int) < 2 ^ (30 - n) := Int.pow_pos (by decide)
  have e : (2 : Int) ^ n * 2 ^ (30 - n) = 1073741824 := by rw [← Int.pow_add, show n + (30 - n) = 30 by omega]; decide
  have e' : (2 : Int) ^ (n + 1) * 2 ^ (30 - n) = 2147483648 := by rw [Int.pow_succ, Int.mul_right_comm, e]; decide
  unfold powN
  refine ⟨(Int.le_ediv_iff_mul_le hp).2 (by omega), Int.ediv_lt_of_lt_mul hp (by omega), ?_⟩
  exact Int.le_trans (Int.ediv_le_self _ (by omega)) h2
end Go.Proofs.YtjepkgdejkifcaaGreatDoor

/- GainMath -/
namespace Go.Proofs.YtjepkgdejkifcaaGreatDoor
open Go.RowKit
set_option linter.unusedVariables false
def gsz : List Int := [8, 10, 13, 17, 22, 29, 38, 49, 64, 82, 107, 139, 181, 234, 304, 394, 512, 663, 861, 1116, 1448, 1878, 2435, 3158, 4096, 5311, 6888, 8933, 11585, 15024, 19483, 25267]
def gszN (n : Nat) : Int := gsz.getD n 0
theorem gsz_pow32 : ∀ n : Fin 32, powN (3 + 3 * n.val / 8) (((3 * n.val % 8 * 4096 : Nat)) : Int) = gszN n.val := by decide +kernel
theorem gsz_pow (n : Nat) (h : n < 32) : powN (3 + 3 * n / 8) (((3 * n % 8 * 4096 : Nat)) : Int) = gszN n := gsz_pow32 ⟨n, h⟩
theorem gszN_bd (n : Nat) : 0 ≤ gszN n ∧ gszN n ≤ 25267 := by
  by_cases h : n < 32
  · have : ∀ n : Fin 32, 0 ≤ gszN n.val ∧ gszN n.val ≤ 25267 := by decide +kernel
    exact this ⟨n, h⟩
  · unfold gszN
    rw [List.getD_eq_getElem?_getD, List.getElem?_eq_none (show gsz.length ≤ n from by show 32 ≤ n; omega)]
    exact ⟨Int.le_refl _, by show (0 : Int) ≤ 25267; omega⟩
def glV (n : Int) : Int := if 0 ≤ n ∧ n ≤ 31 then gszN n.toNat else 0
def glE (n : Int) : Int := if 0 ≤ n ∧ n ≤ 31 then 0 else 2
theorem glV_nat (n : Nat) (h : n ≤ 31) : glV n = gszN n ∧ glE n = 0 := by
  have hh : 0 ≤ (n : Int) ∧ (n : Int) ≤ 31 := by omega
  exact ⟨by rw [show glV n = gszN (n : Int).toNat from if_pos hh, Int.toNat_natCast], if_pos hh⟩
theorem glV0 : glV 0 = 8 ∧ glE 0 = 0 := ⟨rfl, rfl⟩
def goN (c e : Int) : Nat → Nat
  | 0 => 0
  | n + 1 => if (gszN (n + 1) + gszN n) * e < 2 * c then n + 1 else goN c e n
def capC (x : Int) : Int := if 1152921504606846976 < x then 1152921504606846976 else x
def capE (x : Int) : Int := if 17592186044416 < x then 17592186044416 else x
def goV (c e : Int) : Int := if c ≤ 0 ∨ e ≤ 0 then 0 else (goN (capC c) (capE e) 31 : Int)
theorem capC_bd (x : Int) (h : 0 < x) : 0 < capC x ∧ capC x ≤ 1152921504606846976 := by unfold capC; split <;> omega
theorem capE_bd (x : Int) (h : 0 < x) : 0 < capE x ∧ capE x ≤ 17592186044416 := by unfold capE; split <;> omega
theorem goN_le (c e : Int) : ∀ n, goN c e n ≤ n
  | 0 => Nat.le_refl _
  | n + 1 => by
    have := goN_le c e n
    unfold goN
    split <;> omega
theorem goN_yes (c e : Int) (m : Nat) (h : (gszN (m + 1) + gszN m) * e < 2 * c) : goN c e (m + 1) = m + 1 := if_pos h
theorem goN_no (c e : Int) (m : Nat) (h : ¬ (gszN (m + 1) + gszN m) * e < 2 * c) : goN c e (m + 1) = goN c e m := if_neg h
def noS (s : Int) : Int := (s * 31821 + 13849) % 65536
def noZ (x : Int) : Int := if x < 0 then 0 else if 32767 < x then 32767 else x
def noX (s x : Int) : Int := (noS s - 32768) * noZ x / 32768
theorem noS_bd (s : Int) : 0 ≤ noS s ∧ noS s < 65536 := by unfold noS; omega
theorem noZ_bd (x : Int) : 0 ≤ noZ x ∧ noZ x ≤ 32767 := by unfold noZ; split <;> (try split) <;> omega
theorem noP_bd (s x : Int) : -1073709056 ≤ (noS s - 32768) * noZ x ∧ (noS s - 32768) * noZ x ≤ 1073676289 := by
  obtain ⟨a1, a2⟩ := noS_bd s
  obtain ⟨b1, b2⟩ := noZ_bd x
  generalize noZ x = z at *
  generalize noS s = t at *
  have p1 : 0 ≤ (t - 0) * z := Int.mul_nonneg (by omega) b1
  have p2 : 0 ≤ (65535 - t) * z := Int.mul_nonneg (by omega) b1
  rw [Int.sub_mul] at p1 p2 ⊢
  omega
theorem noX_bd (s x : Int) : -noZ x ≤ noX s x ∧ noX s x ≤ noZ x := by
  obtain ⟨a1, a2⟩ := noS_bd s
  obtain ⟨b1, b2⟩ := noZ_bd x
  unfold noX
  generalize noZ x = z at *
  generalize noS s = t at *
  have p1 : 0 ≤ (t - 0) * z := Int.mul_nonneg (by omega) b1
  have p2 : 0 ≤ (65535 - t) * z := Int.mul_nonneg (by omega) b1
  rw [Int.sub_mul] at p1 p2 ⊢
  omega
theorem wrap_and16 (x y : Int) (h : x % 65536 = y % 65536) : bits .and .i64 x 65535 = y % 65536 := by
  show IntKind.i64.wrap ((BitVec.ofInt 64 x &&& BitVec.ofInt 64 65535).toNat : Int) = _
  rw [BitVec.toNat_and, BitVec.toNat_ofInt, show (BitVec.ofInt 64 65535).toNat = 2 ^ 16 - 1 by decide, Nat.and_two_pow_sub_one_eq_mod]
  have e : (((x % ((2 ^ 64 : Nat) : Int)).toNat % 2 ^ 16 : Nat) : Int) = y % 65536 := by omega
  rw [e]
  have b0 : 0 ≤ y % 65536 := by omega
  have b1 : y % 65536 < 65536 := by omega
  generalize y % 65536 = n at *
  have e : n % 2 ^ 64 = n := Int.emod_eq_of_lt (by omega) (by omega)
  simp only [IntKind.wrap, IntKind.bits, IntKind.signed, e]
  rw [if_neg (by simp; omega)]
end Go.Proofs.YtjepkgdejkifcaaGreatDoor

/- SynthMath -/
namespace Go.Proofs.YtjepkgdejkifcaaGreatDoor
open Go.RowKit
set_option linter.unusedVariables false
set_option linter.unusedSimpArgs false
theorem nth_appL (l m : List Int) (i : Nat) (h : i < l.length) : nth (l ++ m) i = nth l i := by simp [nth, List.getD, List.getElem?_append, h]
theorem nth_appR (l m : List Int) (i : Nat) (h : l.length ≤ i) : nth (l ++ m) i = nth m (i - l.length) := by simp [nth, List.getD, List.getElem?_append, show ¬ i < l.length by omega]
theorem nth_rev (l : List Int) (i : Nat) (h : i < l.length) : nth l.reverse i = nth l (l.length - 1 - i) := by
  simp [nth, List.getD, List.getElem?_reverse h]
theorem nth_take (l : List Int) (n i : Nat) (h : i < n) : nth (l.take n) i = nth l i := by simp [nth, List.getD, List.getElem?_take, h]
theorem nth_drop (l : List Int) (n i : Nat) : nth (l.drop n) i = nth l (n + i) := by simp [nth, List.getD, List.getElem?_drop]
theorem nth_set_ne (l : List Int) (k : Nat) (z : Int) (j : Nat) (h : k ≠ j) : nth (l.set k z) j = nth l j := by simp [nth, List.getD, List.getElem?_set, h]
theorem nth_set_eq (l : List Int) (k : Nat) (z : Int) (h : k < l.length) : nth (l.set k z) k = z := by simp [nth, List.getD, List.getElem?_set, h]
def hist (p l : List Int) : List Int := l.reverse ++ p
theorem hist_lt (p l : List Int) (i : Nat) (h : i < l.length) : nth (hist p l) i = nth l (l.length - 1 - i) := by
  unfold hist
  rw [nth_appL _ _ _ (by simpa using h), nth_rev _ _ h]
theorem hist_ge (p l : List Int) (i : Nat) (h : l.length ≤ i) : nth (hist p l) i = nth p (i - l.length) := by
  unfold hist
  rw [nth_appR _ _ _ (by simpa using h), List.length_reverse]
def newL (p l : List Int) : List Int := tab 8 (fun i => nth (hist p l) i)
theorem newL_len (p l : List Int) : (newL p l).length = 8 := tab_len _ _
theorem newL_nth (p l : List Int) (i : Nat) (h : i < 8) : nth (newL p l) i = nth (hist p l) i := tab_nth _ _ _ h
theorem newL_nil (p : List Int) (hp : p.length = 8) : newL p [] = p := (tab_ext hp (fun i hi => by unfold hist; simp)).symm
def gsum (a h : List Int) : Nat → Int
  | 0 => 2048
  | i + 1 => gsum a h i + nth a (i + 1) * nth h i
def gs (a h : List Int) : Int := gsum a h 8 / 4096
theorem gsum_congr (a h h' : List Int) : ∀ n, (∀ i, i < n → nth h i = nth h' i) → gsum a h n = gsum a h' n
  | 0, _ => rfl
  | n + 1, e => by
    show gsum a h n + nth a (n + 1) * nth h n = gsum a h' n + nth a (n + 1) * nth h' n
    rw [gsum_congr a h h' n (fun i hi => e i (by omega)), e n (by omega)]
theorem gs_congr (a h h' : List Int) (e : ∀ i, i < 8 → nth h i = nth h' i) : gs a h = gs a h' := by unfold gs; rw [gsum_congr a h h' 8 e]
def wide20 (a : List Int) : Bool := a.all fun x => decide (-1048576 ≤ x) && decide (x ≤ 1048576)
theorem wide20_iff (l : List Int) : wide20 l = true ↔ ∀ i, i < l.length → -1048576 ≤ nth l i ∧ nth l i ≤ 1048576 := by
  unfold wide20
  rw [List.all_eq_true]
  constructor
  · intro h i hi
    have := h l[i] (List.getElem_mem hi)
    simp only [Bool.and_eq_true, decide_eq_true_eq] at this
    simpa [nth, List.getD, hi] using this
  · intro h x hx
    obtain ⟨i, hi, rfl⟩ := List.getElem_of_mem hx
    have := h i hi
    simp only [nth, List.getD, List.getElem?_eq_getElem hi, Option.getD_some] at this
    simp [this]
theorem nth_in (l : List Int) (lo hi : Int) (h0 : lo ≤ 0) (h1 : 0 ≤ hi) (h : ∀ i, i < l.length → lo ≤ nth l i ∧ nth l i ≤ hi) (i : Nat) : lo ≤ nth l i ∧ nth l i ≤ hi := by
  by_cases hi' : i < l.length
  · exact h i hi'
  · rw [getD_out l i (by omega)]; omega
theorem prd20_bd (x y : Int) (h1 : -1048576 ≤ x) (h2 : x ≤ 1048576) (h3 : -32768 ≤ y) (h4 : y ≤ 32767) : -34359738368 ≤ x * y ∧ x * y ≤ 34359738368 := by
  have e1 : 0 ≤ (1048576 - x) * (y + 32768) := Int.mul_nonneg (by omega) (by omega)
  have e2 : 0 ≤ (x + 1048576) * (32767 - y) := Int.mul_nonneg (by omega) (by omega)
  have e3 : 0 ≤ (x + 1048576) * (y + 32768) := Int.mul_nonneg (by omega) (by omega)
  have e4 : 0 ≤ (1048576 - x) * (32767 - y) := Int.mul_nonneg (by omega) (by omega)
  simp only [Int.sub_mul, Int.add_mul, Int.mul_add, Int.mul_sub] at e1 e2 e3 e4
  omega
theorem gsum_bd (a h : List Int) (ha : ∀ i, -1048576 ≤ nth a i ∧ nth a i ≤ 1048576) (hh : ∀ i, -32768 ≤ nth h i ∧ nth h i ≤ 32767) : ∀ n : Nat, 2048 - 34359738368 * (n : Int) ≤ gsum a h n ∧ gsum a h n ≤ 2048 + 34359738368 * (n : Int)
  | 0 => by show (2048 : Int) - 34359738368 * ((0 : Nat) : Int) ≤ 2048 ∧ (2048 : Int) ≤ 2048 + 34359738368 * ((0 : Nat) : Int); omega
  | n + 1 => by
    have i1 := gsum_bd a h ha hh n
    have i2 := prd20_bd _ _ (ha (n + 1)).1 (ha (n + 1)).2 (hh n).1 (hh n).2
    show _ ≤ gsum a h n + nth a (n + 1) * nth h n ∧ gsum a h n + nth a (n + 1) * nth h n ≤ _
    omega
theorem gs_bd (a h : List Int) (ha : ∀ i, -1048576 ≤ nth a i ∧ nth a i ≤ 1048576) (hh : ∀ i, -32768 ≤ nth h i ∧ nth h i ≤ 32767) : -67108864 ≤ gs a h ∧ gs a h ≤ 67108865 := by
  have := gsum_bd a h ha hh 8
  unfold gs
  omega
def okF (a p l : List Int) : Bool := wide20 a && decide (nth a 0 = 4096) && rightB p && rightB l
def mkN (a p l : List Int) : Nat → List Int
  | 0 => []
  | n + 1 => mkN a p l n ++ [c16 (nth l n - gs a (hist p (mkN a p l n)))]
theorem mkN_len (a p l : List Int) : ∀ n, (mkN a p l n).length = n
  | 0 => rfl
  | n + 1 => by show (mkN a p l n ++ [_]).length = _; rw [List.length_append, mkN_len a p l n]; rfl
theorem snoc_right (l : List Int) (z : Int) (h : rightB l = true) (hz : -32768 ≤ z ∧ z ≤ 32767) : rightB (l ++ [z]) = true := by
  rw [rightB_iff] at h ⊢
  intro i hi
  by_cases hl : i < l.length
  · rw [nth_appL _ _ _ hl]; exact h i hl
  · have : i = l.length := by simp at hi; omega
    subst this
    rw [nth_appR _ _ _ (Nat.le_refl _), Nat.sub_self]
    exact hz
theorem mkN_right (a p l : List Int) : ∀ n, rightB (mkN a p l n) = true
  | 0 => rfl
  | n + 1 => snoc_right _ _ (mkN_right a p l n) (c16_bd _)
theorem hist_right (p l : List Int) (hp : rightB p = true) (hl : rightB l = true) (i : Nat) : -32768 ≤ nth (hist p l) i ∧ nth (hist p l) i ≤ 32767 := by
  have h : rightB (hist p l) = true := by
    unfold rightB hist at *
    rw [List.all_eq_true] at *
    intro x hx
    rcases List.mem_append.1 hx with h | h
    · exact hl x (List.mem_reverse.1 h)
    · exact hp x h
  exact nth_in _ _ _ (by omega) (by omega) ((rightB_iff _).1 h) i
theorem newL_right (p l : List Int) (hp : rightB p = true) (hl : rightB l = true) : rightB (newL p l) = true := by
  rw [rightB_iff, newL_len]
  intro i hi
  rw [newL_nth _ _ _ hi]
  exact hist_right p l hp hl i
theorem newL_snoc (p l : List Int) (s : Int) (i : Nat) (h : i < 8) : nth (newL p (l ++ [s])) i = if i = 0 then s else nth (newL p l) (i - 1) := by
  rw [newL_nth _ _ _ h]
  by_cases h0 : i = 0
  · subst h0
    rw [if_pos rfl, hist_lt _ _ _ (by simp)]
    rw [nth_appR _ _ _ (by simp)]
    simp [nth]
  · rw [if_neg h0, newL_nth _ _ _ (by omega)]
    by_cases hl : i - 1 < l.length
    · rw [hist_lt _ _ _ (by simp; omega), hist_lt _ _ _ hl]
      rw [nth_appL _ _ _ (by simp; omega)]
      congr 1
      simp
      omega
    · rw [hist_ge _ _ _ (by simp; omega), hist_ge _ _ _ (by omega)]
      congr 1
      simp
      omega
theorem gs_newL (a p l : List Int) : gs a (newL p l) = gs a (hist p l) := gs_congr _ _ _ (fun i hi => newL_nth p l i hi)
def mkL (a p l : List Int) : List Int := if okF a p l = true then mkN a p l l.length else []
def mkP (a p l : List Int) : List Int := if okF a p l = true then newL p (mkN a p l l.length) else zeros 8
def fiE (a p l : List Int) : Int := if okF a p l = true then 0 else 2
theorem mkL_len (a p l : List Int) (h : okF a p l = true) : (mkL a p l).length = l.length := by unfold mkL; rw [if_pos h, mkN_len]
theorem mkP_len (a p l : List Int) : (mkP a p l).length = 8 := by unfold mkP; split; exact newL_len _ _; exact zeros_len 8
theorem mkL_le (a p l : List Int) : (mkL a p l).length ≤ l.length := by unfold mkL; split; rw [mkN_len]; exact Nat.le_refl _; exact Nat.zero_le _
theorem mkN_pre (a p l : List Int) (n : Nat) : ∀ d, (mkN a p l (n + d)).take n = mkN a p l n
  | 0 => by rw [Nat.add_zero, List.take_of_length_le (by rw [mkN_len]; exact Nat.le_refl _)]
  | d + 1 => by
    show (mkN a p l (n + d) ++ [_]).take n = _
    rw [List.take_append_of_le_length (by rw [mkN_len]; omega)]
    exact mkN_pre a p l n d
theorem mkN_nth (a p l : List Int) (n d : Nat) : nth (mkN a p l (n + 1 + d)) n = c16 (nth l n - gs a (hist p (mkN a p l n))) := by
  have h := mkN_pre a p l (n + 1) d
  rw [← nth_take _ (n + 1) n (by omega), h]
  show nth (mkN a p l n ++ [_]) n = _
  rw [nth_appR _ _ _ (by rw [mkN_len]; exact Nat.le_refl _), mkN_len, Nat.sub_self]
  rfl
def sumT (f : Nat → Int) : Nat → Int
  | 0 => 0
  | n + 1 => sumT f n + f n
theorem sumT_congr (f g : Nat → Int) : ∀ n, (∀ i, i < n → f i = g i) → sumT f n = sumT g n
  | 0, _ => rfl
  | n + 1, e => by show sumT f n + f n = sumT g n + g n; rw [sumT_congr f g n (fun i hi => e i (by omega)), e n (by omega)]
theorem sumT_front (f : Nat → Int) : ∀ n, sumT f (n + 1) = f 0 + sumT (fun i => f (i + 1)) n
  | 0 => by show 0 + f 0 = f 0 + 0; omega
  | n + 1 => by
    show sumT f (n + 1) + f (n + 1) = f 0 + (sumT (fun i => f (i + 1)) n + f (n + 1))
    rw [sumT_front f n]; omega
def foS (r l : List Int) (n : Nat) : Int := sumT (fun i => nth r i * nth l (n - i)) (n + 1)
def foV (r l : List Int) (n : Nat) : Int := c16 ((foS r l n + 2048) / 4096)
def oneL (n : Nat) : List Int := tab n (fun i => if i = 0 then 4096 else 0)
theorem p16_bd (x y : Int) (h1 : -32768 ≤ x) (h2 : x ≤ 32767) (h3 : -32768 ≤ y) (h4 : y ≤ 32767) : -1073741824 ≤ x * y ∧ x * y ≤ 1073741824 := by
  have := mul16_bd x y h1 h2 h3 h4
  omega
theorem sumT_bd (f : Nat → Int) (h : ∀ i, -1073741824 ≤ f i ∧ f i ≤ 1073741824) : ∀ n : Nat, -1073741824 * (n : Int) ≤ sumT f n ∧ sumT f n ≤ 1073741824 * (n : Int)
  | 0 => by show -1073741824 * ((0 : Nat) : Int) ≤ 0 ∧ (0 : Int) ≤ 1073741824 * ((0 : Nat) : Int); omega
  | n + 1 => by
    have := sumT_bd f h n
    have := h n
    show _ ≤ sumT f n + f n ∧ sumT f n + f n ≤ _
    omega
def okO (r l : List Int) : Bool := rightB r && rightB l
def sizeO (r l : List Int) : Bool := decide (r.length = l.length) && decide (l.length ≤ 80)
def foL (r l : List Int) : List Int := if sizeO r l = true ∧ okO r l = true then tab l.length (foV r l) else []
def foE (r l : List Int) : Int := if sizeO r l = true then (if okO r l = true then 0 else 2) else 1
def rgL (a : List Int) (n : Int) : List Int := if 0 ≤ n ∧ n ≤ 80 then mkL a (zeros 8) (oneL n.toNat) else []
def rgE (a : List Int) (n : Int) : Int := if 0 ≤ n ∧ n ≤ 80 then fiE a (zeros 8) (oneL n.toNat) else 1
end Go.Proofs.YtjepkgdejkifcaaGreatDoor

/- Btr -/
namespace Go.Proofs.YtjepkgdejkifcaaGreatDoor
open Go.RowKit
def pos0 (x : Int) : Int := if x < 0 then 0 else x
def btr (c e d f : Int) : Bool :=
  if e ≤ 0 then false else if f ≤ 0 then true else decide (pos0 d * pos0 d * e < pos0 c * pos0 c * f)
theorem btr_pos (c e d f : Int) (h : btr c e d f = true) : 0 < e := by
  unfold btr at h
  by_cases he : e ≤ 0
  · rw [if_pos he] at h; cases h
  · omega
end Go.Proofs.YtjepkgdejkifcaaGreatDoor

/- PitchMath -/
namespace Go.Proofs.YtjepkgdejkifcaaGreatDoor
open Go.RowKit
set_option linter.unusedVariables false
set_option linter.unusedSimpArgs false
def pasN (h : List Int) (lag i : Nat) : Int := nth h (80 - lag + i % lag)
def pasV (h : List Int) (lag : Nat) : List Int := tab 40 (pasN h lag)
def pasL (h : List Int) (lag : Int) : List Int := if 20 ≤ lag ∧ lag ≤ 79 then pasV h lag.toNat else []
def pasE (lag : Int) : Int := if 20 ≤ lag ∧ lag ≤ 79 then 0 else 2
theorem pasV_len (h : List Int) (lag : Nat) : (pasV h lag).length = 40 := tab_len _ _
theorem pasL_yes (h : List Int) (lag : Nat) (h1 : 20 ≤ lag) (h2 : lag ≤ 79) : pasL h lag = pasV h lag ∧ pasE lag = 0 :=
  ⟨by unfold pasL; rw [if_pos (by omega)]; rfl, by unfold pasE; rw [if_pos (by omega)]⟩
theorem pasV_right (h : List Int) (lag : Nat) (hr : rightB h = true) : rightB (pasV h lag) = true := by
  rw [rightB_iff, pasV_len]
  intro i hi
  unfold pasV
  rw [tab_nth _ _ _ hi]
  exact nth_in _ _ _ (by omega) (by omega) ((rightB_iff h).1 hr) _
def dotS (a b : List Int) (n : Nat) : Int := sumT (fun i => nth a i * nth b i) n
theorem dotS_bd (a b : List Int) (ha : rightB a = true) (hb : rightB b = true) (n : Nat) : -1073741824 * (n : Int) ≤ dotS a b n ∧ dotS a b n ≤ 1073741824 * (n : Int) :=
  sumT_bd _ (fun i => by
    have h1 := nth_in _ _ _ (by omega) (by omega) ((rightB_iff a).1 ha) i
    have h2 := nth_in _ _ _ (by omega) (by omega) ((rightB_iff b).1 hb) i
    exact p16_bd _ _ h1.1 h1.2 h2.1 h2.2) n
theorem sqr_nonneg (x : Int) : 0 ≤ x * x := by
  rcases Int.le_total 0 x with h | h
  · exact Int.mul_nonneg h h
  · exact Int.mul_nonneg_of_nonpos_of_nonpos h h
theorem dotS_self (a : List Int) : ∀ n, 0 ≤ dotS a a n
  | 0 => Int.le_refl _
  | n + 1 => by
    have := dotS_self a n
    have := sqr_nonneg (nth a n)
    show 0 ≤ dotS a a n + nth a n * nth a n
    omega
def pkN (C E : Nat → Int) : Nat → Nat × Int × Int
  | 0 => (20, 0, 0)
  | m + 1 => if 0 < C (20 + m) ∧ btr (C (20 + m)) (E (20 + m)) (pkN C E m).2.1 (pkN C E m).2.2 = true then (20 + m, C (20 + m), E (20 + m)) else pkN C E m
theorem pkN_yes (C E : Nat → Int) (m : Nat) (h : 0 < C (20 + m) ∧ btr (C (20 + m)) (E (20 + m)) (pkN C E m).2.1 (pkN C E m).2.2 = true) : pkN C E (m + 1) = (20 + m, C (20 + m), E (20 + m)) := if_pos h
theorem pkN_no (C E : Nat → Int) (m : Nat) (h : ¬(0 < C (20 + m) ∧ btr (C (20 + m)) (E (20 + m)) (pkN C E m).2.1 (pkN C E m).2.2 = true)) : pkN C E (m + 1) = pkN C E m := if_neg h
theorem pkN_lag (C E : Nat → Int) : ∀ m, 20 ≤ (pkN C E m).1 ∧ (pkN C E m).1 < 20 + m + 1 ∧ ((pkN C E m).1 = 20 ∨ (pkN C E m).1 < 20 + m)
  | 0 => ⟨Nat.le_refl _, by show 20 < 20 + 0 + 1; omega, .inl rfl⟩
  | m + 1 => by
    have := pkN_lag C E m
    by_cases h : 0 < C (20 + m) ∧ btr (C (20 + m)) (E (20 + m)) (pkN C E m).2.1 (pkN C E m).2.2 = true
    · rw [pkN_yes C E m h]; show 20 ≤ 20 + m ∧ 20 + m < 20 + (m + 1) + 1 ∧ (20 + m = 20 ∨ 20 + m < 20 + (m + 1)); omega
    · rw [pkN_no C E m h]; omega
theorem pkN_own (C E : Nat → Int) : ∀ m, ((pkN C E m).2.1 = 0 ∧ (pkN C E m).2.2 = 0) ∨ ((pkN C E m).2.1 = C (pkN C E m).1 ∧ (pkN C E m).2.2 = E (pkN C E m).1 ∧ 0 < (pkN C E m).2.1 ∧ 0 < (pkN C E m).2.2)
  | 0 => .inl ⟨rfl, rfl⟩
  | m + 1 => by
    by_cases h : 0 < C (20 + m) ∧ btr (C (20 + m)) (E (20 + m)) (pkN C E m).2.1 (pkN C E m).2.2 = true
    · rw [pkN_yes C E m h]; exact .inr ⟨rfl, rfl, h.1, btr_pos _ _ _ _ h.2⟩
    · rw [pkN_no C E m h]; exact pkN_own C E m
theorem pkN_bd (C E : Nat → Int) (B : Int) (hB : 0 ≤ B) (hC : ∀ k, C k ≤ B) (hE : ∀ k, E k ≤ B) (m : Nat) : 0 ≤ (pkN C E m).2.1 ∧ (pkN C E m).2.1 ≤ B ∧ 0 ≤ (pkN C E m).2.2 ∧ (pkN C E m).2.2 ≤ B := by
  rcases pkN_own C E m with h | h
  · omega
  · have h1 := hC (pkN C E m).1
    have h2 := hE (pkN C E m).1
    omega
def gains : List Int := [0, 3277, 6554, 9830, 12452, 14746, 16384, 18022]
def gainN (n : Nat) : Int := gains.getD n 0
theorem gainN_bd (n : Nat) : 0 ≤ gainN n ∧ gainN n ≤ 18022 := by
  by_cases h : n < 8
  · have : ∀ n : Fin 8, 0 ≤ gainN n.val ∧ gainN n.val ≤ 18022 := by decide
    exact this ⟨n, h⟩
  · unfold gainN
    rw [show gains.getD n 0 = nth gains n from rfl, getD_out gains n (by show 8 ≤ n; omega)]
    omega
def gaV (n : Int) : Int := if 0 ≤ n ∧ n ≤ 7 then gainN n.toNat else 0
def gaE (n : Int) : Int := if 0 ≤ n ∧ n ≤ 7 then 0 else 2
def neN (c e : Int) : Nat → Nat
  | 0 => 0
  | n + 1 => if n + 1 < 8 ∧ (gainN (n + 1) + gainN n) * e < 2 * 16384 * c then n + 1 else neN c e n
def cap40 (x : Int) : Int := if 1099511627776 < x then 1099511627776 else x
def neV (c e : Int) : Int := if c ≤ 0 ∨ e ≤ 0 then 0 else (neN (cap40 c) (cap40 e) 7 : Int)
theorem cap40_bd (x : Int) (h : 0 < x) : 0 < cap40 x ∧ cap40 x ≤ 1099511627776 := by unfold cap40; split <;> omega
theorem neN_le (c e : Int) : ∀ n, neN c e n ≤ n
  | 0 => Nat.le_refl _
  | n + 1 => by
    have := neN_le c e n
    unfold neN
    split <;> omega
end Go.Proofs.YtjepkgdejkifcaaGreatDoor

/- MemMath -/
namespace Go.Proofs.YtjepkgdejkifcaaGreatDoor
open Go.RowKit
set_option linter.unusedVariables false
set_option linter.unusedSimpArgs false
def mlo (i : Nat) : Int := if i < 8 then -31000 else if i < 96 then -32768 else if i = 98 then 20 else 0
def mhi (i : Nat) : Int := if i < 8 then 31000 else if i < 97 then 32767 else if i = 97 then 18022 else if i = 98 then 79 else if i = 99 then 6 else 65535
def goodM (l : List Int) : Bool := (List.range 101).all fun i => decide (mlo i ≤ nth l i) && decide (nth l i ≤ mhi i)
theorem goodM_iff (l : List Int) : goodM l = true ↔ ∀ i, i < 101 → mlo i ≤ nth l i ∧ nth l i ≤ mhi i := by
  unfold goodM
  rw [List.all_eq_true]
  constructor
  · intro h i hi
    have := h i (List.mem_range.2 hi)
    simpa using this
  · intro h i hi
    have := h i (List.mem_range.1 hi)
    simpa using this
theorem rfl_at (i : Nat) (h : i < 8) : mlo i = -31000 ∧ mhi i = 31000 := ⟨if_pos h, if_pos h⟩
theorem smp_at (i : Nat) (h : 8 ≤ i) (h2 : i < 96) : mlo i = -32768 ∧ mhi i = 32767 := by
  unfold mlo mhi
  rw [if_neg (by omega), if_pos h2, if_neg (by omega), if_pos (by omega)]
  exact ⟨rfl, rfl⟩
def reflB (l : List Int) : Bool := (List.range 8).all fun i => decide (-31000 ≤ nth l i) && decide (nth l i ≤ 31000)
theorem reflB_iff (l : List Int) : reflB l = true ↔ ∀ i, i < 8 → -31000 ≤ nth l i ∧ nth l i ≤ 31000 := by
  unfold reflB
  rw [List.all_eq_true]
  constructor
  · intro h i hi
    have := h i (List.mem_range.2 hi)
    simpa using this
  · intro h i hi
    have := h i (List.mem_range.1 hi)
    simpa using this
theorem right_prt (l : List Int) (o n : Nat) : rightB (prt l o n) = true ↔ ∀ i, i < n → -32768 ≤ nth l (o + i) ∧ nth l (o + i) ≤ 32767 := by
  rw [rightB_iff, prt_len]
  constructor
  · intro h i hi; have := h i hi; rwa [prt_nth _ _ _ _ hi] at this
  · intro h i hi; rw [prt_nth _ _ _ _ hi]; exact h i hi
theorem goodM_parts (l : List Int) : goodM l = true ↔ reflB l = true ∧ rightB (prt l 8 8) = true ∧ rightB (prt l 16 80) = true ∧ (0 ≤ nth l 96 ∧ nth l 96 ≤ 32767) ∧ (0 ≤ nth l 97 ∧ nth l 97 ≤ 18022) ∧ (20 ≤ nth l 98 ∧ nth l 98 ≤ 79) ∧ (0 ≤ nth l 99 ∧ nth l 99 ≤ 6) ∧ (0 ≤ nth l 100 ∧ nth l 100 ≤ 65535) := by
  rw [goodM_iff, reflB_iff, right_prt, right_prt]
  constructor
  · intro h
    refine ⟨fun i hi => ?_, fun i hi => ?_, fun i hi => ?_, h 96 (by omega), h 97 (by omega), h 98 (by omega), h 99 (by omega), h 100 (by omega)⟩
    · have := h i (by omega); rw [(rfl_at i hi).1, (rfl_at i hi).2] at this; exact this
    · have := h (8 + i) (by omega); rw [(smp_at (8 + i) (by omega) (by omega)).1, (smp_at (8 + i) (by omega) (by omega)).2] at this; exact this
    · have := h (16 + i) (by omega); rw [(smp_at (16 + i) (by omega) (by omega)).1, (smp_at (16 + i) (by omega) (by omega)).2] at this; exact this
  · rintro ⟨h1, h2, h3, h4, h5, h6, h7, h8⟩ i hi
    by_cases e1 : i < 8
    · rw [(rfl_at i e1).1, (rfl_at i e1).2]; exact h1 i e1
    · by_cases e2 : i < 16
      · rw [(smp_at i (by omega) (by omega)).1, (smp_at i (by omega) (by omega)).2]
        have := h2 (i - 8) (by omega)
        rwa [show 8 + (i - 8) = i by omega] at this
      · by_cases e3 : i < 96
        · rw [(smp_at i (by omega) (by omega)).1, (smp_at i (by omega) (by omega)).2]
          have := h3 (i - 16) (by omega)
          rwa [show 16 + (i - 16) = i by omega] at this
        · obtain rfl | rfl | rfl | rfl | rfl : i = 96 ∨ i = 97 ∨ i = 98 ∨ i = 99 ∨ i = 100 := by omega
          · exact h4
          · exact h5
          · exact h6
          · exact h7
          · exact h8
def freL : List Int := ((zeros 101).set 98 20).set 100 21845
theorem freL_len : freL.length = 101 := by unfold freL; rw [List.length_set, List.length_set, zeros_len]
theorem freL_good : goodM freL = true := by decide +kernel
abbrev mxO (lag g : Int) (b : List Int) : Prop := b.length = 40 ∧ (20 ≤ lag ∧ lag ≤ 79) ∧ 0 ≤ g ∧ g ≤ 32767
def mxN (v : List Int) (g : Int) (b : List Int) (i : Nat) : Int := c16 ((c16 (nth v i) * g + 8192) / 16384 + c16 (nth b i))
def mxA (v : List Int) (g : Int) (b : List Int) : List Int := tab 40 (mxN v g b)
def mxL (h : List Int) (lag g : Int) (b : List Int) : List Int := if mxO lag g b then mxA (pasL h lag) g b else []
def mxE (lag g : Int) (b : List Int) : Int := if b.length = 40 then (if mxO lag g b then 0 else 2) else 1
theorem mxA_len (v : List Int) (g : Int) (b : List Int) : (mxA v g b).length = 40 := tab_len _ _
theorem mxA_nth (v : List Int) (g : Int) (b : List Int) (i : Nat) (h : i < 40) : nth (mxA v g b) i = mxN v g b i := tab_nth _ _ _ h
theorem mxN_16 (v : List Int) (g : Int) (b : List Int) (i : Nat) : -32768 ≤ mxN v g b i ∧ mxN v g b i ≤ 32767 := by unfold mxN; exact c16_bd _
theorem mxA_right (v : List Int) (g : Int) (b : List Int) : rightB (mxA v g b) = true := by
  rw [rightB_iff, mxA_len]
  intro i hi
  rw [mxA_nth _ _ _ _ hi]
  exact mxN_16 _ _ _ _
theorem mxL_yes {h : List Int} {lag g : Int} {b : List Int} (k : mxO lag g b) : mxL h lag g b = mxA (pasL h lag) g b ∧ mxE lag g b = 0 := ⟨if_pos k, by unfold mxE; rw [if_pos k.1, if_pos k]⟩
theorem mxL_size {h : List Int} {lag g : Int} {b : List Int} (k : b.length ≠ 40) : mxL h lag g b = [] ∧ mxE lag g b = 1 := ⟨if_neg (fun q => k q.1), if_neg k⟩
theorem mxL_range {h : List Int} {lag g : Int} {b : List Int} (k : b.length = 40) (q : ¬ mxO lag g b) : mxL h lag g b = [] ∧ mxE lag g b = 2 := ⟨if_neg q, by unfold mxE; rw [if_pos k, if_neg q]⟩
def kpN (h b : List Int) (i : Nat) : Int := if i < 40 then nth h (i + 40) else c16 (nth b (i - 40))
def kpA (h b : List Int) : List Int := tab 80 (kpN h b)
def kpL (h b : List Int) : List Int := if b.length = 40 then kpA h b else zeros 80
def kpE (b : List Int) : Int := if b.length = 40 then 0 else 1
theorem kpA_len (h b : List Int) : (kpA h b).length = 80 := tab_len _ _
theorem kpA_nth (h b : List Int) (i : Nat) (k : i < 80) : nth (kpA h b) i = kpN h b i := tab_nth _ _ _ k
theorem kpL_len (h b : List Int) : (kpL h b).length = 80 := by unfold kpL; split; exact kpA_len _ _; exact zeros_len _
theorem kpL_yes {h b : List Int} (k : b.length = 40) : kpL h b = kpA h b ∧ kpE b = 0 := ⟨if_pos k, if_pos k⟩
theorem kpL_no {h b : List Int} (k : b.length ≠ 40) : kpL h b = zeros 80 ∧ kpE b = 1 := ⟨if_neg k, if_neg k⟩
def sdN (s : Int) : Nat → Int
  | 0 => s
  | k + 1 => noS (sdN s k)
def nzN (s x : Int) (k : Nat) : Int := noX (sdN s k) x
def nzL (s x : Int) (n : Nat) : List Int := tab n (nzN s x)
theorem sdN_bd (s : Int) (h0 : 0 ≤ s) (h1 : s ≤ 65535) : ∀ k, 0 ≤ sdN s k ∧ sdN s k ≤ 65535
  | 0 => ⟨h0, h1⟩
  | k + 1 => by have := noS_bd (sdN s k); show 0 ≤ noS (sdN s k) ∧ noS (sdN s k) ≤ 65535; omega
theorem nzL_len (s x : Int) (n : Nat) : (nzL s x n).length = n := tab_len _ _
theorem nzL_nth (s x : Int) (n i : Nat) (h : i < n) : nth (nzL s x n) i = nzN s x i := tab_nth _ _ _ h
theorem nzN_bd (s x : Int) (k : Nat) : -noZ x ≤ nzN s x k ∧ nzN s x k ≤ noZ x := noX_bd _ _
theorem nzL_right (s x : Int) (n : Nat) : rightB (nzL s x n) = true := by
  rw [rightB_iff, nzL_len]
  intro i hi
  rw [nzL_nth _ _ _ _ hi]
  have := nzN_bd s x i
  have := noZ_bd x
  omega
def memT (l : List Int) (er sd : Int) (x : List Int) : List Int := ovr ((l.set 99 er).set 100 sd) 16 x
abbrev erO (l : List Int) (half : Int) : Prop := goodM l = true ∧ 0 ≤ half ∧ half ≤ 1
def siX (l : List Int) : List Int := nzL (nth l 100) 8 40
def siM (l : List Int) : List Int := if goodM l = true then memT l (nth l 99) (sdN (nth l 100) 40) (kpA (prt l 16 80) (siX l)) else zeros 101
def siS (l : List Int) (s : Bool) : Bool := if goodM l = true then s else false
def siL (l : List Int) : List Int := if goodM l = true then siX l else []
def siE (l : List Int) : Int := if goodM l = true then 0 else 2
theorem siX_len (l : List Int) : (siX l).length = 40 := nzL_len _ _ _
theorem si_yes {l : List Int} {s : Bool} (k : goodM l = true) : siM l = memT l (nth l 99) (sdN (nth l 100) 40) (kpA (prt l 16 80) (siX l)) ∧ siS l s = s ∧ siL l = siX l ∧ siE l = 0 := ⟨if_pos k, if_pos k, if_pos k, if_pos k⟩
theorem si_no {l : List Int} {s : Bool} (k : goodM l = false) : siM l = zeros 101 ∧ siS l s = false ∧ siL l = [] ∧ siE l = 2 := by
  have k' : ¬ goodM l = true := by rw [k]; decide
  exact ⟨if_neg k', if_neg k', if_neg k', if_neg k'⟩
theorem memT_len (l : List Int) (er sd : Int) (x : List Int) : (memT l er sd x).length = l.length := by unfold memT; rw [ovr_len, List.length_set, List.length_set]
theorem setN (l : List Int) (k : Nat) (z : Int) (h : k < l.length) (i : Nat) : nth (l.set k z) i = if i = k then z else nth l i := by
  unfold nth
  by_cases e : i = k
  · subst e; simp [List.getD, h]
  · simp [List.getD, e, List.getElem?_set, Ne.symm e]
theorem memT_nth (l : List Int) (hl : l.length = 101) (er sd : Int) (x : List Int) (hx : x.length = 80) (i : Nat) (hi : i < 101) : nth (memT l er sd x) i = if 16 ≤ i ∧ i < 96 then nth x (i - 16) else if i = 100 then sd else if i = 99 then er else nth l i := by
  unfold memT
  rw [ovr_nth _ _ _ _ (by rw [List.length_set, List.length_set, hl]; exact hi), hx]
  by_cases h1 : 16 ≤ i ∧ i < 96
  · rw [if_pos (by omega), if_pos h1]
  · rw [if_neg (by omega), if_neg h1, setN _ _ _ (by rw [List.length_set]; omega), setN _ _ _ (by omega)]
theorem kep_right (h b : List Int) (hr : ∀ i, i < 80 → -32768 ≤ nth h i ∧ nth h i ≤ 32767) (i : Nat) (hi : i < 80) : -32768 ≤ nth (kpA h b) i ∧ nth (kpA h b) i ≤ 32767 := by
  rw [kpA_nth _ _ _ hi]
  unfold kpN
  split
  · exact hr _ (by omega)
  · exact c16_bd _
theorem memT_good (l : List Int) (hl : l.length = 101) (hg : goodM l = true) (er sd : Int) (b : List Int) (e0 : 0 ≤ er) (e6 : er ≤ 6) (s0 : 0 ≤ sd) (s9 : sd ≤ 65535) : goodM (memT l er sd (kpA (prt l 16 80) b)) = true := by
  rw [goodM_iff]
  have h := (goodM_iff l).1 hg
  intro i hi
  rw [memT_nth l hl _ _ _ (kpA_len _ _) i hi]
  by_cases h1 : 16 ≤ i ∧ i < 96
  · rw [if_pos h1, (smp_at i (by omega) h1.2).1, (smp_at i (by omega) h1.2).2]
    refine kep_right _ _ (fun j hj => ?_) _ (by omega)
    rw [prt_nth _ _ _ _ hj]
    have := h (16 + j) (by omega)
    rw [(smp_at (16 + j) (by omega) (by omega)).1, (smp_at (16 + j) (by omega) (by omega)).2] at this
    exact this
  · rw [if_neg h1]
    by_cases h2 : i = 100
    · rw [if_pos h2, h2]; exact ⟨s0, s9⟩
    · rw [if_neg h2]
      by_cases h3 : i = 99
      · rw [if_pos h3, h3]; exact ⟨e0, e6⟩
      · rw [if_neg h3]; exact h i hi
theorem siM_good (l : List Int) (hl : l.length = 101) (k : goodM l = true) : goodM (siM l) = true := by
  rw [(si_yes (s := true) k).1]
  have hs : 0 ≤ nth l 100 ∧ nth l 100 ≤ 65535 := (goodM_iff l).1 k 100 (by omega)
  have b : 0 ≤ nth l 99 ∧ nth l 99 ≤ 6 := (goodM_iff l).1 k 99 (by omega)
  have c := sdN_bd (nth l 100) hs.1 hs.2 40
  exact memT_good l hl k _ _ _ b.1 b.2 c.1 c.2
theorem good_64 {l : List Int} (hl : l.length = 101) (h : goodM l = true) : In64 l := fun i => by
  by_cases hi : i < 101
  · have := (goodM_iff l).1 h i hi
    have : -32768 ≤ mlo i ∧ mhi i ≤ 65535 := by unfold mlo mhi; split <;> (try split) <;> (try split) <;> (try split) <;> (try split) <;> omega
    omega
  · rw [getD_out _ i (by omega)]; omega
end Go.Proofs.YtjepkgdejkifcaaGreatDoor

/- EraMath -/
namespace Go.Proofs.YtjepkgdejkifcaaGreatDoor
open Go.RowKit
set_option linter.unusedVariables false
set_option linter.unusedSimpArgs false
def souM (A m x : List Int) : List Int := ovr m 8 (mkP A (prt m 8 8) x)
def souL (A m x : List Int) : List Int := mkL A (prt m 8 8) x
theorem souM_len (A m x : List Int) : (souM A m x).length = m.length := ovr_len _ _ _
theorem souM_nth (A m x : List Int) (i : Nat) (hi : i < m.length) : nth (souM A m x) i = if 8 ≤ i ∧ i < 16 then nth (mkP A (prt m 8 8) x) (i - 8) else nth m i := by
  unfold souM
  rw [ovr_nth _ _ _ _ hi, mkP_len]
structure WideP (A : List Int) : Prop where
  len : A.length = 9
  wide : wide20 A = true
  one : nth A 0 = 4096
theorem dir_wide (k : List Int) (hk : k.length = 8) (h : steadyB k = true) : WideP (dirL k) := by
  have e : dirL k = tab 9 (dirN (nth k)) := if_pos h
  refine ⟨dirL_len k, ?_, ?_⟩
  · rw [wide20_iff, dirL_len]
    intro i hi
    rw [e, tab_nth _ _ _ hi]
    have := dirN_bd k hk h i
    omega
  · rw [e, tab_nth _ _ _ (by omega), dirN_zero]
theorem sou_ok {A m x : List Int} (hA : WideP A) (hg : goodM m = true) (hx : rightB x = true) : okF A (prt m 8 8) x = true := by
  unfold okF
  have p := ((goodM_parts m).1 hg).2.1
  simp [hA.wide, hA.one, p, hx]
theorem souL_yes {A m x : List Int} (hA : WideP A) (hg : goodM m = true) (hx : rightB x = true) : souL A m x = mkN A (prt m 8 8) x x.length := if_pos (sou_ok hA hg hx)
theorem souL_len {A m x : List Int} (hA : WideP A) (hg : goodM m = true) (hx : rightB x = true) : (souL A m x).length = x.length := mkL_len _ _ _ (sou_ok hA hg hx)
theorem souL_right {A m x : List Int} (hA : WideP A) (hg : goodM m = true) (hx : rightB x = true) : rightB (souL A m x) = true := by rw [souL_yes hA hg hx]; exact mkN_right _ _ _ _
theorem souM_good {A m x : List Int} (hm : m.length = 101) (hA : WideP A) (hg : goodM m = true) (hx : rightB x = true) : goodM (souM A m x) = true := by
  rw [goodM_iff]
  intro i hi
  rw [souM_nth _ _ _ _ (by omega)]
  by_cases h : 8 ≤ i ∧ i < 16
  · rw [if_pos h, (smp_at i h.1 (by omega)).1, (smp_at i h.1 (by omega)).2]
    have e : mkP A (prt m 8 8) x = newL (prt m 8 8) (mkN A (prt m 8 8) x x.length) := if_pos (sou_ok hA hg hx)
    rw [e]
    have r := newL_right (prt m 8 8) (mkN A (prt m 8 8) x x.length) ((goodM_parts m).1 hg).2.1 (mkN_right _ _ _ _)
    exact (rightB_iff _).1 r (i - 8) (by rw [newL_len]; omega)
  · rw [if_neg h]; exact (goodM_iff m).1 hg i hi
theorem reflM_steady {m : List Int} (hg : goodM m = true) : steadyB (prt m 0 8) = true := by
  rw [steadyB_iff, prt_len]
  intro i hi
  rw [prt_nth _ _ _ _ hi]
  have := (reflB_iff m).1 ((goodM_parts m).1 hg).1 i hi
  rw [Nat.zero_add]
  omega
theorem siL_right (l : List Int) : rightB (siL l) = true := by
  unfold siL
  split
  · exact nzL_right _ _ _
  · rfl
end Go.Proofs.YtjepkgdejkifcaaGreatDoor

/- Owns -/
namespace Go.Proofs.YtjepkgdejkifcaaGreatDoor
open Go.RowKit
set_option linter.unusedVariables false
set_option linter.unusedSimpArgs false
set_option maxHeartbeats 1000000
def Own (base : Nat) (w : World) (v : Value) (l : List Int) : Prop := w.ownsRow base 3 1 v l.length (l.map (Value.int .i64))
theorem Own.ints {base : Nat} {w : World} {v : Value} {l : List Int} (h : Own base w v l) : Ints w v l := Ints_of_owns h
theorem Own.keep {base : Nat} {w w' : World} {v : Value} {l : List Int} (h : Own base w v l) (g : w.grownBy w' none) : Own base w' v l :=
  h.kept g (by rcases v.ownBlock with _ | b <;> simp)
theorem Own.keepBut {base : Nat} {w w' : World} {v : Value} {l : List Int} {b : Nat} {cs : Array Value} {t : TypeId} {f : Nat × Nat} (h : Own base w v l) (g : w.grownBy w' (some b)) (hb : w.heap[b]? = some (.cells cs t f)) (ht : t ≠ 3) : Own base w' v l := by
  refine h.kept g ?_
  rcases h.2 with ⟨rfl, _⟩ | ⟨g', cap, cur, rfl, _, hg, _⟩
  · exact .inl rfl
  · right
    intro e
    simp [Value.ownBlock] at e
    subst e
    rw [hg] at hb
    simp at hb
    exact ht hb.2.1.symm
theorem Own.base {b b' : Nat} {w : World} {v : Value} {l : List Int} (h : Own b w v l) (hb : b' ≤ b) : Own b' w v l := by
  refine ⟨h.1, ?_⟩
  rcases h.2 with h | ⟨g, cap, cur, e, h1, h2⟩
  · exact .inl h
  · exact .inr ⟨g, cap, cur, e, by omega, h2⟩
theorem Own_nil (b : Nat) (w : World) : Own b w (.slice none 0 0) [] := World.ownsRow_nil _ _ _ _
def Shp (v : Value) (l : List Int) : Prop := v = .slice none 0 0 ∨ ∃ a c, v = .slice (some a) l.length c
theorem ints_some {W : World} {a : Addr} {n c : Nat} {l : List Int} (h : Ints W (.slice (some a) n c) l) : n = l.length ∧ n ≤ c ∧ ∀ i, i < l.length → W.cell? (a.add i) = some (.int .i64 (nth l i)) := by
  obtain ⟨ad, c', e, h1, h2⟩ := h
  simp only [Value.slice.injEq] at e
  obtain ⟨rfl, rfl, rfl⟩ := e
  refine ⟨rfl, h1, fun i hi => ?_⟩
  obtain ⟨a', e', h3⟩ := h2 (by omega)
  cases e'
  exact h3 i hi
theorem ints_none {W : World} {l : List Int} (h : Ints W (.slice none 0 0) l) : l = [] := by
  obtain ⟨ad, c, e, _, _⟩ := h
  simp only [Value.slice.injEq] at e
  exact List.length_eq_zero_iff.1 e.2.1.symm
theorem Ints_nil (W : World) : Ints W (.slice none 0 0) [] := ⟨none, 0, rfl, Nat.le_refl _, fun h => by simp at h⟩
theorem slice_h {W : World} {v : Value} {l : List Int} (h : Ints W v l) (hsh : Shp v l) (k : Nat) (hk : k ≤ l.length) :
    ∃ vA, (∀ u, Sem.run Tryz.prog (Instr.slice 27 v none (some (.int .i64 k)) none) u = .ok vA u) ∧ Ints W vA (l.take k) ∧ Shp vA (l.take k) := by
  obtain ⟨i0, hi, hz0, hz1, hz2⟩ := info_parts infoI64
  rcases hsh with rfl | ⟨a, c, rfl⟩
  · obtain rfl := ints_none h
    obtain rfl : k = 0 := by simpa using hk
    exact ⟨.slice none 0 0, fun u => by simp [go_sem, sliced], Ints_nil W, .inl rfl⟩
  · obtain ⟨_, hc, hcell⟩ := ints_some h
    have e : (l.take k).length = k := by simp; omega
    refine ⟨.slice (some a) k c, fun u => ?_, ⟨some a, c, by rw [e], by rw [e]; omega, fun _ => ⟨a, rfl, fun i hi' => ?_⟩⟩, .inr ⟨a, c, by rw [e]⟩⟩
    · rw [run_slice_h (P := Tryz.prog) u 27 (some a) l.length c (by kernel_rfl) .i64 k (by omega) (by omega)]
      simp [go_sem, sliced]
    · rw [e] at hi'
      rw [hcell i (by omega)]
      simp [nth, List.getD, List.getElem?_take, hi']
theorem slice_l {W : World} {v : Value} {l : List Int} (h : Ints W v l) (hsh : Shp v l) (k : Nat) (hk : k ≤ l.length) :
    ∃ vB, (∀ u, Sem.run Tryz.prog (Instr.slice 27 v (some (.int .i64 k)) none none) u = .ok vB u) ∧ Ints W vB (l.drop k) ∧ Shp vB (l.drop k) := by
  rcases hsh with rfl | ⟨a, c, rfl⟩
  · obtain rfl := ints_none h
    obtain rfl : k = 0 := by simpa using hk
    exact ⟨.slice none 0 0, fun u => by simp [go_sem, sliced], Ints_nil W, .inl rfl⟩
  · obtain ⟨_, hc, hcell⟩ := ints_some h
    have e : (l.drop k).length = l.length - k := by simp
    refine ⟨.slice (some (if c = k then a else a.add k)) (l.length - k) (c - k), fun u => ?_, ⟨_, c - k, by rw [e], by rw [e]; omega, fun hp => ⟨_, rfl, fun i hi' => ?_⟩⟩, .inr ⟨_, c - k, by rw [e]⟩⟩
    · rw [run_slice_l (P := Tryz.prog) u 27 (some a) l.length c (by kernel_rfl) .i64 k (by omega) (by omega)]
      simp [go_sem, sliced]
      split <;> rfl
    · rw [e] at hi' hp
      rw [if_neg (by omega), Addr.add_add, hcell (k + i) (by omega)]
      simp [nth, List.getD]
theorem wpList_append_both {ops : Array Oper} {rest : List Oper} {o : Oper} {a : Act} {w : World} {Q : Exit → Act → World → Prop} (hgd : Region.wanted o (yielded ops a.tmps) = true) (s x : Operand)
    (hop : o.op = Op.call { callee := Callee.builtin Builtin.append, args := #[s, x], argTypes := #[27, 27] }) (base : Nat) (va vb : Value) (A B : List Int) (hs : a.eval s = va) (hx : a.eval x = vb) (ha : Own base w va A) (hb : Ints w vb B) (hsh : Shp vb B)
    (hl : (A.length + B.length) * 8 ≤ 140737488355328) (hbase : base ≤ w.heap.size)
    (h : ∀ v' w', Own base w' v' (A ++ B) → w.grownBy w' va.ownBlock → wpList Tryz.prog ops Q rest (a.put o.dst v') w') : wpList Tryz.prog ops Q (o :: rest) a w := by
  obtain ⟨i0, hi, hz0, hz1, hz2⟩ := info_parts infoI64
  have key : ∀ K : Act → World → Prop, (∀ v' w', Own base w' v' (A ++ B) → w.grownBy w' va.ownBlock → K (a.put o.dst v') w') → Oper.wp Tryz.prog o a w K Q := by
    intro K hK
    rcases hsh with rfl | ⟨ad, c, rfl⟩
    · obtain rfl := ints_none hb
      have hrun := run_append_owned_none (P := Tryz.prog) (w := w) base 27 o.type 3 i0 1 Tryz.underlying27 hi va _ _ ha
      unfold Oper.wp
      simp [execOp, hop, resolve, invoke, builtin, hs, hx, hrun, Result.andThen]
      exact hK _ _ (by rw [List.append_nil]; exact ha) (grown_refl _ _)
    · obtain ⟨_, hc, hcell⟩ := ints_some hb
      refine wp_append_own w s x 27 hop base 3 i0 (.int .i64 0) 1 8 Tryz.underlying27 hi hz0 hz1 hz2 rfl (by decide) va A.length _ hs ha ad B.length c (B.map (Value.int .i64)) hx (by simp) (fun j u hu => ?_) (fun u hu => ?_) (by unfold maxLen; omega) (by omega) hbase (fun v' w' h2 h3 _ => hK v' w' ?_ h3)
      · have hj : j < B.length := by
          by_cases hj : j < B.length
          · exact hj
          · rw [List.getElem?_eq_none (by simp; omega)] at hu; cases hu
        rw [hcell j hj]
        simpa [nth, List.getD, hj] using hu
      · obtain ⟨x, _, rfl⟩ := List.mem_map.1 hu
        rfl
      · unfold Own; simpa using h2
  refine wpList_step fun K hK => ?_
  rw [if_pos hgd]
  exact key K fun v' w' h1 h2 => hK _ _ (h v' w' h1 h2)
theorem Own.lt {base : Nat} {w : World} {v : Value} {l : List Int} (h : Own base w v l) (g : Nat) (hg : v.ownBlock = some g) : base ≤ g ∧ g < w.heap.size := by
  rcases h.2 with ⟨rfl, _⟩ | ⟨g', cap, cur, rfl, h1, h2, _⟩
  · cases hg
  · simp [Value.ownBlock] at hg
    subst hg
    exact ⟨h1, lt_of_some h2⟩
theorem Own.apart {N : Nat} {w : World} {va vb : Value} {B : List Int} (hlt : ∀ g, va.ownBlock = some g → g < N) (hb : Own N w vb B) : va.ownBlock = none ∨ va.ownBlock ≠ vb.ownBlock := by
  rcases ea : va.ownBlock with _ | g
  · exact .inl rfl
  · right
    intro e
    have := (hb.lt g e.symm).1
    have := hlt g ea
    omega
theorem Own.shp {base : Nat} {w : World} {v : Value} {l : List Int} (h : Own base w v l) : Shp v l := by
  rcases h.2 with ⟨rfl, _⟩ | ⟨g', cap, cur, rfl, _⟩
  · exact .inl rfl
  · exact .inr ⟨_, cap, rfl⟩
theorem grown_own' {w u u' : World} {r : Option Nat} (h : w.grownBy u none) (g : u.grownBy u' r) (hr : ∀ b, r = some b → w.heap.size ≤ b) : w.grownBy u' none :=
  grown_trans h g none (fun i e _ => by cases e) (fun i e hi => by have := hr i e; omega)
theorem Own.form {base : Nat} {w : World} {v : Value} {l : List Int} (h : Own base w v l) (hl : 0 < l.length) : ∃ g cap, v = .slice (some ⟨g, 0, none⟩) l.length cap ∧ base ≤ g ∧ g < w.heap.size ∧ l.length ≤ cap := by
  rcases h.2 with ⟨_, h0⟩ | ⟨g, cap, cur, hv, hb, hg, hn, _⟩
  · omega
  · exact ⟨g, cap, hv, hb, lt_of_some hg, hn⟩
theorem Own.cell {base : Nat} {w : World} {g cap n : Nat} {l : List Int} (h : Own base w (.slice (some ⟨g, 0, none⟩) n cap) l) (hn : n = l.length) (j : Nat) (hj : j < l.length) : w.cell? ⟨g, j, none⟩ = some (.int .i64 (nth l j)) := by
  subst hn
  have := World.ownsRow.cellAt h j (by omega)
  rw [this]
  simp [nth, List.getD, hj]
theorem Own.free {base : Nat} {w : World} {g cap n : Nat} {l : List Int} (h : Own base w (.slice (some ⟨g, 0, none⟩) n cap) l) (hn : n = l.length) (j : Nat) : w.frozen? ⟨g, j, none⟩ = false := by
  subst hn
  exact World.ownsRow.frozenAt h j
theorem Own.set {base : Nat} {w : World} {g cap n : Nat} {l : List Int} (h : Own base w (.slice (some ⟨g, 0, none⟩) n cap) l) (hn : n = l.length) (j : Nat) (z : Int) : Own base (w.setCell ⟨g, j, none⟩ (.int .i64 z)) (.slice (some ⟨g, 0, none⟩) n cap) (l.set j z) ∧ w.grownBy (w.setCell ⟨g, j, none⟩ (.int .i64 z)) (some g) := by
  subst hn
  have := World.ownsRow.stored h j (.int .i64 z)
  refine ⟨?_, this.2⟩
  unfold Own
  rw [List.length_set, List.map_set]
  exact this.1
theorem Own.keepLt {base : Nat} {w w' : World} {v : Value} {l : List Int} {b : Nat} (h : Own base w v l) (g : w.grownBy w' (some b)) (hb : b < base) : Own base w' v l := by
  refine h.kept g ?_
  rcases e : v.ownBlock with _ | c
  · exact .inl rfl
  · right
    intro e'
    have := (h.lt c e).1
    cases e'
    omega
end Go.Proofs.YtjepkgdejkifcaaGreatDoor

/- RegA -/
namespace Go.Proofs.YtjepkgdejkifcaaGreatDoor
open Go.RowKit
set_option linter.unusedVariables false
theorem step_store_arr {y : Nat → Option Bool} {o : Oper} {a : Act} {w : World} {K : Act → World → Prop} {Q : Exit → Act → World → Prop} {E : Prop} (hg : o.guard = none) (T : TypeId) (x z : Operand) (ho : o.op = .store T x z)
    (b : Nat) (rs rs' : List Int) (hx : a.eval x = .pointer (some ⟨b, 0, none⟩)) (hy : a.eval z = .agg (arrI rs')) (h : Blk w b T rs) (hl : rs'.length = rs.length) (hi : (Tryz.prog.info? T).map (·.size) = some rs.length)
    (k : K (a.put o.dst undef) (putArr w b rs')) : if Region.wanted o y = true then Oper.wp Tryz.prog o a w K Q else E := by
  have hw : Region.wanted o y = true := by simp [Region.wanted, hg]
  rw [if_pos hw]
  exact wp_store_mid T x z ho b 0 (arrI rs') hx hy (by rw [show (arrI rs').size = rs.length by simp [arrI, hl]]; exact h.there) (by simpa [arrI, hl] using hi) (ones_arrI rs') (by simpa [putArr, arrI] using k)
theorem yields_load_arr {w : World} {b : Nat} {T : TypeId} {rs : List Int} {a : Act} {o : Oper} {x : Operand} (ho : o.op = .load T x) (hx : a.eval x = .pointer (some ⟨b, 0, none⟩)) (h : Blk w b T rs) (d : TypeDesc) (hu : Tryz.prog.underlying T = some d) (hd : d.isRow = true) (hi : (Tryz.prog.info? T).map (·.size) = some rs.length) :
    (execOp a.eval o).run Tryz.prog w = .ok (.value (.agg (arrI rs))) w := by
  have := load_arr h d hu hd hi
  unfold execOp
  simp [ho, hx, this]
def GrownW (w w' : World) : Prop := w.grownBy w' none
theorem gw_start (w : World) : GrownW w w.drew := grown_drew (grown_refl w none)
theorem gw_trans {w u u' : World} (h : GrownW w u) (g : u.grownBy u' none) : GrownW w u' := grown_none h g
theorem gw_alloc {w u : World} (h : GrownW w u) (o : Obj) : GrownW w (u.alloc o) := grown_none h (grown_alloc _ _ none)
theorem gw_own {w u u' : World} {b : Nat} (h : GrownW w u) (g : u.grownBy u' (some b)) (hb : w.heap.size ≤ b) : GrownW w u' := grown_own h g hb
end Go.Proofs.YtjepkgdejkifcaaGreatDoor

/- EndMath -/
namespace Go.Proofs.YtjepkgdejkifcaaGreatDoor
open Go.RowKit
set_option linter.unusedVariables false
set_option linter.unusedSimpArgs false
def refl (v : Int) : Int := spotN v 65535 - 32767
theorem tdiv4_le (S lo hi : Int) (h1 : 4 * lo ≤ S) (h2 : S ≤ 4 * hi) : lo ≤ S.tdiv 4 ∧ S.tdiv 4 ≤ hi := by
  rcases Int.le_total 0 S with h | h
  · rw [Int.tdiv_eq_ediv_of_nonneg h]; omega
  · have e : S.tdiv 4 = -((-S).tdiv 4) := by rw [Int.neg_tdiv]; omega
    rw [e, Int.tdiv_eq_ediv_of_nonneg (by omega)]; omega
def Mem1 (w wr : World) (T : TypeId) (a : List Int) : Prop := Blk wr w.heap.size T a ∧ w.grownBy wr none
theorem Mem1.set {w wr : World} {T : TypeId} {a : List Int} (h : Mem1 w wr T a) (k : Nat) (z : Int) : Mem1 w (wr.setCell ⟨w.heap.size, k, none⟩ (.int .i64 z)) T (a.set k z) :=
  ⟨h.1.set k z, grown_own h.2 (grown_setCell _ ⟨w.heap.size, k, none⟩ _) (by simp)⟩
end Go.Proofs.YtjepkgdejkifcaaGreatDoor

/- SynW -/
namespace Go.Proofs.YtjepkgdejkifcaaGreatDoor
open Go.RowKit
set_option linter.unusedVariables false
set_option linter.unusedSimpArgs false
def Filt (w : World) (L P : List Int) (en : Int) (e : Ending) (w' : World) : Prop := ∃ v', e = .returned (.tuple #[v', .agg (arrI P), .int .i64 en]) ∧ Own w.heap.size w' v' L ∧ w.grownBy w' none
def ListE (w : World) (L : List Int) (en : Int) (e : Ending) (w' : World) : Prop := ∃ v', e = .returned (.tuple #[v', .int .i64 en]) ∧ Own w.heap.size w' v' L ∧ w.grownBy w' none
theorem own_blk {w : World} {b base : Nat} {rs : List Int} (h : Blk w b 3 rs) (hb : base ≤ b) (hl : rs.length ≤ 1000000) : Own base w (.slice (some ⟨b, 0, none⟩) rs.length rs.length) rs :=
  ⟨by simp, .inr ⟨b, rs.length, arrI rs, rfl, hb, h, Nat.le_refl _, by unfold maxLen; omega, by simp [arrI], by simp [arrI, List.take_of_length_le]⟩⟩
theorem one_set (n : Nat) (h : 0 < n) : (zeros n).set 0 4096 = oneL n := by
  apply tab_ext (by simp [zeros])
  intro i hi
  by_cases h0 : i = 0
  · subst h0; simp [nth, List.getD, zeros, h]
  · rw [if_neg h0, nth_set_ne _ _ _ _ (by omega), zeros_nth]
end Go.Proofs.YtjepkgdejkifcaaGreatDoor

/- ConX -/
namespace Go.Proofs.YtjepkgdejkifcaaGreatDoor
open Go.RowKit
set_option linter.unusedVariables false
set_option linter.unusedSimpArgs false
theorem size80c : (Tryz.prog.info? 23).map (·.size) = some 80 := by kernel_rfl
theorem z80 : (Tryz.prog.info? 23).bind (·.zero) = some (.agg (arrI (zeros 80))) := by kernel_rfl
theorem Ints_cell {w : World} {ad : Option Addr} {n c : Nat} {l : List Int} (h : Ints w (.slice ad n c) l) (k : Nat) (hk : k < l.length) : ∃ a, ad = some a ∧ w.cell? (a.add k) = some (.int .i64 (nth l k)) := by
  obtain ⟨ad', c', e, _, h2⟩ := h
  simp only [Value.slice.injEq] at e
  obtain ⟨rfl, e2, rfl⟩ := e
  obtain ⟨a, rfl, h3⟩ := h2 (by omega)
  exact ⟨a, rfl, h3 k hk⟩
def AnsC (w : World) (v : Value) (e : Ending) (w' : World) : Prop := e = .returned v ∧ w.grownBy w' none
def KepE (w : World) (m : List Int) (en : Int) (e : Ending) (w' : World) : Prop := e = .returned (.tuple #[.agg (arrI m), .int .i64 en]) ∧ w.grownBy w' none
end Go.Proofs.YtjepkgdejkifcaaGreatDoor

/- ConW -/
namespace Go.Proofs.YtjepkgdejkifcaaGreatDoor
open Go.RowKit
set_option linter.unusedVariables false
set_option linter.unusedSimpArgs false
def memC (l : List Int) (s : Bool) : List Value := mixC l [.bool s]
def memV (l : List Int) (s : Bool) : Value := .agg (memC l s).toArray
theorem memC_len {l : List Int} (h : l.length = 101) (s : Bool) : (memC l s).length = 102 := by unfold memC; rw [mixC_len, h]; rfl
theorem memC_one (l : List Int) (s : Bool) : ∀ v ∈ memC l s, v.oneCell' = true := mixC_one _ _ (by intro v hv; simp at hv; subst hv; rfl)
theorem zMem : (Tryz.prog.info? 25).bind (·.zero) = some (memV (zeros 101) false) := by kernel_rfl
theorem size102 : (Tryz.prog.info? 25).map (·.size) = some 102 := by kernel_rfl
theorem size8 : (Tryz.prog.info? 22).map (·.size) = some 8 := by kernel_rfl
theorem zero_mem (w : World) : Sem.run Tryz.prog (zeroValue 25) w = .ok (memV (zeros 101) false) w := by
  have hz := zMem
  cases hq : Tryz.prog.info? 25 with
  | none => simp [hq] at hz
  | some i =>
    have hi : i.zero = some (memV (zeros 101) false) := by simpa [hq] using hz
    simp [zeroValue, typeInfo, hq, hi]
def BlkM (w : World) (b : Nat) (l : List Int) (s : Bool) : Prop := BlkV w b 25 (memC l s)
theorem BlkM.cell {w : World} {b : Nat} {l : List Int} {s : Bool} (h : BlkM w b l s) (i : Nat) (hi : i < l.length) : w.cell? ⟨b, i, none⟩ = some (.int .i64 (nth l i)) := (BlkV.cell h i).trans (mixC_get _ _ _ hi)
theorem BlkM.free {w : World} {b : Nat} {l : List Int} {s : Bool} (h : BlkM w b l s) (i : Nat) : w.frozen? ⟨b, i, none⟩ = false := BlkV.free h i
theorem BlkM.keep {w w' : World} {b : Nat} {l : List Int} {s : Bool} (h : BlkM w b l s) (g : w.grownBy w' none) : BlkM w' b l s := BlkV.keep h g
theorem BlkM.keepBut {w w' : World} {b : Nat} {l : List Int} {s : Bool} {r : Nat} (h : BlkM w b l s) (g : w.grownBy w' (some r)) (hr : b ≠ r) : BlkM w' b l s := BlkV.keepBut h g hr
theorem BlkM.lt {w : World} {b : Nat} {l : List Int} {s : Bool} (h : BlkM w b l s) : b < w.heap.size := BlkV.lt h
theorem BlkM.new (w : World) (l : List Int) (s : Bool) : BlkM (w.alloc (.cells (memC l s).toArray 25)) w.heap.size l s := BlkV.new w _ _
theorem BlkM.set {w : World} {b : Nat} {l : List Int} {s : Bool} (h : BlkM w b l s) (k : Nat) (z : Int) (hk : k < l.length) : BlkM (w.setCell ⟨b, k, none⟩ (.int .i64 z)) b (l.set k z) s := by
  have := BlkV.set h k (.int .i64 z)
  unfold memC at this
  rw [mixC_set _ _ _ _ hk] at this
  exact this
theorem BlkM.put {w : World} {b : Nat} {l : List Int} {s : Bool} (h : BlkM w b l s) (o : Nat) (M : List Int) (hl : o + M.length ≤ l.length) : BlkM (putV w b o (intsV M)) b (ovr l o M) s ∧ w.grownBy (putV w b o (intsV M)) (some b) := by
  have := put_v h o (intsV M) (by rw [intsV_len]; unfold memC; rw [mixC_len]; omega)
  unfold memC at this
  rw [mixC_spl _ _ _ _ hl] at this
  exact this
theorem BlkM.putAll {w : World} {b : Nat} {l m : List Int} {s t : Bool} (h : BlkM w b l s) (hl : l.length = 101) (hm : m.length = 101) : BlkM (putV w b 0 (memC m t)) b m t ∧ w.grownBy (putV w b 0 (memC m t)) (some b) := by
  have := put_v h 0 (memC m t) (by rw [memC_len hm, memC_len hl]; omega)
  rw [splV_all _ _ (by rw [memC_len hm, memC_len hl])] at this
  exact this
theorem BlkM.part {l : List Int} (s : Bool) (o n : Nat) (h : o + n ≤ l.length) : ((memC l s).drop o).take n = intsV (prt l o n) := mixC_part _ _ _ _ h
theorem BlkM.all {l : List Int} (s : Bool) (h : l.length = 101) : ((memC l s).drop 0).take 102 = memC l s := by rw [List.drop_zero, List.take_of_length_le (by rw [memC_len h]; omega)]
theorem BlkM.ints {w : World} {b : Nat} {l : List Int} {s : Bool} (h : BlkM w b l s) (o n c : Nat) (hn : o + n ≤ l.length) (hc : n ≤ c) : Ints w (.slice (some ⟨b, o, none⟩) n c) (prt l o n) := BlkV.ints h o n c hn hc
def MemE (w : World) (m : List Int) (s : Bool) (L : List Int) (en : Int) (e : Ending) (w' : World) : Prop := ∃ v', e = .returned (.tuple #[memV m s, v', .int .i64 en]) ∧ Own w.heap.size w' v' L ∧ w.grownBy w' none
def CFr (f : Nat) (w : World) : Prop := ∀ wr, w.grownBy wr none → Calls Tryz.prog f #[] wr (AnsC wr (memV freL false))
theorem freL_64 : In64 freL := good_64 freL_len freL_good
end Go.Proofs.YtjepkgdejkifcaaGreatDoor

/- MemS -/
namespace Go.Proofs.YtjepkgdejkifcaaGreatDoor
open Go.RowKit
set_option linter.unusedVariables false
set_option linter.unusedSimpArgs false
def MmS (w : World) (l : List Int) (s : Bool) (wr : World) : Prop := BlkM wr w.heap.size l s ∧ BlkM wr (w.heap.size + 1) (zeros 101) false ∧ w.grownBy wr none
theorem MmS.new (w : World) (l : List Int) (s : Bool) : MmS w l s ((w.alloc (.cells (memC l s).toArray 25)).alloc (.cells (memC (zeros 101) false).toArray 25)) := by
  refine ⟨(BlkM.new w l s).keep (grown_alloc _ _ none), ?_, grown_none (grown_alloc _ _ none) (grown_alloc _ _ none)⟩
  have := BlkM.new (w.alloc (.cells (memC l s).toArray 25)) (zeros 101) false
  simpa using this
theorem MmS.keep {w : World} {l : List Int} {s : Bool} {wr wr' : World} (h : MmS w l s wr) (g : wr.grownBy wr' none) : MmS w l s wr' := ⟨h.1.keep g, h.2.1.keep g, grown_none h.2.2 g⟩
theorem MmS.set {w : World} {l : List Int} {s : Bool} {wr : World} (h : MmS w l s wr) (k : Nat) (z : Int) (hk : k < l.length) : MmS w (l.set k z) s (wr.setCell ⟨w.heap.size, k, none⟩ (.int .i64 z)) :=
  ⟨h.1.set k z hk, h.2.1.keepBut (grown_setCell wr ⟨w.heap.size, k, none⟩ _) (by simp), grown_own h.2.2 (grown_setCell wr ⟨w.heap.size, k, none⟩ _) (Nat.le_refl _)⟩
theorem MmS.put {w : World} {l : List Int} {s : Bool} {wr : World} (h : MmS w l s wr) (o : Nat) (M : List Int) (hl : o + M.length ≤ l.length) : MmS w (ovr l o M) s (putV wr w.heap.size o (intsV M)) := by
  have := h.1.put o M hl
  exact ⟨this.1, h.2.1.keepBut this.2 (by omega), grown_own h.2.2 this.2 (Nat.le_refl _)⟩
theorem MmS.fin {w : World} {l : List Int} {s : Bool} {wr : World} (h : MmS w l s wr) (m : List Int) (t : Bool) (hm : m.length = 101) : BlkM (putV wr (w.heap.size + 1) 0 (memC m t)) (w.heap.size + 1) m t ∧ w.grownBy (putV wr (w.heap.size + 1) 0 (memC m t)) none := by
  have := h.2.1.putAll (m := m) (t := t) (zeros_len 101) hm
  exact ⟨this.1, grown_own h.2.2 this.2 (by omega)⟩
theorem set_self (l : List Int) (k : Nat) (h : k < l.length) : l.set k (nth l k) = l := by
  apply List.ext_getElem?
  intro i
  rw [List.getElem?_set]
  by_cases e : k = i
  · subst e; simp [h, nth, List.getD]
  · simp [e]
theorem prt_set (l : List Int) (k : Nat) (z : Int) (o n : Nat) (hk : k < l.length) (h : k < o ∨ o + n ≤ k) : prt (l.set k z) o n = prt l o n := by
  refine tab_ext (prt_len _ _ _) (fun i hi => ?_)
  rw [prt_nth _ _ _ _ hi, setN _ _ _ hk, if_neg (by omega)]
theorem right_64 {l : List Int} (h : rightB l = true) : In64 l := fun i => by
  by_cases hi : i < l.length
  · have := (rightB_iff l).1 h i hi; omega
  · rw [getD_out _ i (by omega)]; omega
end Go.Proofs.YtjepkgdejkifcaaGreatDoor

/- CodW -/
namespace Go.Proofs.YtjepkgdejkifcaaGreatDoor
open Go.RowKit
set_option linter.unusedVariables false
set_option linter.unusedSimpArgs false
def MmL (w : World) (m : List Int) (s : Bool) (L : List Int) (e : Ending) (w' : World) : Prop := ∃ v', e = .returned (.tuple #[memV m s, v']) ∧ Own w.heap.size w' v' L ∧ w.grownBy w' none
theorem ints_partC (u : List Int) (o n : Nat) (h : o + n ≤ u.length) : ((intsV u).drop o).take n = intsV (prt u o n) := by
  have := mixC_part u [] o n h
  unfold mixC at this
  rwa [List.append_nil] at this
theorem ints_getC (u : List Int) (i : Nat) (h : i < u.length) : (intsV u)[i]? = some (.int .i64 (nth u i)) := by
  have := mixC_get u [] i h
  unfold mixC at this
  rwa [List.append_nil] at this
theorem ints_splC (u M : List Int) (o : Nat) (h : o + M.length ≤ u.length) : splV (intsV u) o (intsV M) = intsV (ovr u o M) := by
  have := mixC_spl u [] o M h
  unfold mixC at this
  rwa [List.append_nil, List.append_nil] at this
theorem putI {w : World} {b : Nat} {T : TypeId} {u : List Int} (h : BlkV w b T (intsV u)) (o : Nat) (M : List Int) (hl : o + M.length ≤ u.length) : BlkV (putV w b o (intsV M)) b T (intsV (ovr u o M)) ∧ w.grownBy (putV w b o (intsV M)) (some b) := by
  have := put_v h o (intsV M) (by rw [intsV_len, intsV_len]; omega)
  rw [ints_splC _ _ _ hl] at this
  exact this
theorem BlkV.ofBlk {w : World} {b : Nat} {T : TypeId} {u : List Int} (h : Blk w b T u) : BlkV w b T (intsV u) := h
theorem BlkV.toBlk {w : World} {b : Nat} {T : TypeId} {u : List Int} (h : BlkV w b T (intsV u)) : Blk w b T u := h
theorem BlkM.own {w w' : World} {b : Nat} {l : List Int} {s : Bool} {r : Option Nat} (h : BlkM w b l s) (g : w.grownBy w' r) (hr : ∀ x, r = some x → b ≠ x) : BlkM w' b l s := by
  rcases r with _ | x
  · exact h.keep g
  · exact h.keepBut g (hr x rfl)
theorem BlkV.own {w w' : World} {b : Nat} {T : TypeId} {cs : List Value} {r : Option Nat} (h : BlkV w b T cs) (g : w.grownBy w' r) (hr : ∀ x, r = some x → b ≠ x) : BlkV w' b T cs := by
  rcases r with _ | x
  · exact h.keep g
  · exact h.keepBut g (hr x rfl)
def QuM (w : World) (T : TypeId) (u : List Int) (l : List Int) (s : Bool) (wr : World) : Prop := BlkM wr w.heap.size l s ∧ BlkV wr (w.heap.size + 1) T (intsV u) ∧ BlkM wr (w.heap.size + 1 + 1) (zeros 101) false ∧ w.grownBy wr none
theorem QuM.new (w : World) (T : TypeId) (u l : List Int) (s : Bool) : QuM w T u l s (((w.alloc (.cells (memC l s).toArray 25)).alloc (.cells (arrI u) T)).alloc (.cells (memC (zeros 101) false).toArray 25)) := by
  refine ⟨((BlkM.new w l s).keep (grown_alloc _ _ none)).keep (grown_alloc _ _ none), ?_, ?_, grown_none (grown_none (grown_alloc _ _ none) (grown_alloc _ _ none)) (grown_alloc _ _ none)⟩
  · have := (BlkV.new (w.alloc (.cells (memC l s).toArray 25)) T (intsV u)).keep (grown_alloc _ (.cells (memC (zeros 101) false).toArray 25) none)
    rw [intsV_arr] at this
    simpa using this
  · have := BlkM.new ((w.alloc (.cells (memC l s).toArray 25)).alloc (.cells (arrI u) T)) (zeros 101) false
    simpa using this
theorem QuM.keep {w : World} {T : TypeId} {u l : List Int} {s : Bool} {wr wr' : World} (h : QuM w T u l s wr) (g : wr.grownBy wr' none) : QuM w T u l s wr' := ⟨h.1.keep g, h.2.1.keep g, h.2.2.1.keep g, grown_none h.2.2.2 g⟩
theorem QuM.own {w : World} {T : TypeId} {u l : List Int} {s : Bool} {wr wr' : World} {r : Option Nat} (h : QuM w T u l s wr) (g : wr.grownBy wr' r) (hr : ∀ x, r = some x → w.heap.size + 1 + 1 + 1 ≤ x) : QuM w T u l s wr' := by
  rcases r with _ | x
  · exact h.keep g
  · have := hr x rfl
    exact ⟨h.1.keepBut g (by omega), h.2.1.keepBut g (by omega), h.2.2.1.keepBut g (by omega), grown_own h.2.2.2 g (by omega)⟩
theorem QuM.mem {w : World} {T : TypeId} {u l m : List Int} {s t : Bool} {wr wr' : World} (h : QuM w T u l s wr) (hb : BlkM wr' w.heap.size m t) (g : wr.grownBy wr' (some w.heap.size)) : QuM w T u m t wr' := ⟨hb, h.2.1.keepBut g (by omega), h.2.2.1.keepBut g (by omega), grown_own h.2.2.2 g (Nat.le_refl _)⟩
theorem QuM.all {w : World} {T : TypeId} {u l m : List Int} {s t : Bool} {wr : World} (h : QuM w T u l s wr) (hl : l.length = 101) (hm : m.length = 101) : QuM w T u m t (putV wr w.heap.size 0 (memC m t)) ∧ wr.grownBy (putV wr w.heap.size 0 (memC m t)) (some w.heap.size) := by
  have := h.1.putAll (m := m) (t := t) hl hm
  exact ⟨h.mem this.1 this.2, this.2⟩
theorem QuM.put {w : World} {T : TypeId} {u l : List Int} {s : Bool} {wr : World} (h : QuM w T u l s wr) (o : Nat) (M : List Int) (hl : o + M.length ≤ l.length) : QuM w T u (ovr l o M) s (putV wr w.heap.size o (intsV M)) ∧ wr.grownBy (putV wr w.heap.size o (intsV M)) (some w.heap.size) := by
  have := h.1.put o M hl
  exact ⟨h.mem this.1 this.2, this.2⟩
theorem QuM.fin {w : World} {T : TypeId} {u l : List Int} {s : Bool} {wr : World} (h : QuM w T u l s wr) (m : List Int) (t : Bool) (hm : m.length = 101) : BlkM (putV wr (w.heap.size + 1 + 1) 0 (memC m t)) (w.heap.size + 1 + 1) m t ∧ w.grownBy (putV wr (w.heap.size + 1 + 1) 0 (memC m t)) none ∧ wr.grownBy (putV wr (w.heap.size + 1 + 1) 0 (memC m t)) (some (w.heap.size + 1 + 1)) := by
  have := h.2.2.1.putAll (m := m) (t := t) (zeros_len 101) hm
  exact ⟨this.1, grown_own h.2.2.2 this.2 (by omega), this.2⟩
end Go.Proofs.YtjepkgdejkifcaaGreatDoor

/- LpcA -/
namespace Go.Proofs.YtjepkgdejkifcaaGreatDoor
open Go.RowKit
set_option linter.unusedVariables false
set_option linter.unusedSimpArgs false
set_option maxHeartbeats 1000000
def Ans (w : World) (r : Value) (e : Ending) (w' : World) : Prop := e = .returned r ∧ w' = w
def AnsG (w : World) (r : Value) (e : Ending) (w' : World) : Prop := e = .returned r ∧ w.grownBy w' none
def inB (lo hi : Int) (l : List Int) : Bool := l.all fun x => decide (lo ≤ x) && decide (x ≤ hi)
theorem inB_iff (lo hi : Int) (l : List Int) : inB lo hi l = true ↔ ∀ i, i < l.length → lo ≤ nth l i ∧ nth l i ≤ hi := by
  unfold inB
  rw [all_iff]
  simp
theorem inB_no {lo hi : Int} {l : List Int} (i : Nat) (hi' : i < l.length) (h : ¬ (lo ≤ nth l i ∧ nth l i ≤ hi)) : inB lo hi l = false := by
  rcases hb : inB lo hi l with _ | _
  · rfl
  · exact absurd ((inB_iff lo hi l).1 hb i hi') h
theorem inB_steady (k : List Int) : inB (-32767) 32767 k = steadyB k := by
  unfold inB steadyB
  congr 1
  funext q
  congr 1 <;> apply decide_eq_decide.2 <;> omega
theorem inB_rng (k : List Int) : inB (-2147483647) 2147483647 k = rngB k := rfl
theorem within_any (x lo hi : Int) (w : World) : Calls Tryz.prog 163 #[.int .i64 x, .int .i64 lo, .int .i64 hi] w (Ans w (.bool (decide (lo ≤ x) && decide (x ≤ hi)))) := by
  have F := hide (fun b (hb : (decide (lo ≤ x) && decide (x ≤ hi)) = b) => (show Ans w (.bool (decide (lo ≤ x) && decide (x ≤ hi))) (.returned (.bool b)) w from ⟨by rw [hb], rfl⟩))
  generalize Ans w (.bool (decide (lo ≤ x) && decide (x ≤ hi))) = T at *
  by_cases b1 : lo ≤ x
  · by_cases b2 : x ≤ hi
    · have G := hide (F.out true (by simp [b1, b2]))
      clear F
      go_enter Tryz.func163, Tryz.ntmps163
      go_wp2_with fail
      exact G.out
    · have G := hide (F.out false (by simp [b1, b2]))
      clear F
      go_enter Tryz.func163, Tryz.ntmps163
      go_wp2_with fail
      exact G.out
  · have G := hide (F.out false (by simp [b1]))
    clear F
    go_enter Tryz.func163, Tryz.ntmps163
    go_wp2_with fail
    exact G.out
theorem allWithin_any (v : Value) (l : List Int) (lo hi : Int) (w : World) (h : Ints w v l) (hl : l.length ≤ 1000000000000000000) :
    Calls Tryz.prog 161 #[v, .int .i64 lo, .int .i64 hi] w (Ans w (.bool (inB lo hi l))) := by
  obtain ⟨ad, c, rfl, hc, hcell⟩ := h
  have Y := hide (fun (hh : ∀ i, i < l.length → lo ≤ nth l i ∧ nth l i ≤ hi) => (show Ans w (.bool (inB lo hi l)) (.returned (.bool true)) w from ⟨by rw [(inB_iff lo hi l).2 hh], rfl⟩))
  have N := hide (fun i (hi' : i < l.length) (hh : ¬ (lo ≤ nth l i ∧ nth l i ≤ hi)) => (show Ans w (.bool (inB lo hi l)) (.returned (.bool false)) w from ⟨by rw [inB_no i hi' hh], rfl⟩))
  generalize Ans w (.bool (inB lo hi l)) = T at *
  go_enter Tryz.func161, Tryz.ntmps161
  go_wp2_with fail
  go_loop [8, 11] (fun _ i => ∃ k : Nat, i = .int .i64 k ∧ k ≤ l.length ∧ Hid (∀ i, i < k → lo ≤ nth l i ∧ nth l i ≤ hi)) (fun _ i => l.length - (intOf i).toNat)
  case atStart => exact ⟨0, rfl, Nat.zero_le _, fun i hi => by omega⟩
  case round =>
    obtain ⟨k, rfl, hk, hG⟩ := hrel
    by_cases hkl : k < l.length
    · obtain ⟨a, rfl, hv⟩ := hcell (by omega)
      have hck := hv k hkl
      have NK := hide (N.out k hkl)
      have GK := hide (fun (hh : lo ≤ nth l k ∧ nth l k ≤ hi) => (show ∀ i, i < k + 1 → lo ≤ nth l i ∧ nth l i ≤ hi from fun i hi => by
        rcases Nat.lt_or_ge i k with g | g
        · exact hG.out i g
        · obtain rfl : i = k := by omega
          exact hh))
      clear hcell hv Y N hG
      generalize nth l k = z at *
      go_wp2_with fail
      refine (within_any z lo hi w).mono ?_
      rintro e w1 ⟨rfl, rfl⟩
      rcases hb : (decide (lo ≤ z) && decide (z ≤ hi)) with _ | _
      · have F := hide (NK.out (fun h => by simp [h] at hb))
        clear NK GK hb
        go_wp2_with fail
        exact F.out
      · have F := hide (GK.out (by simpa using hb))
        clear NK GK hb
        go_wp2_with fail
        go_round
        case rel => exact ⟨k + 1, by go_num, by omega, F.out⟩
        case measure => simp [intOf]; omega
    · obtain rfl : k = l.length := by omega
      have F := hide (Y.out hG.out)
      clear hcell Y N hG
      go_wp2_with fail
      exact F.out
theorem Ints_blk {w : World} {b : Nat} {T : TypeId} {rs : List Int} (h : Blk w b T rs) (c : Nat) (hc : rs.length ≤ c) : Ints w (.slice (some ⟨b, 0, none⟩) rs.length c) rs := by
  refine ⟨some ⟨b, 0, none⟩, c, rfl, hc, fun _ => ⟨_, rfl, fun i hi => ?_⟩⟩
  rw [Addr.add_mid, Nat.zero_add]
  exact h.cell i hi
theorem reflections_any (k : List Int) (hk : k.length = 8) (w : World) : Calls Tryz.prog 193 #[.agg (arrI k)] w (AnsG w (.bool (steadyB k))) := by
  have B0 := hide (Ints_blk (Blk.new w 22 k) 8 (by omega))
  rw [hk] at B0
  have G0 := hide (grown_alloc w (.cells (arrI k) 22) none)
  have A := hide (allWithin_any (.slice (some ⟨w.heap.size, 0, none⟩) 8 8) k (-32767) 32767 _ B0.out (by omega))
  rw [inB_steady] at A
  have F := hide (show AnsG w (.bool (steadyB k)) (.returned (.bool (steadyB k))) (w.alloc (.cells (arrI k) 22)) from ⟨rfl, G0.out⟩)
  generalize AnsG w (.bool (steadyB k)) = T at *
  generalize steadyB k = b at *
  clear B0 G0
  go_enter Tryz.func193, Tryz.ntmps193
  go_wp2_with fail
  refine A.out.mono ?_
  rintro e w1 ⟨rfl, rfl⟩
  go_wp2_with fail
  exact F.out
theorem rounded12 (x : Int) (h1 : -4611686018427387904 ≤ x) (h2 : x ≤ 4611686018427387904) (w : World) : Calls Tryz.prog 194 #[.int .i64 x, .int .i64 12] w (Ans w (.int .i64 ((x + 2048) / 4096))) := by
  have F := hide (show Ans w (.int .i64 ((x + 2048) / 4096)) (.returned (.int .i64 ((x + 2048) / 4096))) w from ⟨rfl, rfl⟩)
  generalize Ans w (.int .i64 ((x + 2048) / 4096)) = T at *
  go_enter Tryz.func194, Tryz.ntmps194
  go_wp2_with fail
  exact F.out
end Go.Proofs.YtjepkgdejkifcaaGreatDoor

/- Base -/
namespace Go.Proofs.YtjepkgdejkifcaaGreatDoor
open Go.RowKit
set_option maxHeartbeats 400000
theorem ret2 {k : IntKind} {a b : Int} {p q : Bool} (h : a = b) (h' : p = q) : Ending.returned (.tuple #[.int k a, .bool p]) = .returned (.tuple #[.int k b, .bool q]) := by rw [h, h']
theorem sat16_any (x : Int) (w : World) :
    Calls Tryz.prog 209 #[.int .i64 x] w fun e w' => e = .returned (.tuple #[.int .i64 (c16 x), .bool (o16 x)]) ∧ w' = w := by
  have hs := stop16 x
  by_cases h1 : x < -32768
  · have e : c16 x = -32768 := by unfold c16; simp [h1]
    have e' : o16 x = true := by unfold o16; rw [e]; simp; omega
    clear hs; rw [e, e']; clear e e'
    go_enter Tryz.func209, Tryz.ntmps209
    go_wp2
    go_ret2
    exact ⟨ret2 rfl (by simp; omega), rfl⟩
  · by_cases h2 : 32767 < x
    · have e : c16 x = 32767 := by unfold c16; simp [h1, h2]
      have e' : o16 x = true := by unfold o16; rw [e]; simp; omega
      clear hs; rw [e, e']; clear e e'
      go_enter Tryz.func209, Tryz.ntmps209
      go_wp2
      go_ret2
      exact ⟨ret2 rfl (by simp; omega), rfl⟩
    · have e : c16 x = x := by unfold c16; simp [h1, h2]
      have e' : o16 x = false := by unfold o16; rw [e]; simp
      clear hs; rw [e, e']; clear e e'
      go_enter Tryz.func209, Tryz.ntmps209
      go_wp2
      go_ret2
      exact ⟨ret2 rfl (by simp), rfl⟩
theorem sub_any (a b : Int) (w : World) :
    Calls Tryz.prog 218 #[.int .i64 a, .int .i64 b] w fun e w' => e = .returned (.tuple #[.int .i64 (c16 (c16 a - c16 b)), .bool (o16 (c16 a - c16 b))]) ∧ w' = w := by
  obtain ⟨a1, a2⟩ := c16_bd a; obtain ⟨b1, b2⟩ := c16_bd b
  go_enter Tryz.func218, Tryz.ntmps218
  go_wp2_with (first | (go_at_call 209; refine (sat16_any _ _).mono ?_; rintro e w' ⟨rfl, rfl⟩) | go_in)
  go_ret2
  exact ⟨rfl, rfl⟩
end Go.Proofs.YtjepkgdejkifcaaGreatDoor

/- SynA -/
namespace Go.Proofs.YtjepkgdejkifcaaGreatDoor
open Go.RowKit
set_option linter.unusedVariables false
set_option linter.unusedSimpArgs false
set_option maxHeartbeats 1000000
theorem stopped_any (x : Int) (w : World) : Calls Tryz.prog 216 #[.int .i64 x] w (Ans w (.int .i64 (c16 x))) := by
  have F := hide (show Ans w (.int .i64 (c16 x)) (.returned (.int .i64 (c16 x))) w from ⟨rfl, rfl⟩)
  have S := hide (sat16_any x w)
  generalize Ans w (.int .i64 (c16 x)) = T at *
  go_enter Tryz.func216, Tryz.ntmps216
  go_wp2_with fail
  refine S.out.mono ?_
  rintro e w1 ⟨rfl, rfl⟩
  clear S
  go_wp2_with fail
  exact F.out
theorem synRounded_any (x : Int) (h1 : -4611686018427387904 ≤ x) (h2 : x ≤ 4611686018427387904) (w : World) : Calls Tryz.prog 217 #[.int .i64 x] w (Ans w (.int .i64 ((x + 2048) / 4096))) := by
  have F := hide (show Ans w (.int .i64 ((x + 2048) / 4096)) (.returned (.int .i64 ((x + 2048) / 4096))) w from ⟨rfl, rfl⟩)
  generalize Ans w (.int .i64 ((x + 2048) / 4096)) = T at *
  go_enter Tryz.func217, Tryz.ntmps217
  go_wp2_with fail
  exact F.out
theorem c16_out (z : Int) (h : ¬ (-32768 ≤ z ∧ z ≤ 32767)) : ¬ c16 z = z := by
  unfold c16
  split
  · omega
  · split <;> omega
theorem synSamples_any (v : Value) (l : List Int) (w : World) (h : Ints w v l) (hl : l.length ≤ 1000000000000000000) :
    Calls Tryz.prog 215 #[v] w (Ans w (.bool (rightB l))) := by
  obtain ⟨ad, c, rfl, hc, hcell⟩ := h
  have Y := hide (fun (hh : ∀ i, i < l.length → -32768 ≤ nth l i ∧ nth l i ≤ 32767) => (show Ans w (.bool (rightB l)) (.returned (.bool true)) w from ⟨by rw [(rightB_iff l).2 hh], rfl⟩))
  have N := hide (fun i (hi' : i < l.length) (hh : ¬ (-32768 ≤ nth l i ∧ nth l i ≤ 32767)) => (show Ans w (.bool (rightB l)) (.returned (.bool false)) w from ⟨by
    rcases hb : rightB l with _ | _
    · rfl
    · exact absurd ((rightB_iff l).1 hb i hi') hh, rfl⟩))
  generalize Ans w (.bool (rightB l)) = T at *
  go_enter Tryz.func215, Tryz.ntmps215
  go_wp2_with fail
  go_loop [7] (fun i => ∃ k : Nat, i = .int .i64 k ∧ k ≤ l.length ∧ Hid (∀ i, i < k → -32768 ≤ nth l i ∧ nth l i ≤ 32767)) (fun i => l.length - (intOf i).toNat)
  case atStart => exact ⟨0, rfl, Nat.zero_le _, fun i hi => by omega⟩
  case round =>
    obtain ⟨k, rfl, hk, hG⟩ := hrel
    by_cases hkl : k < l.length
    · obtain ⟨a, rfl, hv⟩ := hcell (by omega)
      have hck := hv k hkl
      have NK := hide (N.out k hkl)
      have GK := hide (fun (hh : -32768 ≤ nth l k ∧ nth l k ≤ 32767) => (show ∀ i, i < k + 1 → -32768 ≤ nth l i ∧ nth l i ≤ 32767 from fun i hi => by
        rcases Nat.lt_or_ge i k with g | g
        · exact hG.out i g
        · obtain rfl : i = k := by omega
          exact hh))
      clear hcell hv Y N hG
      generalize nth l k = z at *
      have kl1 : (k : Int) < l.length := by omega
      have ST := hide (stopped_any z w)
      by_cases hz : -32768 ≤ z ∧ z ≤ 32767
      · have F := hide (GK.out hz)
        rw [c16_id z hz.1 hz.2] at ST
        clear NK GK hz
        go_wp2_with fail
        refine ST.out.mono ?_
        rintro e w1 ⟨rfl, rfl⟩
        clear ST
        go_wp2_with fail
        go_round
        case rel => exact ⟨k + 1, by go_num, by omega, F.out⟩
        case measure => simp [intOf]; omega
      · have F := hide (NK.out hz)
        have hne := c16_out z hz
        have hne' : (c16 z == z) = false := by simpa using hne
        generalize c16 z = y at *
        clear NK GK hz
        go_wp2_with fail
        refine ST.out.mono ?_
        rintro e w1 ⟨rfl, rfl⟩
        clear ST
        go_wp2_with fail
        exact F.out
    · obtain rfl : k = l.length := by omega
      have F := hide (Y.out hG.out)
      clear hcell Y N hG
      go_wp2_with fail
      exact F.out
def prdB (a : List Int) : Bool := wide20 a && decide (nth a 0 = 4096)
theorem okF_prd (a p l : List Int) : okF a p l = (prdB a && rightB p && rightB l) := rfl
set_option maxRecDepth 100000 in
theorem predictor_any (a : List Int) (ha : a.length = 9) (w : World) : Calls Tryz.prog 237 #[.agg (arrI a)] w (AnsG w (.bool (prdB a))) := by
  have B0 := hide (Blk.new w 88 a)
  have G0 := hide (grown_alloc w (.cells (arrI a) 88) none)
  have IX := hide (fun j hj => index_arr a Tryz.underlying88 j hj ha)
  go_enter Tryz.func237, Tryz.ntmps237
  go_wp2_with (refine wpList_load_arr rfl 88 _ rfl _ rfl _ B0.out _ Tryz.underlying88 rfl (by rw [ha]; exact size9') ?_)
  generalize w.alloc (.cells (arrI a) 88) = W0 at *
  go_loop [6] (fun i => ∃ m : Nat, i = .int .i64 m ∧ m ≤ 9 ∧ Hid (∀ j, j < m → -1048576 ≤ nth a j ∧ nth a j ≤ 1048576)) (fun i => 9 - (intOf i).toNat)
  case atStart => exact ⟨0, rfl, Nat.zero_le _, fun j hj => by omega⟩
  case round =>
    obtain ⟨m, rfl, hm, hF⟩ := hrel
    by_cases hm9 : m < 9
    · have ix := IX.out m (by omega)
      have i1 : (m : Int) < 9 := by omega
      by_cases hx : -1048576 ≤ nth a m ∧ nth a m ≤ 1048576
      · have NF := hide (show ∀ j, j < m + 1 → -1048576 ≤ nth a j ∧ nth a j ≤ 1048576 from fun j hj => by
          by_cases h : j = m
          · subst h; exact hx
          · exact hF.out j (by omega))
        obtain ⟨x1, x2⟩ := hx
        clear hF IX
        generalize nth a m = x at *
        go_wp2_with fail
        go_round
        case rel => exact ⟨m + 1, by go_num, by omega, NF.out⟩
        case measure => simp [intOf]; omega
      · have OK := hide (show prdB a = false from by
          have : wide20 a = false := by
            rcases hb : wide20 a with _ | _
            · rfl
            · exact absurd ((wide20_iff a).1 hb m (by omega)) hx
          unfold prdB; rw [this]; rfl)
        clear hF IX
        generalize nth a m = x at *
        by_cases hx1 : x < -1048576
        · go_wp2_with fail
          go_ret
          exact ⟨by rw [OK.out]; rfl, G0.out⟩
        · have hx2 : 1048576 < x := by omega
          go_wp2_with fail
          go_ret
          exact ⟨by rw [OK.out]; rfl, G0.out⟩
    · obtain rfl : m = 9 := by omega
      have W20 := hide (show wide20 a = true from (wide20_iff a).2 (fun i hi => hF.out i (by omega)))
      have c0 := B0.out.cell 0 (by omega)
      have OK := hide (show prdB a = decide (nth a 0 = 4096) from by unfold prdB; rw [W20.out]; rfl)
      clear hF IX B0 W20
      generalize nth a 0 = x at *
      by_cases hx : x = 4096
      · subst hx
        go_wp2_with fail
        go_ret
        exact ⟨by rw [OK.out]; rfl, G0.out⟩
      · have HX := hide (decide_eq_false hx)
        have hx' : (x == 4096) = false := by simpa using hx
        go_wp2_with fail
        go_ret
        exact ⟨by rw [OK.out, HX.out]; rfl, G0.out⟩
def gsum0 (a h : List Int) (n : Nat) : Int := gsum a h n - 2048
theorem gsum0_step (a h : List Int) (n : Nat) : gsum0 a h (n + 1) = gsum0 a h n + nth a (n + 1) * nth h n := by
  unfold gsum0
  show gsum a h n + nth a (n + 1) * nth h n - 2048 = _
  omega
theorem gsum0_gs (a h : List Int) : (gsum0 a h 8 + 2048) / 4096 = gs a h := by unfold gsum0 gs; congr 1; omega
set_option maxRecDepth 100000 in
theorem pguess_any (a p : List Int) (ha : a.length = 9) (hp : p.length = 8) (w : World) (wa : wide20 a = true) (rp : rightB p = true) :
    Calls Tryz.prog 238 #[.agg (arrI a), .agg (arrI p)] w (AnsG w (.int .i64 (gs a p))) := by
  have L0 := hide (laid2 w 88 22 a p)
  have IX := hide (fun j hj => index_arr p Tryz.underlying22 j hj hp)
  have AB := hide (nth_in a (-1048576) 1048576 (by omega) (by omega) ((wide20_iff a).1 wa))
  have PB := hide (nth_in p _ _ (by omega) (by omega) ((rightB_iff p).1 rp))
  have SB := hide (gsum_bd a p AB.out PB.out)
  have HS := hide (gsum0_step a p)
  have HG := hide (gsum0_gs a p)
  have S0 := hide (fun n => show gsum0 a p n = gsum a p n - 2048 from rfl)
  clear wa rp
  generalize gs a p = G at *
  go_enter Tryz.func238, Tryz.ntmps238
  go_wp2_with (refine wpList_load_arr rfl 22 _ rfl _ rfl _ L0.out.2.1 _ Tryz.underlying22 rfl (by rw [hp]; exact size8') ?_)
  have BA := hide L0.out.1
  have G0 := hide L0.out.2.2
  clear L0
  generalize (w.alloc (.cells (arrI a) 88)).alloc _ = W0 at *
  go_loop [5, 9] (fun s i => ∃ m : Nat, i = .int .i64 m ∧ s = .int .i64 (gsum0 a p m) ∧ m ≤ 8) (fun _ i => 8 - (intOf i).toNat)
  case atStart => exact ⟨0, rfl, rfl, Nat.zero_le _⟩
  case round =>
    obtain ⟨m, rfl, rfl, hm⟩ := hrel
    by_cases hm8 : m < 8
    · have ix := IX.out m (by omega)
      have ca := BA.out.cell (m + 1) (by omega)
      obtain ⟨a1, a2⟩ := AB.out (m + 1)
      obtain ⟨p1, p2⟩ := PB.out m
      obtain ⟨s1, s2⟩ := SB.out m
      have s0 := S0.out m
      have hs := HS.out m
      have HS1 := hide hs
      obtain ⟨q1, q2⟩ := prd20_bd _ _ a1 a2 p1 p2
      have i1 : (m : Int) < 8 := by omega
      have t1 : -600000000000 ≤ gsum0 a p m := by omega
      have t2 : gsum0 a p m ≤ 600000000000 := by omega
      clear hs s0 s1 s2 IX AB PB SB HS HG S0
      generalize gsum0 a p m = S at *
      generalize nth a (m + 1) = x at *
      generalize nth p m = y at *
      go_wp2_with fail
      go_round
      case rel => exact ⟨m + 1, by go_num, by rw [HS1.out], by omega⟩
      case measure => simp [intOf]; omega
    · obtain rfl : m = 8 := by omega
      obtain ⟨s1, s2⟩ := SB.out 8
      have s0 := S0.out 8
      have RD := hide (fun w' => synRounded_any (gsum0 a p 8) (by omega) (by omega) w')
      rw [HG.out] at RD
      clear s0 s1 s2 IX AB PB SB HS HG S0
      generalize gsum0 a p 8 = S at *
      go_wp2_with fail
      refine (RD.out _).mono ?_
      rintro e w1 ⟨rfl, rfl⟩
      clear RD
      go_wp2_with fail
      go_ret
      exact ⟨rfl, G0.out⟩
end Go.Proofs.YtjepkgdejkifcaaGreatDoor

/- SynB -/
namespace Go.Proofs.YtjepkgdejkifcaaGreatDoor
open Go.RowKit
set_option linter.unusedVariables false
set_option linter.unusedSimpArgs false
set_option maxHeartbeats 1000000
theorem grown_setRow' (w : World) (g : Nat) (cs : Array Value) : w.grownBy (w.setRow g cs) (some g) :=
  ⟨rfl, rfl, rfl, by simp, fun k _ h => setRow_other w g k cs (fun e => h (by rw [e]))⟩
theorem copy_row (p : List Int) (hp : p.length = 8) : ((arrI p).toList.take 1 ++ (p.take 7).map (Value.int .i64) ++ (arrI p).toList.drop (1 + ((p.take 7).map (Value.int .i64)).length)).toArray = arrI (nth p 0 :: p.take 7) := by
  match p, hp with
  | [a, b, c, d, e, f, g, h], _ => rfl
theorem step_copy_blk {y : Nat → Option Bool} {o : Oper} {a : Act} {w : World} {K : Act → World → Prop} {Q : Exit → Act → World → Prop} {E : Prop} (hg : o.guard = none) (d s : Operand)
    (hop : o.op = Op.call { callee := Callee.builtin Builtin.copy, args := #[d, s], argTypes := #[27, 27] }) (b : Nat) (T : TypeId) (p : List Int) (hb : Blk w b T p) (hp : p.length = 8)
    (hd : a.eval d = .slice (some ⟨b, 1, none⟩) 7 7) (hs : a.eval s = .slice (some ⟨b, 0, none⟩) 8 8)
    (hK : ∀ w', Blk w' b T (nth p 0 :: p.take 7) → w.grownBy w' (some b) → K (a.put o.dst (goInt 7)) w') : if Region.wanted o y = true then Oper.wp Tryz.prog o a w K Q else E := by
  have hw : Region.wanted o y = true := by simp [Region.wanted, hg]
  rw [if_pos hw]
  have hsz : (Tryz.prog.info? 3).map (·.size) = some 1 := by kernel_rfl
  have hrun := run_copy_row (P := Tryz.prog) w 27 27 o.type 3 b 1 7 7 ⟨b, 0, none⟩ 8 8 (arrI p) T ((p.take 7).map (Value.int .i64)) Tryz.underlying27 hsz hb (by simp [hp])
    (fun j v hv => by
      have hj : j < 7 := by
        by_cases hj : j < 7
        · exact hj
        · rw [List.getElem?_eq_none (by simp; omega)] at hv; cases hv
      rw [Addr.add_mid, Nat.zero_add, hb.cell j (by omega)]
      rw [List.getElem?_map, List.getElem?_take, if_pos hj] at hv
      simpa [nth, List.getD, show j < p.length by omega] using hv)
    (by simp [arrI, hp]) (fun v hv => by
      obtain ⟨x, _, rfl⟩ := List.mem_map.1 hv
      rfl)
  rw [copy_row p hp, show ((p.take 7).map (Value.int .i64)).length = 7 by simp [hp]] at hrun
  unfold Oper.wp
  simp [execOp, hop, resolve, invoke, builtin, hd, hs, hrun, Result.andThen]
  exact hK _ (setRow_heap _ _ _ _ _ _ hb) (grown_setRow' _ _ _)
def aftL (p : List Int) (s : Int) : List Int := s :: p.take 7
theorem aftL_len (p : List Int) (s : Int) (hp : p.length = 8) : (aftL p s).length = 8 := by simp [aftL, hp]
theorem aft_newL (p l : List Int) (s : Int) : aftL (newL p l) s = newL p (l ++ [s]) := by
  apply tab_ext (aftL_len _ _ (newL_len _ _))
  intro i hi
  rw [← newL_nth _ _ _ hi, newL_snoc _ _ _ _ hi]
  by_cases h0 : i = 0
  · subst h0; rfl
  · rw [if_neg h0]
    obtain ⟨j, rfl⟩ : ∃ j, i = j + 1 := ⟨i - 1, by omega⟩
    show nth ((newL p l).take 7) j = nth (newL p l) (j + 1 - 1)
    rw [nth_take _ _ _ (by omega), Nat.add_sub_cancel]
set_option maxRecDepth 100000 in
theorem after_any (p : List Int) (hp : p.length = 8) (s : Int) (w : World) :
    Calls Tryz.prog 239 #[.agg (arrI p), .int .i64 s] w (AnsG w (.agg (arrI (aftL p s)))) := by
  have L0 := hide (laid2 w 22 22 p (zeros 8))
  rw [z8'] at L0
  go_enter Tryz.func239, Tryz.ntmps239
  go_upto_region 1 with fail
  have M0 := hide (show Mem2 w _ 22 22 p (zeros 8) from L0.out)
  clear L0
  generalize (w.alloc (.cells (arrI p) 22)).alloc _ = W0 at *
  refine wp_region_held_drew (S := GrownW w) (by kernel_rfl) (grown_drew M0.out.2.2) (fun hHeld => ?_)
  refine wpAnyH_take (i := 0) (v := .slice (some ⟨w.heap.size, 1, none⟩) 7 7) rfl (by kernel_rfl) (by kernel_rfl) (by kernel_rfl) (fun _ _ _ h => h) (Or.inl ⟨by rfl, ?ya0⟩) hHeld ?ra0
  case ya0 => (intro w' hSw; go_simp; (try with_reducible rfl))
  (try simp only [Act.put, sL])
  refine wpAnyH_take (i := 1) (v := .slice (some ⟨w.heap.size, 0, none⟩) 8 8) rfl (by kernel_rfl) (by kernel_rfl) (by kernel_rfl) (fun _ _ _ h => h) (Or.inl ⟨by rfl, ?ya1⟩) hHeld ?ra1
  case ya1 => (intro w' hSw; go_simp; (try with_reducible rfl))
  (try simp only [Act.put, sL])
  refine wpAnyH_ready (rs := [2]) (by kernel_rfl) (by simp) (AllReadyH.cons rfl (fun K hK => ?_) AllReadyH.nil)
  (try simp only [Act.put, sL])
  refine step_copy_blk rfl _ _ rfl w.heap.size 22 p (M0.out.1.keep (gw_start W0)) hp rfl rfl ?_
  intro w1 b1 g1
  have B1 := hide b1
  have G1 := hide g1
  have N0 := hide M0.out.1.lt
  have BB := hide ((M0.out.2.1.keep (gw_start W0)).keepBut G1.out (by omega))
  have GM := hide (grown_own hHeld G1.out (Nat.le_refl _))
  clear b1 g1 M0 G1 N0 hHeld
  refine hK.out _ _ GM.out (fun hHeld => ?_)
  clear hK
  (try simp only [Act.put, sL])
  refine wpAnyH_done (by kernel_rfl) ?_ _
  have hl1 : (nth p 0 :: p.take 7).length = 8 := by simp [hp]
  have c0 := B1.out.cell 0 (by rw [hl1]; omega)
  have f0 := B1.out.free 0
  have BS := hide (B1.out.set 0 s)
  have GS := hide (grown_setCell w1 ⟨w.heap.size, 0, none⟩ (.int .i64 s))
  have hl2 := aftL_len p s hp
  rw [show (nth p 0 :: p.take 7).set 0 s = aftL p s from rfl] at BS
  clear B1
  generalize nth (nth p 0 :: p.take 7) 0 = x0 at *
  generalize aftL p s = q at *
  go_upto_region 3 with fail
  have BB2 := hide (BB.out.keepBut GS.out (by simp))
  have GM2 := hide (grown_own GM.out GS.out (by simp))
  clear BB GM GS c0 f0
  generalize w1.setCell _ _ = w2 at *
  go_wp2_with (first | refine wpList_load_arr rfl 22 _ rfl _ rfl _ BS.out _ Tryz.underlying22 rfl (by rw [hl2]; exact size8') ?_ | refine wpList_store_arr rfl 22 _ _ rfl _ (zeros 8) q rfl rfl BB2.out (by rw [hl2, zeros_len]) (by rw [zeros_len]; exact size8') ?_)
  have PU := put_arr (rs' := q) BB2.out (by rw [hl2, zeros_len])
  have hlv := loadVar_arr PU.1 _ Tryz.underlying22 rfl (by rw [hl2]; exact size8')
  have GF := hide (grown_own GM2.out PU.2 (by omega))
  refine bodyPost_ret (v := .agg (arrI q)) ?_ rfl ⟨rfl, GF.out⟩
  simp [results, Tryz.results239, asAddr, Act.put, hlv]
end Go.Proofs.YtjepkgdejkifcaaGreatDoor

/- Order -/
namespace Go.Proofs.YtjepkgdejkifcaaGreatDoor
set_option linter.unusedVariables false
section
variable {P : Program} {ops : Array Oper} {Q : Exit → Act → World → Prop} {md : Region.Mode} {S : World → Prop} {g : Nat}
def Closed (md : Region.Mode) (ops : Array Oper) (listed : Array Bool) : Prop :=
  ∀ j oj, ops[j]? = some oj → listed.getD j false = true → ∀ e ∈ oj.after, Region.binds md e = true → listed.getD e.on false = true
theorem getD_set_inv {listed : Array Bool} {i j : Nat} (h : (listed.setIfInBounds i true).getD j false = true) : j = i ∨ listed.getD j false = true := by
  by_cases hij : i = j
  · exact Or.inl hij.symm
  · rw [getD_set_ne false hij] at h; exact Or.inr h
theorem Closed.set {listed : Array Bool} {i : Nat} (h : Closed md ops listed) (hi : i ∈ Region.ready md ops listed) : Closed md ops (listed.setIfInBounds i true) := by
  intro j oj hj hl e he hb
  apply getD_set_true
  rcases getD_set_inv hl with rfl | hl
  · obtain ⟨_, o, ho, hall⟩ := mem_ready.1 hi
    rw [hj] at ho; cases ho
    exact hall e he hb
  · exact h j oj hj hl e he hb
theorem Closed.zero (n : Nat) : Closed md ops (Array.replicate n false) := fun j oj _ hl => by rw [getD_replicate_false] at hl; cases hl
def anc (md : Region.Mode) (ops : Array Oper) (i : Nat) : Nat → Nat → Bool
  | 0, _ => false
  | f + 1, j => Region.waitsFor md ops j i || (List.range ops.size).any fun n => Region.waitsFor md ops j n && anc md ops i f n
theorem anc_spec {i : Nat} {listed : Array Bool} (hc : Closed md ops listed) (hi : listed.getD i false = false) : ∀ (f j : Nat), anc md ops i f j = true → listed.getD j false = false ∧ j ∉ Region.ready md ops listed
  | 0, j, h => by cases h
  | f + 1, j, h => by
    have key : ∀ n, Region.waitsFor md ops j n = true → listed.getD n false = false → listed.getD j false = false ∧ j ∉ Region.ready md ops listed := by
      intro n hw hn
      obtain ⟨oj, hj, e, he, hb, hon⟩ := Region.waitsFor_spec hw
      refine ⟨?_, ?_⟩
      · cases hl : listed.getD j false
        · rfl
        · have := hc j oj hj hl e he hb; rw [hon, hn] at this; cases this
      · intro hr
        obtain ⟨_, o, ho, hall⟩ := mem_ready.1 hr
        rw [hj] at ho; cases ho
        have := hall e he hb; rw [hon, hn] at this; cases this
    simp only [anc, Bool.or_eq_true, List.any_eq_true, List.mem_range, Bool.and_eq_true] at h
    rcases h with h | ⟨n, _, h1, h2⟩
    · exact key i h hi
    · exact key n h1 (anc_spec hc hi f n h2).1
def wpAnyG (P : Program) (md : Region.Mode) (ops : Array Oper) (Q : Exit → Act → World → Prop) (S : World → Prop) (g : Nat) : Nat → Array Bool → Act → World → Prop
  | 0, listed, a, w => Region.ready md ops listed = [] ∧ Q .normal a w
  | fuel + 1, listed, a, w =>
    (Region.ready md ops listed = [] → Q .normal a w) ∧
    ∀ i ∈ Region.ready md ops listed, wpOp P ops Q i (fun a' w' => ((listed.setIfInBounds i true).getD g false = false → S w') ∧ wpAnyG P md ops Q S g fuel (listed.setIfInBounds i true) a' w') a w
theorem wpAny_of_G : ∀ (fuel : Nat) (listed : Array Bool) (a : Act) (w : World), wpAnyG P md ops Q S g fuel listed a w → wpAny P md ops Q fuel listed a w
  | 0, _, _, _, h => h
  | fuel + 1, _, _, _, h => ⟨h.1, fun i hi => wpOp_mono (fun a' w' h' => wpAny_of_G fuel _ a' w' h'.2) (h.2 i hi)⟩
theorem wpAnyG_of_any : ∀ (fuel : Nat) (listed : Array Bool) (a : Act) (w : World), listed.getD g false = true → wpAny P md ops Q fuel listed a w → wpAnyG P md ops Q S g fuel listed a w
  | 0, _, _, _, _, h => h
  | fuel + 1, listed, _, _, hg, h => ⟨h.1, fun i hi => wpOp_mono (fun a' w' h' => ⟨fun e => (by rw [getD_set_true hg] at e; cases e), wpAnyG_of_any fuel _ a' w' (getD_set_true hg) h'⟩) (h.2 i hi)⟩
def Alone (md : Region.Mode) (ops : Array Oper) (i : Nat) (oi : Oper) (listed : Array Bool) : Prop :=
  ∀ j oj, ops[j]? = some oj → j ≠ i → listed.getD j true = false → (∀ e ∈ oj.after, Region.binds md e = true → e.on ≠ i) → oi.apart ops oj = true
theorem Alone.more {i j : Nat} {oi : Oper} {listed : Array Bool} (h : Alone md ops i oi listed) : Alone md ops i oi (listed.setIfInBounds j true) := by
  intro k ok hk hki hun
  have hl : listed.getD k true = false := by
    rcases Nat.decEq j k with hjk | rfl
    · rwa [getD_set_ne true hjk] at hun
    · rcases Nat.lt_or_ge j listed.size with hs | hs
      · simp [hs] at hun
      · simp [hs] at hun
  exact h k ok hk hki hl
theorem ready_free {i j : Nat} {oj : Oper} {listed : Array Bool} (hiun : listed.getD i false = false) (hj : j ∈ Region.ready md ops listed) (hoj : ops[j]? = some oj) : ∀ e ∈ oj.after, Region.binds md e = true → e.on ≠ i := by
  obtain ⟨_, o, ho, hall⟩ := mem_ready.1 hj
  obtain rfl : o = oj := Option.some.inj (ho.symm.trans hoj)
  rintro e he hb rfl
  exact Bool.noConfusion (hiun.symm.trans (hall e he hb))
theorem wpAnyG_first {i f : Nat} {oi : Oper} {v : Value} (hi : ops[i]? = some oi) (hsel : ∀ (j : Nat) (o : Oper) cs b, ops[j]? = some o → o.op ≠ .select cs b)
    (hQ : ∀ c a w, Q (.panic c) (a.put oi.dst v) w → Q (.panic c) a w) (hanc : anc md ops i f g = true) (hgi : g ≠ i) (fuel : Nat) :
    ∀ (listed : Array Bool) (a : Act) (w : World), Closed md ops listed → Alone md ops i oi listed →
      i ∈ Region.ready md ops listed → YieldsIf P ops S oi v a → S w →
      wpAnyG P md ops Q S g fuel (listed.setIfInBounds i true) (a.put oi.dst v) w → wpAnyG P md ops Q S g (fuel + 1) listed a w := by
  induction fuel with
  | zero =>
    intro listed a w _ _ hr hy hS H
    constructor
    · intro h0; rw [h0] at hr; cases hr
    · intro j hj
      rcases Nat.decEq j i with hji | rfl
      · have hnone := ready_mono hj hji
        rw [H.1] at hnone; cases hnone
      · exact hy.wpOp hi hS ⟨fun _ => hS, H⟩
  | succ fuel ih =>
    intro listed a w hcl hal hr hy hS H
    have hiun := getD_both (mem_ready.1 hr).1
    obtain ⟨hgun, hgr⟩ := anc_spec hcl hiun f g hanc
    constructor
    · intro h0; rw [h0] at hr; cases hr
    · intro j hj
      rcases Nat.decEq j i with hji | rfl
      · obtain ⟨hjun, oj, hoj, -⟩ := mem_ready.1 hj
        have hjg : j ≠ g := by rintro rfl; exact hgr hj
        have hgl : ((listed.setIfInBounds i true).setIfInBounds j true).getD g false = false := by
          rw [getD_set_ne false hjg, getD_set_ne false (Ne.symm hgi)]; exact hgun
        have step := wpOp_putIf hoj (hal j oj hoj hji hjun (ready_free hiun hj hoj)) (fun cs b => hsel i oi cs b hi) (fun cs b => hsel j oj cs b hoj) hQ hy (H.2 j (ready_mono hj hji))
        refine wpOp_mono (fun a' w' k => ?_) step
        obtain ⟨ky, ks, kw⟩ := k
        rw [Array.setIfInBounds_comm _ _ (Ne.symm hji)] at kw
        exact ⟨fun _ => ks hgl, ih _ a' w' (hcl.set hj) hal.more (ready_mono hr (Ne.symm hji)) ky (ks hgl) kw⟩
      · exact hy.wpOp hi hS ⟨fun _ => hS, H⟩
theorem wpAnyG_take {i : Nat} {oi : Oper} {v : Value} {fuel : Nat} {listed : Array Bool} {a : Act} {w : World} (hi : ops[i]? = some oi)
    (hst : (Region.noSelect ops && Region.free md ops listed i && (Region.ready md ops listed).contains i && anc md ops i ops.size g && g != i) = true)
    (hcl : Closed md ops listed)
    (hQ : ∀ c a w, Q (.panic c) (a.put oi.dst v) w → Q (.panic c) a w) (hy : YieldsIf P ops S oi v a) (hS : S w)
    (h : Closed md ops (listed.setIfInBounds i true) → wpAnyG P md ops Q S g fuel (listed.setIfInBounds i true) (a.put oi.dst v) w) : wpAnyG P md ops Q S g (fuel + 1) listed a w := by
  simp only [Bool.and_eq_true, bne_iff_ne] at hst
  obtain ⟨⟨⟨⟨h1, h2⟩, h3⟩, h4⟩, h5⟩ := hst
  have h3' : i ∈ Region.ready md ops listed := by simpa using h3
  exact wpAnyG_first hi (Region.noSelect_spec h1) hQ h4 h5 fuel listed a w hcl (Region.free_spec hi h2) h3' hy hS (h (hcl.set h3'))
theorem wpAnyG_exec {i : Nat} {o : Oper} {fuel : Nat} {listed : Array Bool} {a : Act} {w : World} (ho : ops[i]? = some o) (hr : Region.ready md ops listed = [i]) (hcl : Closed md ops listed)
    (h : ∀ K' : Act → World → Prop, Shut (∀ a w, ((listed.setIfInBounds i true).getD g false = false → S w) → (Closed md ops (listed.setIfInBounds i true) → wpAnyG P md ops Q S g fuel (listed.setIfInBounds i true) a w) → K' a w) → if Region.wanted o (yielded ops a.tmps) = true then Oper.wp P o a w K' Q else K' (a.put o.dst undef) w) :
    wpAnyG P md ops Q S g (fuel + 1) listed a w := by
  refine ⟨fun h0 => (by rw [hr] at h0; cases h0), fun j hj => ?_⟩
  rw [hr] at hj
  have : j = i := by simpa using hj
  subst this
  exact wpOp_step ho (fun K' hK => h K' (fun a w hS hW => hK a w ⟨hS, hW (hcl.set (by rw [hr]; simp))⟩))
theorem wp_region_G {id : Nat} {a : Act} {w : World} (g : Nat) (S : World → Prop) (n : Nat) (hn : ops.size = n) (L : Array Bool) (hL : Array.replicate n false = L) (hm : P.follows .mixedOrders = true) (h : Closed .any ops L → wpAnyG P .any ops Q S g n L a w.drew) : (Code.region id ops true).wp P Q a w := by
  subst hn hL
  exact wp_region_any hm (wpAny_of_G _ _ _ _ (h (Closed.zero _)))
end
end Go.Proofs.YtjepkgdejkifcaaGreatDoor

/- SynC -/
namespace Go.Proofs.YtjepkgdejkifcaaGreatDoor
open Go.RowKit
set_option linter.unusedVariables false
set_option linter.unusedSimpArgs false
set_option maxHeartbeats 1000000
def MkM (w wr : World) (a q : List Int) (B : Nat) (rs : List Int) : Prop := Blk wr w.heap.size 88 a ∧ Blk wr (w.heap.size + 1) 22 q ∧ Blk wr (w.heap.size + 1 + 1) 22 (zeros 8) ∧ Blk wr B 3 rs ∧ w.heap.size + 1 + 1 < B ∧ w.grownBy wr none
theorem MkM.keep {w wr wr' : World} {a q : List Int} {B : Nat} {rs : List Int} (h : MkM w wr a q B rs) (g : wr.grownBy wr' none) : MkM w wr' a q B rs := ⟨h.1.keep g, h.2.1.keep g, h.2.2.1.keep g, h.2.2.2.1.keep g, h.2.2.2.2.1, grown_none h.2.2.2.2.2 g⟩
theorem MkM.setB {w wr : World} {a q : List Int} {B : Nat} {rs : List Int} (h : MkM w wr a q B rs) (k : Nat) (z : Int) : MkM w (wr.setCell ⟨B, k, none⟩ (.int .i64 z)) a q B (rs.set k z) := by
  have hB := h.2.2.2.2.1
  have g := grown_setCell wr ⟨B, k, none⟩ (.int .i64 z)
  exact ⟨h.1.keepBut g (by simp; omega), h.2.1.keepBut g (by simp; omega), h.2.2.1.keepBut g (by simp; omega), h.2.2.2.1.set k z, hB, grown_own h.2.2.2.2.2 g (by simp; omega)⟩
theorem MkM.putQ {w wr : World} {a q q' : List Int} {B : Nat} {rs : List Int} (h : MkM w wr a q B rs) (hl : q'.length = q.length) : MkM w (putArr wr (w.heap.size + 1) q') a q' B rs := by
  have hB := h.2.2.2.2.1
  have PU := put_arr (rs' := q') h.2.1 hl
  exact ⟨h.1.keepBut PU.2 (by omega), PU.1, h.2.2.1.keepBut PU.2 (by omega), h.2.2.2.1.keepBut PU.2 (by omega), hB, grown_own h.2.2.2.2.2 PU.2 (by omega)⟩
theorem own_any {w : World} {b base : Nat} {rs : List Int} (h : Blk w b 3 rs) (hb : base ≤ b) (hl : rs.length ≤ 35184372088832) : Own base w (.slice (some ⟨b, 0, none⟩) rs.length rs.length) rs :=
  ⟨by simp, .inr ⟨b, rs.length, arrI rs, rfl, hb, h, Nat.le_refl _, by unfold maxLen; omega, by simp [arrI], by simp [arrI, List.take_of_length_le]⟩⟩
theorem self_tab (l : List Int) : l = tab l.length (fun j => nth l j) := tab_ext rfl (fun i _ => rfl)
set_option maxRecDepth 100000 in
theorem make_no (a p : List Int) (ha : a.length = 9) (hp : p.length = 8) (v : Value) (l : List Int) (w : World) (h : Ints w v l) (hl : l.length * 8 ≤ 140737488351232) (hk : okF a p l = false) :
    Calls Tryz.prog 197 #[.agg (arrI a), .agg (arrI p), v] w (Filt w [] (zeros 8) 2) := by
  have L0 := hide (laid3 w 88 22 22 a p (zeros 8))
  rw [z8'] at L0
  have hbd := build8
  have PR := hide (predictor_any a ha)
  have SP := hide (fun wr (b : Blk wr (w.heap.size + 1) 22 p) => synSamples_any (.slice (some ⟨w.heap.size + 1, 0, none⟩) 8 8) p wr (by have := Ints_blk b 8 (by omega); rw [hp] at this; exact this) (by omega))
  have SL := hide (fun wr (g : w.grownBy wr none) => synSamples_any v l wr (Ints_keep h g) (by omega))
  rw [okF_prd] at hk
  clear h
  rcases pa : prdB a with _ | _
  · rw [pa] at PR
    clear SP SL hk pa
    go_enter Tryz.func197, Tryz.ntmps197
    go_wp2_with (first | refine wpList_load_arr rfl 88 _ rfl _ rfl _ L0.out.1 _ Tryz.underlying88 rfl (by rw [ha]; exact size9') ?_)
    refine (PR.out _).mono ?_
    rintro e w1 ⟨rfl, g1⟩
    have M1 := hide (Mem3.keep (show Mem3 w _ 88 22 22 a p (zeros 8) from L0.out) g1)
    clear L0 PR g1
    have BB := hide M1.out.2.2.1
    have GM := hide M1.out.2.2.2
    clear M1
    go_wp2_with (first | refine wpList_store_arr rfl 22 _ _ rfl _ (zeros 8) (zeros 8) rfl rfl BB.out rfl (by rw [zeros_len]; exact size8') ?_)
    have PU := put_arr (rs' := zeros 8) BB.out rfl
    have hlv := loadVar_arr PU.1 _ Tryz.underlying22 rfl (by rw [zeros_len]; exact size8')
    have GF := hide (grown_own GM.out PU.2 (by omega))
    refine bodyPost_ret (v := .tuple #[.slice none 0 0, .agg (arrI (zeros 8)), .int .i64 2]) ?_ rfl ⟨_, rfl, Own_nil _ _, GF.out⟩
    simp [results, Tryz.results197, asAddr, Act.put, hlv]
  · rcases rp : rightB p with _ | _
    · rw [pa] at PR
      rw [rp] at SP
      clear SL hk pa rp
      go_enter Tryz.func197, Tryz.ntmps197
      go_wp2_with (first | refine wpList_load_arr rfl 88 _ rfl _ rfl _ L0.out.1 _ Tryz.underlying88 rfl (by rw [ha]; exact size9') ?_)
      refine (PR.out _).mono ?_
      rintro e w1 ⟨rfl, g1⟩
      have M1 := hide (Mem3.keep (show Mem3 w _ 88 22 22 a p (zeros 8) from L0.out) g1)
      clear L0 PR g1
      go_wp2_with fail
      refine (SP.out _ M1.out.2.1).mono ?_
      rintro e w2 ⟨rfl, rfl⟩
      clear SP
      have BB := hide M1.out.2.2.1
      have GM := hide M1.out.2.2.2
      clear M1
      go_wp2_with (first | refine wpList_store_arr rfl 22 _ _ rfl _ (zeros 8) (zeros 8) rfl rfl BB.out rfl (by rw [zeros_len]; exact size8') ?_)
      have PU := put_arr (rs' := zeros 8) BB.out rfl
      have hlv := loadVar_arr PU.1 _ Tryz.underlying22 rfl (by rw [zeros_len]; exact size8')
      have GF := hide (grown_own GM.out PU.2 (by omega))
      refine bodyPost_ret (v := .tuple #[.slice none 0 0, .agg (arrI (zeros 8)), .int .i64 2]) ?_ rfl ⟨_, rfl, Own_nil _ _, GF.out⟩
      simp [results, Tryz.results197, asAddr, Act.put, hlv]
    · have rl : rightB l = false := by rw [pa, rp] at hk; simpa using hk
      rw [pa] at PR
      rw [rp] at SP
      rw [rl] at SL
      clear hk pa rp rl
      go_enter Tryz.func197, Tryz.ntmps197
      go_wp2_with (first | refine wpList_load_arr rfl 88 _ rfl _ rfl _ L0.out.1 _ Tryz.underlying88 rfl (by rw [ha]; exact size9') ?_)
      refine (PR.out _).mono ?_
      rintro e w1 ⟨rfl, g1⟩
      have M1 := hide (Mem3.keep (show Mem3 w _ 88 22 22 a p (zeros 8) from L0.out) g1)
      clear L0 PR g1
      go_wp2_with fail
      refine (SP.out _ M1.out.2.1).mono ?_
      rintro e w2 ⟨rfl, rfl⟩
      clear SP
      go_wp2_with fail
      refine (SL.out _ M1.out.2.2.2).mono ?_
      rintro e w3 ⟨rfl, rfl⟩
      clear SL
      have BB := hide M1.out.2.2.1
      have GM := hide M1.out.2.2.2
      clear M1
      go_wp2_with (first | refine wpList_store_arr rfl 22 _ _ rfl _ (zeros 8) (zeros 8) rfl rfl BB.out rfl (by rw [zeros_len]; exact size8') ?_)
      have PU := put_arr (rs' := zeros 8) BB.out rfl
      have hlv := loadVar_arr PU.1 _ Tryz.underlying22 rfl (by rw [zeros_len]; exact size8')
      have GF := hide (grown_own GM.out PU.2 (by omega))
      refine bodyPost_ret (v := .tuple #[.slice none 0 0, .agg (arrI (zeros 8)), .int .i64 2]) ?_ rfl ⟨_, rfl, Own_nil _ _, GF.out⟩
      simp [results, Tryz.results197, asAddr, Act.put, hlv]
set_option maxRecDepth 100000 in
theorem make_yes (a p : List Int) (ha : a.length = 9) (hp : p.length = 8) (v : Value) (l : List Int) (w : World) (h : Ints w v l) (hl : l.length * 8 ≤ 140737488351232) (hk : okF a p l = true) :
    Calls Tryz.prog 197 #[.agg (arrI a), .agg (arrI p), v] w (Filt w (mkN a p l l.length) (newL p (mkN a p l l.length)) 0) := by
  have L0 := hide (laid3 w 88 22 22 a p (zeros 8))
  rw [z8'] at L0
  have PR := hide (predictor_any a ha)
  have SP := hide (fun wr (b : Blk wr (w.heap.size + 1) 22 p) => synSamples_any (.slice (some ⟨w.heap.size + 1, 0, none⟩) 8 8) p wr (by have := Ints_blk b 8 (by omega); rw [hp] at this; exact this) (by omega))
  have SL := hide (fun wr (g : w.grownBy wr none) => synSamples_any v l wr (Ints_keep h g) (by omega))
  rw [okF_prd] at hk
  simp only [Bool.and_eq_true] at hk
  obtain ⟨⟨pa, rp⟩, rl⟩ := hk
  rw [pa] at PR
  rw [rp] at SP
  rw [rl] at SL
  have wa : wide20 a = true := by unfold prdB at pa; simp only [Bool.and_eq_true] at pa; exact pa.1
  have RL := hide ((rightB_iff l).1 rl)
  have AB := hide (nth_in a (-1048576) 1048576 (by omega) (by omega) ((wide20_iff a).1 wa))
  have WA := hide wa
  have RP := hide rp
  have RR := hide rl
  obtain ⟨ad, c, rfl, hc, hcell⟩ := h
  have HC := hide hcell
  have hmk := make_zeros l.length (by omega)
  clear hcell pa wa rp rl
  go_enter Tryz.func197, Tryz.ntmps197
  go_wp2_with (first | refine wpList_load_arr rfl 88 _ rfl _ rfl _ L0.out.1 _ Tryz.underlying88 rfl (by rw [ha]; exact size9') ?_)
  refine (PR.out _).mono ?_
  rintro e w1 ⟨rfl, g1⟩
  have M1 := hide (Mem3.keep (show Mem3 w _ 88 22 22 a p (zeros 8) from L0.out) g1)
  clear L0 PR g1
  go_wp2_with fail
  refine (SP.out _ M1.out.2.1).mono ?_
  rintro e w2 ⟨rfl, rfl⟩
  clear SP
  go_wp2_with fail
  refine (SL.out _ M1.out.2.2.2).mono ?_
  rintro e w3 ⟨rfl, rfl⟩
  clear SL
  go_wp2_with fail
  have M0 := hide (show MkM w (w3.alloc (.cells (arrI (zeros l.length)) 3)) a p w3.heap.size (zeros l.length) from
    ⟨M1.out.1.keep (grown_alloc _ _ none), M1.out.2.1.keep (grown_alloc _ _ none), M1.out.2.2.1.keep (grown_alloc _ _ none), Blk.new w3 3 _, M1.out.2.2.1.lt, grown_none M1.out.2.2.2 (grown_alloc _ _ none)⟩)
  clear M1 hmk
  generalize w3.alloc _ = W0 at *
  generalize w3.heap.size = B at *
  go_loopw [31] (fun i wr => ∃ (k : Nat) (rs : List Int), i = .int .i64 k ∧ k ≤ l.length ∧ Hid (FillN l.length (fun j => nth (mkN a p l l.length) j) k rs) ∧ Hid (MkM w wr a (newL p (mkN a p l k)) B rs)) (fun i _ => l.length - (intOf i).toNat)
  case atStart => exact ⟨0, zeros l.length, rfl, Nat.zero_le _, ⟨zeros_len _, fun j hj => by omega⟩, by rw [show newL p (mkN a p l 0) = p from newL_nil p hp]; exact M0.out⟩
  case round =>
    obtain ⟨k, rs, rfl, hk, hF, hM⟩ := hrel
    clear M0
    by_cases hkl : k < l.length
    · obtain ⟨ax, rfl, hv⟩ := HC.out (by omega)
      have cx := grown_keep hM.out.2.2.2.2.2 (hv k hkl)
      obtain ⟨x1, x2⟩ := RL.out k hkl
      have hlen : rs.length = l.length := hF.out.1
      have EV : nth (mkN a p l l.length) k = c16 (nth l k - gs a (hist p (mkN a p l k))) := by
        have := mkN_nth a p l k (l.length - (k + 1))
        rw [show k + 1 + (l.length - (k + 1)) = l.length by omega] at this
        exact this
      have NF := hide (fillN_step hF.out hkl)
      rw [EV] at NF
      have hq := newL_len p (mkN a p l k)
      have hq' := newL_len p (mkN a p l (k + 1))
      have GU := hide (fun w' => pguess_any a (newL p (mkN a p l k)) ha hq w' WA.out (newL_right p (mkN a p l k) RP.out (mkN_right a p l k)))
      rw [gs_newL] at GU
      obtain ⟨b1, b2⟩ := gs_bd a (hist p (mkN a p l k)) AB.out (hist_right p (mkN a p l k) RP.out (mkN_right a p l k))
      have AF := hide (fun w' => after_any (newL p (mkN a p l k)) hq (c16 (nth l k - gs a (hist p (mkN a p l k)))) w')
      rw [aft_newL, show (mkN a p l k) ++ [c16 (nth l k - gs a (hist p (mkN a p l k)))] = (mkN a p l (k + 1)) from rfl] at AF
      clear hF EV HC AB RL RP RR WA hv
      have BA := hide hM.out.1
      have BQ := hide hM.out.2.1
      generalize gs a (hist p (mkN a p l k)) = G at *
      generalize hqe : newL p (mkN a p l (k + 1)) = q' at *
      have HQ := hide hqe
      clear hqe
      generalize newL p (mkN a p l k) = q at *
      generalize nth l k = x at *
      have ST := hide (fun w' => stopped_any (x - G) w')
      generalize c16 (x - G) = z at *
      have kl1 : (k : Int) < l.length := by omega
      go_wp2_with (first | refine wpList_load_arr rfl 88 _ rfl _ rfl _ BA.out _ Tryz.underlying88 rfl (by rw [ha]; exact size9') ?_ | refine wpList_load_arr rfl 22 _ rfl _ rfl _ BQ.out _ Tryz.underlying22 rfl (by rw [hq]; exact size8') ?_)
      refine (GU.out _).mono ?_
      rintro e w4 ⟨rfl, g4⟩
      have M4 := hide (hM.out.keep g4)
      clear g4 hM GU BA BQ cx
      go_wp2_with fail
      refine (ST.out _).mono ?_
      rintro e w5 ⟨rfl, rfl⟩
      clear ST
      have cd := M4.out.2.2.2.1.cell k (by omega)
      have fd := M4.out.2.2.2.1.free k
      have M5 := hide (M4.out.setB k z)
      clear M4
      generalize nth rs k = y at *
      go_upto_region 8 with fail
      clear cd fd
      generalize w5.setCell _ _ = W1 at *
      have HS := hide (M5.out.keep (gw_start W1))
      refine wp_region_G 6 (fun w' => MkM w w' a q B (rs.set k z)) 7 (by rfl) #[false, false, false, false, false, false, false] (by rfl) (by kernel_rfl) (fun hcl => ?_)
      refine wpAnyG_take (i := 0) (v := .agg (arrI q)) rfl (by kernel_rfl) hcl (fun _ _ _ h => h) (Or.inl ⟨by rfl, ?yb0⟩) HS.out (fun hcl => ?rb0)
      case yb0 => (intro w' hSw; exact yields_load_arr rfl rfl hSw.2.1 _ Tryz.underlying22 rfl (by rw [hq]; exact size8'))
      (try simp only [Act.put, sL])
      refine wpAnyG_take (i := 1) (v := ?vb1) rfl (by kernel_rfl) hcl (fun _ _ _ h => h) (Or.inl ⟨by rfl, ?yb1⟩) HS.out (fun hcl => ?rb1)
      case yb1 => (intro w' hSw; go_simp; try with_reducible rfl)
      (try simp only [Act.put, sL])
      refine wpAnyG_take (i := 2) (v := ?vb2) rfl (by kernel_rfl) hcl (fun _ _ _ h => h) (Or.inl ⟨by rfl, ?yb2⟩) HS.out (fun hcl => ?rb2)
      case yb2 => (intro w' hSw; go_simp; try with_reducible rfl)
      (try simp only [Act.put, sL])
      refine wpAnyG_take (i := 3) (v := ?vb3) rfl (by kernel_rfl) hcl (fun _ _ _ h => h) (Or.inl ⟨by rfl, ?yb3⟩) HS.out (fun hcl => ?rb3)
      case yb3 => (intro w' hSw; go_simp; try with_reducible rfl)
      (try simp only [Act.put, sL])
      refine wpAnyG_take (i := 4) (v := .int .i64 z) rfl (by kernel_rfl) hcl (fun _ _ _ h => h) (Or.inl ⟨by rfl, ?yb4⟩) HS.out (fun hcl => ?rb4)
      case yb4 => (intro w' hSw; have cz := hSw.2.2.2.1.cell k (by rw [List.length_set]; omega); rw [nth_set_eq rs k z (by omega)] at cz; go_simp; try with_reducible rfl)
      (try simp only [Act.put, sL])
      refine wpAnyG_exec (i := 5) rfl (by kernel_rfl) hcl (fun K hK => ?_)
      (try simp only [Act.put, sL])
      go_simp
      refine (AF.out _).mono ?_
      rintro e w6 ⟨rfl, g6⟩
      have HS := hide (MkM.keep HS.out g6)
      clear g6 AF
      go_wp2_with fail
      refine hK.out _ _ (fun _ => HS.out) (fun hcl => ?_)
      clear hK
      (try simp only [Act.put, sL])
      refine wpAnyG_exec (i := 6) rfl (by kernel_rfl) hcl (fun K hK => ?_)
      (try simp only [Act.put, sL])
      refine step_store_arr rfl 22 _ _ rfl (w.heap.size + 1) q q' rfl rfl HS.out.2.1 (by rw [hq', hq]) (by rw [hq]; exact size8') ?_
      have M8 := hide (HS.out.putQ (q' := q') (by rw [hq', hq]))
      refine hK.out _ _ (fun h => by cases h) (fun hcl => ?_)
      clear hK HS M5
      (try simp only [Act.put, sL])
      generalize putArr w6 (w.heap.size + 1) q' = w7 at *
      refine wpAnyG_of_any _ _ _ _ (by rfl) ?_
      refine wpAny_done (by kernel_rfl) ?_ _
      go_wp2_with fail
      go_roundw
      case rel => exact ⟨k + 1, _, by go_num, by omega, NF.out, by rw [HQ.out]; exact M8.out⟩
      case measure => simp [intOf]; omega
    · obtain rfl : k = l.length := by omega
      have EL := hide (show rs = mkN a p l l.length from by
        have h1 := fillN_all hF.out
        have h2 := self_tab (mkN a p l l.length)
        rw [mkN_len] at h2
        exact h1.trans h2.symm)
      have hlen : rs.length = l.length := hF.out.1
      have hq := newL_len p (mkN a p l l.length)
      clear hF HC AB RL RP RR WA
      generalize hqe : newL p (mkN a p l l.length) = q at *
      have HQ := hide hqe
      clear hqe
      go_upto_region 10 with fail
      refine wp_region_held_drew (S := fun w' => Blk w' (w.heap.size + 1) 22 q) (by kernel_rfl) (hM.out.2.1.keep (gw_start _)) (fun hHeld => ?_)
      refine wpAnyH_take (i := 0) (v := ?ve0) rfl (by kernel_rfl) (by kernel_rfl) (by kernel_rfl) (fun _ _ _ h => h) (Or.inl ⟨by rfl, ?ye0⟩) hHeld ?re0
      case ye0 => (intro w' hSw; go_simp; (try with_reducible rfl))
      (try simp only [Act.put, sL])
      refine wpAnyH_take (i := 1) (v := .agg (arrI q)) rfl (by kernel_rfl) (by kernel_rfl) (by kernel_rfl) (fun _ _ _ h => h) (Or.inl ⟨by rfl, ?ye1⟩) hHeld ?re1
      case ye1 => (intro w' hSw; exact yields_load_arr rfl rfl hSw _ Tryz.underlying22 rfl (by rw [hq]; exact size8'))
      (try simp only [Act.put, sL])
      refine wpAnyH_take (i := 2) (v := ?ve2) rfl (by kernel_rfl) (by kernel_rfl) (by kernel_rfl) (fun _ _ _ h => h) (Or.inl ⟨by rfl, ?ye2⟩) hHeld ?re2
      case ye2 => (intro w' hSw; go_simp; (try with_reducible rfl))
      (try simp only [Act.put, sL])
      refine wpAnyH_ready (rs := [3]) (by kernel_rfl) (by simp) (AllReadyH.cons rfl (fun K hK => ?_) AllReadyH.nil)
      (try simp only [Act.put, sL])
      have HS := hide (hM.out.keep (gw_start _))
      refine step_store_arr rfl 22 _ _ rfl (w.heap.size + 1 + 1) (zeros 8) q rfl rfl HS.out.2.2.1 (by rw [hq, zeros_len]) (by rw [zeros_len]; exact size8') ?_
      have PU := put_arr (rs' := q) HS.out.2.2.1 (by rw [hq, zeros_len])
      have BZ := hide PU.1
      have GF := hide (grown_own HS.out.2.2.2.2.2 PU.2 (by omega))
      have hB := HS.out.2.2.2.2.1
      have OF := hide (own_any (base := w.heap.size) (HS.out.2.2.2.1.keepBut PU.2 (by omega)) (by omega) (by omega))
      rw [hlen, EL.out] at OF
      have BQ := hide (HS.out.2.1.keepBut PU.2 (by omega))
      clear HS PU hM
      generalize putArr _ (w.heap.size + 1 + 1) q = w7 at *
      refine hK.out _ _ BQ.out (fun hHeld => ?_)
      clear hK
      (try simp only [Act.put, sL])
      refine wpAnyH_take (i := 4) (v := ?ve4) rfl (by kernel_rfl) (by kernel_rfl) (by kernel_rfl) (fun _ _ _ h => h) (Or.inl ⟨by rfl, ?ye4⟩) hHeld ?re4
      case ye4 => (intro w' hSw; go_simp; (try with_reducible rfl))
      (try simp only [Act.put, sL])
      refine wpAnyH_done (by kernel_rfl) ?_ _
      clear hHeld
      have hlv := loadVar_arr BZ.out _ Tryz.underlying22 rfl (by rw [hq]; exact size8')
      go_wp2_with fail
      refine bodyPost_ret (v := .tuple #[_, .agg (arrI q), .int .i64 0]) ?_ rfl ⟨_, rfl, OF.out, GF.out⟩
      simp [results, Tryz.results197, asAddr, Act.put, hlv]
theorem make_any (a p : List Int) (ha : a.length = 9) (hp : p.length = 8) (v : Value) (l : List Int) (w : World) (h : Ints w v l) (hsh : Shp v l) (hl : l.length * 8 ≤ 140737488351232) :
    Calls Tryz.prog 197 #[.agg (arrI a), .agg (arrI p), v] w (Filt w (mkL a p l) (mkP a p l) (fiE a p l)) := by
  rcases hk : okF a p l with _ | _
  · rw [show mkL a p l = [] by unfold mkL; rw [hk]; rfl, show mkP a p l = zeros 8 by unfold mkP; rw [hk]; rfl, show fiE a p l = 2 by unfold fiE; rw [hk]; rfl]
    exact make_no a p ha hp v l w h hl hk
  · rw [show mkL a p l = mkN a p l l.length from if_pos hk, show mkP a p l = newL p (mkN a p l l.length) from if_pos hk, show fiE a p l = 0 from if_pos hk]
    exact make_yes a p ha hp v l w h hl hk
end Go.Proofs.YtjepkgdejkifcaaGreatDoor

/- QuantMath -/
namespace Go.Proofs.YtjepkgdejkifcaaGreatDoor
open Go.RowKit
set_option maxRecDepth 100000
def wid (i : Nat) : Nat := if i < 2 then 6 else if i < 4 then 5 else if i < 6 then 4 else 3
def many (b : Nat) : Nat := 2 ^ b
theorem wid_in (i : Nat) : wid i = 6 ∨ wid i = 5 ∨ wid i = 4 ∨ wid i = 3 := by unfold wid; split <;> (try split) <;> (try split) <;> simp
def upL (M n : Int) : Int := 31000 - 31000 * (2 * (M - n) - 1) * (2 * (M - n) - 1) / (M * M)
def lvl (b : Nat) (n : Int) : Int := if 2 * n < (many b : Int) then -upL (many b) ((many b : Int) - 1 - n) else upL (many b) n
def okB (b : Nat) : Prop := b = 6 ∨ b = 5 ∨ b = 4 ∨ b = 3
theorem many_bd (b : Nat) (h : okB b) : 8 ≤ many b ∧ many b ≤ 64 := by rcases h with rfl | rfl | rfl | rfl <;> decide
theorem many_even (b : Nat) (h : okB b) : ∃ q : Nat, many b = 2 * q := ⟨many b / 2, by rcases h with rfl | rfl | rfl | rfl <;> decide⟩
theorem sq_bdQ (M r : Int) (h0 : 1 ≤ r) (h1 : r ≤ M) (h2 : 8 ≤ M) (h3 : M ≤ 64) : 0 ≤ 31000 * r * r / (M * M) ∧ 31000 * r * r / (M * M) ≤ 31000 ∧ 0 ≤ 31000 * r * r ∧ 31000 * r * r ≤ 126976000 ∧ 0 < M * M ∧ M * M ≤ 4096 := by
  have e1 : r * r ≤ M * M := Int.mul_le_mul h1 h1 (by omega) (by omega)
  have e2 : 0 ≤ r * r := Int.mul_nonneg (by omega) (by omega)
  have e3 : M * M ≤ 64 * 64 := Int.mul_le_mul h3 h3 (by omega) (by omega)
  have e4 : 8 * 8 ≤ M * M := Int.mul_le_mul h2 h2 (by omega) (by omega)
  rw [Int.mul_assoc]
  generalize r * r = x at *
  generalize M * M = y at *
  have d1 : 0 ≤ 31000 * x / y := Int.ediv_nonneg (by omega) (by omega)
  have d2 : 31000 * x / y ≤ 31000 := Int.ediv_le_of_le_mul (by omega) (by omega)
  omega
theorem upL_bd (b : Nat) (n : Int) (h : okB b) (h1 : (many b : Int) ≤ 2 * n) (h2 : n < many b) : 0 ≤ upL (many b) n ∧ upL (many b) n ≤ 31000 := by
  obtain ⟨m1, m2⟩ := many_bd b h
  obtain ⟨q, hq⟩ := many_even b h
  have := sq_bdQ (many b) (2 * ((many b : Int) - n) - 1) (by omega) (by omega) (by omega) (by omega)
  unfold upL
  omega
theorem lvl_bd (b : Nat) (n : Int) (h : okB b) (h1 : 0 ≤ n) (h2 : n < many b) : -31000 ≤ lvl b n ∧ lvl b n ≤ 31000 := by
  obtain ⟨q, hq⟩ := many_even b h
  unfold lvl
  split
  · have := upL_bd b ((many b : Int) - 1 - n) h (by omega) (by omega)
    omega
  · have := upL_bd b n h (by omega) (by omega)
    omega
theorem lvl_low (b : Nat) (n : Int) (h : 2 * n < many b) : lvl b n = -upL (many b) ((many b : Int) - 1 - n) := if_pos h
theorem lvl_high (b : Nat) (n : Int) (h : ¬2 * n < many b) : lvl b n = upL (many b) n := if_neg h
def far (x y : Int) : Int := if x < y then y - x else x - y
def gap (b : Nat) (k : Int) (n : Nat) : Int := far (lvl b n) k
def best (b : Nat) (k : Int) : Nat → Nat
  | 0 => 0
  | n + 1 => if gap b k n < gap b k (best b k n) then n else best b k n
theorem best_yes (b : Nat) (k : Int) (n : Nat) (h : gap b k n < gap b k (best b k n)) : best b k (n + 1) = n := if_pos h
theorem best_no (b : Nat) (k : Int) (n : Nat) (h : ¬gap b k n < gap b k (best b k n)) : best b k (n + 1) = best b k n := if_neg h
theorem best_one (b : Nat) (k : Int) : best b k 1 = 0 := by
  show (if gap b k 0 < gap b k 0 then 0 else 0) = 0
  split <;> rfl
theorem best_lt (b : Nat) (k : Int) : ∀ n, best b k (n + 1) ≤ n
  | 0 => by rw [best_one]; omega
  | n + 1 => by
    have := best_lt b k n
    show (if gap b k (n + 1) < gap b k (best b k (n + 1)) then n + 1 else best b k (n + 1)) ≤ n + 1
    split <;> omega
theorem best_in (b : Nat) (k : Int) (n m : Nat) (h : n ≤ m) (hm : 0 < m) : best b k n < m := by
  match n with
  | 0 => exact hm
  | n + 1 => have := best_lt b k n; omega
def one (b : Nat) (k : Int) : Nat := best b k (many b)
theorem one_lt (b : Nat) (k : Int) (h : okB b) : one b k < many b := best_in b k _ _ (Nat.le_refl _) (by have := many_bd b h; omega)
end Go.Proofs.YtjepkgdejkifcaaGreatDoor

/- PulMath -/
namespace Go.Proofs.YtjepkgdejkifcaaGreatDoor
open Go.RowKit
set_option linter.unusedVariables false
set_option linter.unusedSimpArgs false
set_option maxHeartbeats 1000000
theorem sumT_le (f : Nat → Int) (B : Int) (h : ∀ i, -B ≤ f i ∧ f i ≤ B) : ∀ n : Nat, -(B * (n : Int)) ≤ sumT f n ∧ sumT f n ≤ B * (n : Int)
  | 0 => by show -(B * ((0 : Nat) : Int)) ≤ 0 ∧ (0 : Int) ≤ B * ((0 : Nat) : Int); simp
  | n + 1 => by
    have h1 := sumT_le f B h n
    have h2 := h n
    have e : B * ((n + 1 : Nat) : Int) = B * (n : Int) + B := by rw [show ((n + 1 : Nat) : Int) = (n : Int) + 1 from rfl, Int.mul_add, Int.mul_one]
    show -(B * ((n + 1 : Nat) : Int)) ≤ sumT f n + f n ∧ sumT f n + f n ≤ B * ((n + 1 : Nat) : Int)
    rw [e]; omega
theorem sumT_zero (f : Nat → Int) : ∀ n, (∀ i, i < n → f i = 0) → sumT f n = 0
  | 0, _ => rfl
  | n + 1, h => by show sumT f n + f n = 0; rw [sumT_zero f n (fun i hi => h i (by omega)), h n (by omega)]; rfl
theorem sumT_shift (f : Nat → Int) (n : Nat) (h : ∀ i, i < n → f i = 0) : ∀ k, sumT f (n + k) = sumT (fun i => f (n + i)) k
  | 0 => sumT_zero f n h
  | k + 1 => by show sumT f (n + k) + f (n + k) = sumT (fun i => f (n + i)) k + f (n + k); rw [sumT_shift f n h k]
def lateN (r : List Int) (n i : Nat) : Int := if n ≤ i then c16 (nth r (i - n)) else 0
theorem lateN_bd (r : List Int) (n i : Nat) : -32768 ≤ lateN r n i ∧ lateN r n i ≤ 32767 := by
  unfold lateN
  split
  · exact c16_bd _
  · omega
def enN (r : List Int) (a b : Nat) : Int := sumT (fun i => lateN r a i * lateN r b i) 40
theorem enN_last (r : List Int) (a b : Nat) (ha : a ≤ 39) (hb : b ≤ 39) (h : a = 39 ∨ b = 39) : enN r a b = c16 (nth r (39 - a)) * c16 (nth r (39 - b)) := by
  show sumT (fun i => lateN r a i * lateN r b i) 39 + lateN r a 39 * lateN r b 39 = _
  rw [sumT_zero _ 39 (fun i hi => by
    rcases h with h | h
    · rw [show lateN r a i = 0 from if_neg (by omega)]; simp
    · rw [show lateN r b i = 0 from if_neg (by omega)]; simp)]
  rw [show lateN r a 39 = c16 (nth r (39 - a)) from if_pos ha, show lateN r b 39 = c16 (nth r (39 - b)) from if_pos hb]
  omega
theorem enN_step (r : List Int) (a b : Nat) (ha : a < 39) (hb : b < 39) : enN r a b = c16 (nth r (39 - a)) * c16 (nth r (39 - b)) + enN r (a + 1) (b + 1) := by
  have e1 : enN r (a + 1) (b + 1) = sumT (fun i => lateN r a i * lateN r b i) 39 := by
    show sumT (fun i => lateN r (a + 1) i * lateN r (b + 1) i) (39 + 1) = _
    rw [sumT_front, show lateN r (a + 1) 0 = 0 from if_neg (by omega)]
    rw [sumT_congr (fun i => lateN r (a + 1) (i + 1) * lateN r (b + 1) (i + 1)) (fun i => lateN r a i * lateN r b i) 39 (fun i _ => by
      have f : ∀ n, lateN r (n + 1) (i + 1) = lateN r n i := fun n => by
        unfold lateN
        by_cases h : n ≤ i
        · rw [if_pos h, if_pos (by omega), show i + 1 - (n + 1) = i - n by omega]
        · rw [if_neg h, if_neg (by omega)]
      rw [f a, f b])]
    simp
  rw [e1]
  show sumT (fun i => lateN r a i * lateN r b i) 39 + lateN r a 39 * lateN r b 39 = _
  rw [show lateN r a 39 = c16 (nth r (39 - a)) from if_pos (by omega), show lateN r b 39 = c16 (nth r (39 - b)) from if_pos (by omega)]
  omega
theorem enN_bd (r : List Int) (a b : Nat) : -42949672960 ≤ enN r a b ∧ enN r a b ≤ 42949672960 := by
  have := sumT_bd (fun i => lateN r a i * lateN r b i) (fun i => p16_bd _ _ (lateN_bd r a i).1 (lateN_bd r a i).2 (lateN_bd r b i).1 (lateN_bd r b i).2) 40
  unfold enN
  omega
def tbN (r : List Int) (k : Nat) : Int := enN r (k / 40) (k % 40)
def tbl (r : List Int) : List Int := tab 1600 (tbN r)
theorem tbl_len (r : List Int) : (tbl r).length = 1600 := tab_len _ _
theorem tbl_at (r : List Int) (a b : Nat) (ha : a < 40) (hb : b < 40) : nth (tbl r) (a * 40 + b) = enN r a b := by
  unfold tbl
  rw [tab_nth _ _ _ (by omega)]
  unfold tbN
  rw [show (a * 40 + b) / 40 = a by omega, show (a * 40 + b) % 40 = b by omega]
def TbF (r : List Int) (a b : Nat) (rs : List Int) : Prop := rs.length = 1600 ∧ ∀ x y, x < 40 → y < 40 → (a < x ∨ (a = x ∧ b ≤ y)) → nth rs (x * 40 + y) = enN r x y
theorem tbF_start (r : List Int) : TbF r 40 0 (zeros 1600) := ⟨zeros_len _, fun x y hx hy h => by omega⟩
theorem tbF_next {r : List Int} {a : Nat} {rs : List Int} (h : TbF r (a + 1) 0 rs) : TbF r a 40 rs := ⟨h.1, fun x y hx hy hh => h.2 x y hx hy (by omega)⟩
theorem tbF_set {r : List Int} {a b : Nat} {rs : List Int} (ha : a < 40) (hb : b < 40) (h : TbF r a (b + 1) rs) (z : Int) (hz : z = enN r a b) : TbF r a b (rs.set (a * 40 + b) z) := by
  refine ⟨by simpa using h.1, fun x y hx hy hh => ?_⟩
  by_cases e : a = x ∧ b = y
  · obtain ⟨rfl, rfl⟩ := e
    rw [nth_set_eq _ _ _ (by rw [h.1]; omega), hz]
  · rw [nth_set_ne _ _ _ _ (by omega)]
    exact h.2 x y hx hy (by omega)
theorem tbF_other {r : List Int} {a b : Nat} {rs : List Int} (ha : a < 40) (hb : b < 40) (h : TbF r a (b + 1) rs) (z : Int) : TbF r a (b + 1) (rs.set (a * 40 + b) z) :=
  ⟨by simpa using h.1, fun x y hx hy hh => by rw [nth_set_ne _ _ _ _ (by omega)]; exact h.2 x y hx hy hh⟩
theorem tbF_all {r : List Int} {rs : List Int} (h : TbF r 0 0 rs) : rs = tbl r := by
  refine tab_ext h.1 (fun i hi => ?_)
  have := h.2 (i / 40) (i % 40) (by omega) (by omega) (by omega)
  rw [show i / 40 * 40 + i % 40 = i by omega] at this
  exact this
def tgN (t r : List Int) (n : Nat) : Int := sumT (fun i => nth t i * lateN r n i) 40
def tgL (t r : List Int) : List Int := tab 40 (tgN t r)
theorem tgN_drop (t r : List Int) (hr : rightB r = true) (n : Nat) (hn : n ≤ 40) : dotS (t.drop n) r (40 - n) = tgN t r n := by
  have e := sumT_shift (fun i => nth t i * lateN r n i) n (fun i hi => by rw [show lateN r n i = 0 from if_neg (by omega)]; simp) (40 - n)
  rw [show n + (40 - n) = 40 by omega] at e
  unfold tgN
  rw [e]
  refine sumT_congr _ _ _ (fun i _ => ?_)
  have b := nth_in _ _ _ (by omega) (by omega) ((rightB_iff r).1 hr) i
  rw [nth_drop, show lateN r n (n + i) = nth r i by unfold lateN; rw [if_pos (by omega), show n + i - n = i by omega, c16_id _ b.1 b.2]]
def tgV (t r : List Int) : List Int := if t.length = 40 ∧ r.length = 40 ∧ (rightB t && rightB r) = true then tgL t r else []
def tgE (t r : List Int) : Int := if t.length = 40 ∧ r.length = 40 then (if (rightB t && rightB r) = true then 0 else 2) else 1
def sg (x : Int) : Int := if x < 0 then -1 else 1
theorem sg_cases (x : Int) : (x < 0 ∧ sg x = -1) ∨ (0 ≤ x ∧ sg x = 1) := by
  unfold sg
  by_cases h : x < 0
  · exact .inl ⟨h, if_pos h⟩
  · exact .inr ⟨by omega, if_neg h⟩
def psN (x : List Int) (t : Nat) : Nat := t + 4 * (nth x t).toNat
def goodX (x : List Int) : Bool := x.all fun p => decide (0 ≤ p) && decide (p ≤ 9)
theorem goodX_iff (x : List Int) : goodX x = true ↔ ∀ i, i < x.length → 0 ≤ nth x i ∧ nth x i ≤ 9 := by
  unfold goodX
  rw [List.all_eq_true]
  constructor
  · intro h i hi
    have := h x[i] (List.getElem_mem hi)
    simp only [Bool.and_eq_true, decide_eq_true_eq] at this
    simpa [nth, List.getD, hi] using this
  · intro h y hy
    obtain ⟨i, hi, rfl⟩ := List.getElem_of_mem hy
    have := h i hi
    simp only [nth, List.getD, List.getElem?_eq_getElem hi, Option.getD_some] at this
    simp [this]
theorem psN_lt {x : List Int} (hx : goodX x = true) (hl : x.length = 4) (t : Nat) (ht : t < 4) : psN x t < 40 := by
  have := (goodX_iff x).1 hx t (by omega)
  unfold psN; omega
def scC (d x : List Int) : Nat → Int
  | 0 => 0
  | t + 1 => wrap64 (scC d x t + wrap64 (sg (nth d (psN x t)) * nth d (psN x t)))
def ssN (d x : List Int) (t : Nat) : Int := sg (nth d (psN x t))
def scT (d r x : List Int) (t u : Nat) : Int := ssN d x t * ssN d x u * enN r (psN x t) (psN x u)
def scE (d r x : List Int) (t u : Nat) : Int := sumT (fun a => sumT (fun b => scT d r x a b) 4) t + sumT (fun b => scT d r x t b) u
theorem scE_step (d r x : List Int) (t u : Nat) : scE d r x t (u + 1) = scE d r x t u + scT d r x t u := by
  unfold scE
  show _ + (sumT (fun b => scT d r x t b) u + scT d r x t u) = _
  omega
theorem scE_next (d r x : List Int) (t : Nat) : scE d r x t 4 = scE d r x (t + 1) 0 := by
  unfold scE
  show _ = sumT (fun a => sumT (fun b => scT d r x a b) 4) t + sumT (fun b => scT d r x t b) 4 + 0
  omega
theorem scT_bd (d r x : List Int) (t u : Nat) : -42949672960 ≤ scT d r x t u ∧ scT d r x t u ≤ 42949672960 := by
  have := enN_bd r (psN x t) (psN x u)
  unfold scT ssN
  rcases sg_cases (nth d (psN x t)) with ⟨_, h⟩ | ⟨_, h⟩ <;> rcases sg_cases (nth d (psN x u)) with ⟨_, g⟩ | ⟨_, g⟩ <;> rw [h, g] <;> omega
theorem scE_bd (d r x : List Int) (t u : Nat) (ht : t ≤ 4) (hu : u ≤ 4) : -1000000000000 ≤ scE d r x t u ∧ scE d r x t u ≤ 1000000000000 := by
  have h1 := sumT_le (fun a => sumT (fun b => scT d r x a b) 4) 171798691840 (fun a => by
    have := sumT_le (fun b => scT d r x a b) 42949672960 (fun b => scT_bd d r x a b) 4
    omega) t
  have h2 := sumT_le (fun b => scT d r x t b) 42949672960 (fun b => scT_bd d r x t b) u
  unfold scE
  omega
def cS (d x : List Int) : Int := scC d x 4
def eS (d r x : List Int) : Int := scE d r x 4 0
def bsS (C E : List Int → Int) (ix : Nat → List Int) : Nat → List Int × Int × Int
  | 0 => (zeros 4, 0, 0)
  | m + 1 => if m = 0 ∨ btr (C (ix m)) (E (ix m)) (bsS C E ix m).2.1 (bsS C E ix m).2.2 = true then (ix m, C (ix m), E (ix m)) else bsS C E ix m
theorem bsS_yes (C E : List Int → Int) (ix : Nat → List Int) (m : Nat) (h : m = 0 ∨ btr (C (ix m)) (E (ix m)) (bsS C E ix m).2.1 (bsS C E ix m).2.2 = true) : bsS C E ix (m + 1) = (ix m, C (ix m), E (ix m)) := if_pos h
theorem bsS_no (C E : List Int → Int) (ix : Nat → List Int) (m : Nat) (h : ¬ (m = 0 ∨ btr (C (ix m)) (E (ix m)) (bsS C E ix m).2.1 (bsS C E ix m).2.2 = true)) : bsS C E ix (m + 1) = bsS C E ix m := if_neg h
theorem bsS_own (C E : List Int → Int) (ix : Nat → List Int) : ∀ m, 0 < m → ∃ j, j < m ∧ bsS C E ix m = (ix j, C (ix j), E (ix j))
  | 0, h => by omega
  | m + 1, _ => by
    by_cases h : m = 0 ∨ btr (C (ix m)) (E (ix m)) (bsS C E ix m).2.1 (bsS C E ix m).2.2 = true
    · exact ⟨m, by omega, bsS_yes C E ix m h⟩
    · obtain ⟨j, hj, e⟩ := bsS_own C E ix m (by omega)
      exact ⟨j, by omega, by rw [bsS_no C E ix m h, e]⟩
def fewN (C E : List Int → Int) : Nat → List Int
  | 0 => zeros 4
  | k + 1 => (bsS C E (fun p => (fewN C E k).set (k % 4) (p : Int)) 10).1
theorem goodX_set {x : List Int} (hx : goodX x = true) (t : Nat) (p : Int) (h0 : 0 ≤ p) (h1 : p ≤ 9) : goodX (x.set t p) = true := by
  rw [goodX_iff] at *
  intro i hi
  rw [List.length_set] at hi
  by_cases e : t = i
  · subst e; rw [nth_set_eq _ _ _ hi]; exact ⟨h0, h1⟩
  · rw [nth_set_ne _ _ _ _ e]; exact hx i hi
theorem fewN_good (C E : List Int → Int) : ∀ k, (fewN C E k).length = 4 ∧ goodX (fewN C E k) = true
  | 0 => ⟨rfl, rfl⟩
  | k + 1 => by
    have ih := fewN_good C E k
    obtain ⟨j, hj, e⟩ := bsS_own C E (fun p => (fewN C E k).set (k % 4) (p : Int)) 10 (by omega)
    show (bsS C E (fun p => (fewN C E k).set (k % 4) (p : Int)) 10).1.length = 4 ∧ goodX (bsS C E (fun p => (fewN C E k).set (k % 4) (p : Int)) 10).1 = true
    rw [e]
    exact ⟨by simpa using ih.1, goodX_set ih.2 _ _ (by omega) (by omega)⟩
def sgB (d x : List Int) (t : Nat) : Int := if nth d (psN x t) < 0 then 0 else 2 ^ t
def sgS (d x : List Int) (n : Nat) : Int := sumT (sgB d x) n
theorem sgB_bd (d x : List Int) (t : Nat) : 0 ≤ sgB d x t ∧ sgB d x t ≤ 2 ^ t := by
  have : (0 : Int) < 2 ^ t := Int.pow_pos (by omega)
  unfold sgB
  split <;> omega
theorem sgS_bd (d x : List Int) : 0 ≤ sgS d x 4 ∧ sgS d x 4 ≤ 15 := by
  have h0 := sgB_bd d x 0
  have h1 := sgB_bd d x 1
  have h2 := sgB_bd d x 2
  have h3 := sgB_bd d x 3
  show 0 ≤ 0 + sgB d x 0 + sgB d x 1 + sgB d x 2 + sgB d x 3 ∧ 0 + sgB d x 0 + sgB d x 1 + sgB d x 2 + sgB d x 3 ≤ 15
  have e : (2 : Int) ^ 0 = 1 ∧ (2 : Int) ^ 1 = 2 ∧ (2 : Int) ^ 2 = 4 ∧ (2 : Int) ^ 3 = 8 := by decide
  omega
def ok40 (d : List Int) : Bool := d.all fun x => decide (-1099511627776 ≤ x) && decide (x ≤ 1099511627776)
theorem ok40_iff (l : List Int) : ok40 l = true ↔ ∀ i, i < l.length → -1099511627776 ≤ nth l i ∧ nth l i ≤ 1099511627776 := by
  unfold ok40
  rw [List.all_eq_true]
  constructor
  · intro h i hi
    have := h l[i] (List.getElem_mem hi)
    simp only [Bool.and_eq_true, decide_eq_true_eq] at this
    simpa [nth, List.getD, hi] using this
  · intro h x hx
    obtain ⟨i, hi, rfl⟩ := List.getElem_of_mem hx
    have := h i hi
    simp only [nth, List.getD, List.getElem?_eq_getElem hi, Option.getD_some] at this
    simp [this]
def seE (d r : List Int) : Int := if d.length = 40 ∧ r.length = 40 then (if ok40 d = true then 0 else 2) else 1
def seX (d r : List Int) (X : List Int) : List Int := if seE d r = 0 then X else zeros 4
def seG (d r : List Int) (X : List Int) : Int := if seE d r = 0 then sgS d X 4 else 0
def fewX (d r : List Int) : List Int := fewN (cS d) (eS d r) 8
def blN (x : List Int) (s z : Int) (i : Nat) : Int := if nth x (i % 4) = ((i / 4 : Nat) : Int) then (if s / 2 ^ (i % 4) % 2 = 1 then z else -z) else 0
def blE (x : List Int) (s z : Int) : Int := if (0 ≤ s ∧ s ≤ 15) ∧ (0 ≤ z ∧ z ≤ 32767) ∧ goodX x = true then 0 else 2
def blL (x : List Int) (s z : Int) : List Int := if blE x s z = 0 then tab 40 (blN x s z) else []
def blV (s z : Int) (m : Nat) : Int := if s / 2 ^ m % 2 = 1 then z else -z
def FillB (x : List Int) (s z : Int) (m : Nat) (rs : List Int) : Prop := rs.length = 40 ∧ ∀ i, i < 40 → nth rs i = if i % 4 < m then blN x s z i else 0
theorem fillB_start (x : List Int) (s z : Int) : FillB x s z 0 (zeros 40) := ⟨zeros_len _, fun i hi => by rw [zeros_nth, if_neg (by omega)]⟩
theorem fillB_step {x : List Int} {s z : Int} {m : Nat} {rs : List Int} (hx : goodX x = true) (hl : x.length = 4) (hm : m < 4) (h : FillB x s z m rs) : FillB x s z (m + 1) (rs.set (psN x m) (blV s z m)) := by
  have hg := (goodX_iff x).1 hx m (by omega)
  have hp := psN_lt hx hl m hm
  refine ⟨by simpa using h.1, fun i hi => ?_⟩
  by_cases e : psN x m = i
  · subst e
    rw [nth_set_eq _ _ _ (by rw [h.1]; exact hp)]
    have h4 : psN x m % 4 = m := by unfold psN; omega
    have h5 : ((psN x m / 4 : Nat) : Int) = nth x m := by unfold psN; omega
    rw [if_pos (by omega)]
    unfold blN blV
    rw [h4, h5, if_pos rfl]
  · rw [nth_set_ne _ _ _ _ e, h.2 i hi]
    by_cases h1 : i % 4 < m
    · rw [if_pos h1, if_pos (by omega)]
    · rw [if_neg h1]
      by_cases h2 : i % 4 < m + 1
      · have h3 : i % 4 = m := by omega
        rw [if_pos h2]
        unfold blN
        rw [h3, if_neg (fun e' => e (by unfold psN; omega))]
      · rw [if_neg h2]
theorem fillB_all {x : List Int} {s z : Int} {rs : List Int} (h : FillB x s z 4 rs) : rs = tab 40 (blN x s z) :=
  tab_ext h.1 (fun i hi => by rw [h.2 i hi, if_pos (by omega)])
theorem blL_no {x : List Int} {s z : Int} (h : ¬ ((0 ≤ s ∧ s ≤ 15) ∧ (0 ≤ z ∧ z ≤ 32767) ∧ goodX x = true)) : blE x s z = 2 ∧ blL x s z = [] := by
  have e : blE x s z = 2 := if_neg h
  exact ⟨e, by unfold blL; rw [if_neg (by rw [e]; decide)]⟩
theorem blL_yes {x : List Int} {s z : Int} (h : (0 ≤ s ∧ s ≤ 15) ∧ (0 ≤ z ∧ z ≤ 32767) ∧ goodX x = true) : blE x s z = 0 ∧ blL x s z = tab 40 (blN x s z) := by
  have e : blE x s z = 0 := if_pos h
  exact ⟨e, by unfold blL; rw [if_pos e]⟩
end Go.Proofs.YtjepkgdejkifcaaGreatDoor
