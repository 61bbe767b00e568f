/- Texts put together: Grow, BigMath, Math, Ints, Arrs, LpcMath, LpcS, LevMath, LpcA, Base, SynthMath, Owns, RegA, EndMath, SynW, SynA, SynB, Order, SynC, Syn, BaseB, KeepL, AppL, Memo, Btr, PitchMath, PulMath, PulA, PulI, PulK, PulB, PulC, PulD, Better, BetterB, BtrG. -/
import Derived.Test.YtekdgohomaeeeabProg
import Derived.WalkKit
import Derived.WalkSpells
import Derived.WalkLawsBesides
import Derived.RowKit3
import Derived.Laws.OwnMore
import Derived.Deep.MidRow
import Derived.Laws.AppendOwnNone
import Derived.OrdersHeld
import Derived.RegionTactic
import Derived.Deep.RegionHeld
import Derived.Deep.CutRange
import Derived.Laws.CopyOwn
import Derived.BigQuiet
import Derived.Deep.QuietTactic
import Derived.StillTail
import Derived.Laws.Externs
import Derived.Shelf.Bits.Mul64
/- Grow -/
namespace Go.Proofs.Ytekdgohomaeeeab
open Go.RowKit
set_option linter.unusedVariables false
theorem hide {p : Prop} (h : p) : Hid p := h
theorem lt_of_some {w : World} {b : Nat} {o : Obj} (h : w.heap[b]? = some o) : b < w.heap.size := by
  by_cases hb : b < w.heap.size
  · exact hb
  · rw [Array.getElem?_eq_none (by omega)] at h; cases h
theorem cell_of_heap {w : World} {b : Nat} {cs : Array Value} {t : TypeId} {f : Nat × Nat} (h : w.heap[b]? = some (.cells cs t f)) (i : Nat) : w.cell? ⟨b, i, none⟩ = cs[i]? := by
  simp [World.cell?, h]
theorem frozen_of_heap {w : World} {b : Nat} {cs : Array Value} {t : TypeId} (h : w.heap[b]? = some (.cells cs t (0, 0))) (i : Nat) : w.frozen? ⟨b, i, none⟩ = false := by
  simp [World.frozen?, h]
theorem grown_refl (w : World) (r : Option Nat) : w.grownBy w r := ⟨rfl, rfl, rfl, Nat.le_refl _, fun _ _ _ => rfl⟩
theorem grown_alloc (w : World) (o : Obj) (r : Option Nat) : w.grownBy (w.alloc o) r := ⟨rfl, rfl, rfl, by simp, fun k hk _ => Below.heap_alloc _ _ _ hk⟩
theorem grown_trans {a b c : World} {r s : Option Nat} (h : a.grownBy b r) (k : b.grownBy c s) (t : Option Nat) (hr : ∀ i, r = some i → i < a.heap.size → t = some i) (hs : ∀ i, s = some i → i < a.heap.size → t = some i) : a.grownBy c t :=
  ⟨k.os.trans h.os, k.tape.trans h.tape, k.output.trans h.output, Nat.le_trans h.size k.size, fun i hi ht => by
    rw [k.block i (Nat.lt_of_lt_of_le hi h.size) (fun e => ht ((hs i e.symm hi).symm)), h.block i hi (fun e => ht ((hr i e.symm hi).symm))]⟩
theorem grown_none {a b c : World} (h : a.grownBy b none) (k : b.grownBy c none) : a.grownBy c none := grown_trans h k none (fun i e => by cases e) (fun i e => by cases e)
theorem grown_setCell (w : World) (a : Addr) (v : Value) : w.grownBy (w.setCell a v) (some a.block) := ⟨rfl, rfl, rfl, by simp [World.setCell], fun k _ h => Below.heap_setCell _ _ _ _ (fun e => h (by rw [e]))⟩
theorem grown_drew {a b : World} {r : Option Nat} (h : a.grownBy b r) : a.grownBy b.drew r := ⟨h.os, h.tape, h.output, h.size, h.block⟩
theorem heap_new (w : World) (o : Obj) : (w.alloc o).heap[w.heap.size]? = some o := by
  show (w.heap.push o)[w.heap.size]? = _
  simp
theorem grown_own {a b c : World} {i : Nat} (h : a.grownBy b none) (k : b.grownBy c (some i)) (hi : a.heap.size ≤ i) : a.grownBy c none :=
  grown_trans h k none (fun i e _ => by cases e) (fun j e hj => by cases e; omega)
theorem below_of_grown {w w' : World} (h : w.grownBy w' none) : Below w.heap.size w w' := ⟨h.os, h.tape, h.output, h.size, fun k hk => h.block k hk (by simp)⟩
theorem grown_drewN' (w : World) (n : Nat) (r : Option Nat) : w.grownBy (w.drewN n) r := ⟨rfl, rfl, rfl, Nat.le_refl _, fun _ _ _ => rfl⟩
theorem grown_keep {w w' : World} (h : w.grownBy w' none) {a : Addr} {v : Value} (hc : w.cell? a = some v) : w'.cell? a = some v := by
  have hb : a.block < w.heap.size := by
    rcases Nat.lt_or_ge a.block w.heap.size with g | g
    · exact g
    · unfold World.cell? at hc
      rw [Array.getElem?_eq_none g] at hc
      simp at hc
  rw [World.cell?_of_block (w := w) (h.block a.block hb (by simp))]; exact hc
theorem sL {α : Type} : (∀ (l : List α) (i : Nat) (a : α), l.toArray.setIfInBounds i a = (l.set i a).toArray) ∧ (∀ (a b : α) (l : List α), (a :: l).set 0 b = b :: l) ∧ (∀ (a b : α) (l : List α) (n : Nat), (a :: l).set (n + 1) b = a :: l.set n b) ∧ (∀ (xs : List α) (i : Nat) (h : i < xs.toArray.size), xs.toArray[i] = xs[i]'(by simpa using h)) ∧ (∀ (a : α) (l : List α) (h : 0 < (a :: l).length), (a :: l)[0] = a) ∧ (∀ (a : α) (l : List α) (i : Nat) (h : i + 1 < (a :: l).length), (a :: l)[i + 1] = l[i]'(by simpa using h)) :=
  ⟨fun _ _ _ => List.setIfInBounds_toArray .., fun _ _ _ => List.set_cons_zero .., fun _ _ _ _ => List.set_cons_succ .., fun _ _ _ => List.getElem_toArray .., fun _ _ _ => List.getElem_cons_zero .., fun _ _ _ _ => List.getElem_cons_succ ..⟩
end Go.Proofs.Ytekdgohomaeeeab

/- BigMath -/
namespace Go.Proofs.Ytekdgohomaeeeab
def nth (l : List Int) (i : Nat) : Int := l.getD i 0
def P (k : Nat) : Int := 4294967296 ^ k
def valTo (l : List Int) : Nat → Int
  | 0 => 0
  | k + 1 => valTo l k + nth l k * P k
def val (l : List Int) : Int := valTo l l.length
theorem getD_out (l : List Int) (k : Nat) (h : l.length ≤ k) : nth l k = 0 := by simp [nth, List.getD, List.getElem?_eq_none h]
end Go.Proofs.Ytekdgohomaeeeab

/- Math -/
namespace Go.Proofs.Ytekdgohomaeeeab
open Go.RowKit
def c16 (x : Int) : Int := if x < -32768 then -32768 else if 32767 < x then 32767 else x
def o16 (x : Int) : Bool := c16 x != x
def spotN (v n : Int) : Int := v % n
theorem c16_bd (x : Int) : -32768 ≤ c16 x ∧ c16 x ≤ 32767 := by unfold c16; split <;> (try split) <;> omega
theorem c16_id (x : Int) (h : -32768 ≤ x) (h' : x ≤ 32767) : c16 x = x := by unfold c16; split <;> (try split) <;> omega
theorem stop16 (x : Int) : (if 32767 < (if x < -32768 then -32768 else x) then 32767 else (if x < -32768 then -32768 else x)) = c16 x := by
  unfold c16; split <;> split <;> (try split) <;> omega
theorem mul16_bd (a b : Int) (h1 : -32768 ≤ a) (h2 : a ≤ 32767) (h3 : -32768 ≤ b) (h4 : b ≤ 32767) : -1073709056 ≤ a * b ∧ a * b ≤ 1073741824 := by
  have e1 : 0 ≤ (32767 - a) * (b + 32768) := Int.mul_nonneg (by omega) (by omega)
  have e2 : 0 ≤ (a + 32768) * (32767 - b) := Int.mul_nonneg (by omega) (by omega)
  have e3 : 0 ≤ (a + 32768) * (b + 32768) := Int.mul_nonneg (by omega) (by omega)
  have e4 : 0 ≤ (32767 - a) * (32767 - b) := Int.mul_nonneg (by omega) (by omega)
  simp only [Int.sub_mul, Int.add_mul, Int.mul_add, Int.mul_sub] at e1 e2 e3 e4
  omega
end Go.Proofs.Ytekdgohomaeeeab

/- Ints -/
namespace Go.Proofs.Ytekdgohomaeeeab
open Go.RowKit
set_option linter.unusedVariables false
set_option linter.unusedSimpArgs false
set_option maxHeartbeats 1000000
def Ints (w : World) (v : Value) (l : List Int) : Prop :=
  ∃ (ad : Option Addr) (c : Nat), v = .slice ad l.length c ∧ l.length ≤ c ∧ (0 < l.length → ∃ a, ad = some a ∧ ∀ i, i < l.length → w.cell? (a.add i) = some (.int .i64 (nth l i)))
def rightB (l : List Int) : Bool := l.all fun x => decide (-32768 ≤ x) && decide (x ≤ 32767)
theorem rightB_iff (l : List Int) : rightB l = true ↔ ∀ i, i < l.length → -32768 ≤ nth l i ∧ nth l i ≤ 32767 := by
  unfold rightB
  rw [List.all_eq_true]
  constructor
  · intro h i hi
    have := h l[i] (List.getElem_mem hi)
    simp only [Bool.and_eq_true, decide_eq_true_eq] at this
    simpa [nth, List.getD, hi] using this
  · intro h x hx
    obtain ⟨i, hi, rfl⟩ := List.getElem_of_mem hx
    have := h i hi
    simp only [nth, List.getD, List.getElem?_eq_getElem hi, Option.getD_some] at this
    simp [this]
def arrI (l : List Int) : Array Value := (l.map (Value.int .i64)).toArray
theorem arrI_get (l : List Int) (i : Nat) (h : i < l.length) : (arrI l)[i]? = some (.int .i64 (nth l i)) := by
  simp [arrI, nth, List.getD, h]
theorem arrI_set (l : List Int) (k : Nat) (v : Int) : (arrI l).setIfInBounds k (.int .i64 v) = arrI (l.set k v) := by
  simp [arrI, List.map_set]
theorem infoI64 : (Try.prog.info? 3).map (fun i => (i.zero, i.size, i.bytes)) = some (some (.int .i64 0), 1, 8) := by kernel_rfl
theorem made_arrI (n : Nat) : madeCells #[.int .i64 0] n = arrI (List.replicate n 0) := by
  unfold arrI madeCells
  apply Array.ext
  · simp
  · intro i h1 h2
    simp [Nat.mod_one]
theorem make_int (z : Int) (h0 : 0 ≤ z) (h1 : z ≤ 35184372088832) (u : World) :
    (Instr.makeSlice 22 (.int .i64 z) (.int .i64 z)).run Try.prog u = .ok (.slice (some ⟨u.heap.size, 0, none⟩) z.toNat z.toNat) (u.alloc (.cells (arrI (List.replicate z.toNat 0)) 3)) := by
  obtain ⟨i0, hi, hz0, hz1, hz2⟩ := info_parts infoI64
  have h := run_make (P := Try.prog) u 22 3 i0 (.int .i64 0) Try.underlying22 hi hz0 .i64 .i64 z z h0 (Int.le_refl _) (by rw [hz2]; omega) (by omega)
  rw [← made_arrI]
  simpa [hz1, Value.cells] using h
theorem Ints_keep {w w' : World} {v : Value} {l : List Int} (h : Ints w v l) (g : w.grownBy w' none) : Ints w' v l := by
  obtain ⟨ad, c, rfl, hc, hcell⟩ := h
  refine ⟨ad, c, rfl, hc, fun h => ?_⟩
  obtain ⟨a, rfl, hv⟩ := hcell h
  exact ⟨a, rfl, fun i hi => grown_keep g (hv i hi)⟩
theorem Ints_of_owns {w : World} {base : Nat} {v : Value} {l : List Int} (h : w.ownsRow base 3 1 v l.length (l.map (Value.int .i64))) : Ints w v l := by
  obtain ⟨h1, h2⟩ := h
  rcases h2 with ⟨h2, h3⟩ | ⟨g, cap, cur, h2, _, h4, h5, _, h7, h8⟩
  · exact ⟨none, 0, by rw [h2, h3], by omega, fun h => by omega⟩
  · refine ⟨some ⟨g, 0, none⟩, cap, h2, h5, fun _ => ⟨_, rfl, fun i hi => ?_⟩⟩
    have e : (cur.toList.take (l.length * 1))[i]? = (l.map (Value.int .i64))[i]? := by rw [h8]
    rw [List.getElem?_take, if_pos (by omega), Array.getElem?_toList] at e
    have ea : (⟨g, 0, none⟩ : Addr).add i = ⟨g, i, none⟩ := by unfold Addr.add; split <;> simp_all
    rw [ea, cell_of_heap h4, e]
    simp [nth, List.getD, hi]
theorem heap_setCell {w : World} {b k : Nat} {cs : Array Value} {t : TypeId} (h : w.heap[b]? = some (.cells cs t (0, 0))) (v : Value) :
    (w.setCell ⟨b, k, none⟩ v).heap[b]? = some (.cells (cs.setIfInBounds k v) t (0, 0)) := by
  simp only [World.setCell, Array.getElem?_modify, h]
  simp
theorem wrapI (n : Int) (h0 : -9223372036854775808 ≤ n) (h1 : n ≤ 9223372036854775807) : IntKind.i64.wrap n = n := by
  show (if (true && decide (n % 18446744073709551616 ≥ 9223372036854775808)) = true then n % 18446744073709551616 - 18446744073709551616 else n % 18446744073709551616) = n
  split
  · rename_i hh
    simp at hh
    omega
  · rename_i hh
    simp at hh
    omega
def In64 (l : List Int) : Prop := ∀ i, -9223372036854775808 ≤ nth l i ∧ nth l i ≤ 9223372036854775807
end Go.Proofs.Ytekdgohomaeeeab

/- Arrs -/
namespace Go.Proofs.Ytekdgohomaeeeab
open Go.RowKit
set_option linter.unusedVariables false
set_option linter.unusedSimpArgs false
def Blk (w : World) (b : Nat) (T : TypeId) (rs : List Int) : Prop := w.heap[b]? = some (.cells (arrI rs) T (0, 0))
theorem Blk.cell {w : World} {b : Nat} {T : TypeId} {rs : List Int} (h : Blk w b T rs) (i : Nat) (hi : i < rs.length) : w.cell? ⟨b, i, none⟩ = some (.int .i64 (nth rs i)) := (cell_of_heap h i).trans (arrI_get rs i hi)
theorem Blk.free {w : World} {b : Nat} {T : TypeId} {rs : List Int} (h : Blk w b T rs) (i : Nat) : w.frozen? ⟨b, i, none⟩ = false := frozen_of_heap h i
theorem Blk.lt {w : World} {b : Nat} {T : TypeId} {rs : List Int} (h : Blk w b T rs) : b < w.heap.size := lt_of_some h
theorem Blk.keep {w w' : World} {b : Nat} {T : TypeId} {rs : List Int} (h : Blk w b T rs) (g : w.grownBy w' none) : Blk w' b T rs := (g.block _ (lt_of_some h) (by simp)).trans h
theorem Blk.keepBut {w w' : World} {b : Nat} {T : TypeId} {rs : List Int} {r : Nat} (h : Blk w b T rs) (g : w.grownBy w' (some r)) (hr : b ≠ r) : Blk w' b T rs := (g.block _ (lt_of_some h) (by simpa using hr)).trans h
theorem Blk.new (w : World) (T : TypeId) (rs : List Int) : Blk (w.alloc (.cells (arrI rs) T)) w.heap.size T rs := heap_new w _
theorem Blk.new1 (w : World) (o : Obj) (T : TypeId) (rs : List Int) : Blk ((w.alloc o).alloc (.cells (arrI rs) T)) (w.heap.size + 1) T rs := by simpa using Blk.new (w.alloc o) T rs
theorem Blk.set {w : World} {b : Nat} {T : TypeId} {rs : List Int} (h : Blk w b T rs) (k : Nat) (z : Int) : Blk (w.setCell ⟨b, k, none⟩ (.int .i64 z)) b T (rs.set k z) := by
  unfold Blk
  rw [heap_setCell h, arrI_set]
theorem Blk.range {w : World} {b : Nat} {T : TypeId} {rs : List Int} (h : Blk w b T rs) : w.rangeAt b 0 (rs.map (Value.int .i64)) := fun j v hv => by
  rw [Nat.zero_add, cell_of_heap h]
  simpa [arrI] using hv
theorem Blk.there {w : World} {b : Nat} {T : TypeId} {rs : List Int} (h : Blk w b T rs) : w.there b 0 rs.length := fun j hj => by
  rw [Nat.zero_add]
  exact ⟨by rw [h.cell j hj]; rfl, h.free j⟩
theorem load_arr {w : World} {b : Nat} {T : TypeId} {rs : List Int} (h : Blk w b T rs) (d : TypeDesc) (hu : Try.prog.underlying T = some d) (hd : d.isRow = true) (hi : (Try.prog.info? T).map (·.size) = some rs.length) :
    Sem.run Try.prog (Instr.loadAt T (.pointer (some ⟨b, 0, none⟩))) w = .ok (.agg (arrI rs)) w :=
  run_loadAt_mid w b 0 T (rs.map (Value.int .i64)) d h.range hu hd (by simpa using hi)
theorem loadVar_arr {w : World} {b : Nat} {T : TypeId} {rs : List Int} (h : Blk w b T rs) (d : TypeDesc) (hu : Try.prog.underlying T = some d) (hd : d.isRow = true) (hi : (Try.prog.info? T).map (·.size) = some rs.length) :
    Sem.run Try.prog (loadVar T ⟨b, 0, none⟩) w = .ok (.agg (arrI rs)) w :=
  run_loadVar_mid w b 0 T (rs.map (Value.int .i64)) d h.range hu hd (by simpa using hi)
def putArr (w : World) (b : Nat) (rs : List Int) : World := w.setCells b 0 (rs.map (Value.int .i64))
theorem ones_arrI (rs : List Int) : (arrI rs).all (·.oneCell') = true := by
  apply all_oneCell_toArray
  intro v hv
  obtain ⟨x, _, rfl⟩ := List.mem_map.1 hv
  rfl
theorem heap_setCells (b : Nat) (T : TypeId) : ∀ (vs : List Value) (o : Nat) (w : World) (cs : Array Value), w.heap[b]? = some (.cells cs T (0, 0)) → o + vs.length ≤ cs.size →
    ∃ cs', (w.setCells b o vs).heap[b]? = some (.cells cs' T (0, 0)) ∧ cs'.size = cs.size ∧ (∀ i, i < o → cs'[i]? = cs[i]?) ∧ (∀ i, i < vs.length → cs'[o + i]? = vs[i]?) ∧ w.grownBy (w.setCells b o vs) (some b)
  | [], o, w, cs, h, _ => ⟨cs, h, rfl, fun _ _ => rfl, fun i hi => by simp at hi, grown_refl w _⟩
  | v :: vs, o, w, cs, h, hl => by
    simp only [List.length_cons] at hl
    have h1 := heap_setCell (k := o) h v
    obtain ⟨cs', c1, c2, c3, c4, c5⟩ := heap_setCells b T vs (o + 1) (w.setCell ⟨b, o, none⟩ v) (cs.setIfInBounds o v) h1 (by simp; omega)
    refine ⟨cs', c1, by simpa using c2, fun i hi => ?_, fun i hi => ?_, grown_trans (grown_setCell w ⟨b, o, none⟩ v) c5 (some b) (fun i e _ => e) (fun i e _ => e)⟩
    · rw [c3 i (by omega)]
      simp [Array.getElem?_setIfInBounds, show ¬ o = i by omega]
    · match i, hi with
      | 0, _ =>
        rw [Nat.add_zero, c3 o (by omega)]
        simp [Array.getElem?_setIfInBounds, show o < cs.size by omega]
      | i + 1, hi =>
        have := c4 i (by simp at hi; omega)
        rw [show o + (i + 1) = o + 1 + i by omega, this]
        simp
theorem put_arr {w : World} {b : Nat} {T : TypeId} {rs rs' : List Int} (h : Blk w b T rs) (hl : rs'.length = rs.length) : Blk (putArr w b rs') b T rs' ∧ w.grownBy (putArr w b rs') (some b) := by
  obtain ⟨cs', c1, c2, _, c4, c5⟩ := heap_setCells b T (rs'.map (Value.int .i64)) 0 w (arrI rs) h (by simp [arrI, hl])
  refine ⟨?_, c5⟩
  unfold Blk putArr
  rw [c1]
  have : cs' = arrI rs' := by
    apply Array.ext_getElem?
    intro i
    by_cases hi : i < rs'.length
    · have := c4 i (by simpa using hi)
      rw [Nat.zero_add] at this
      rw [this]; simp [arrI]
    · rw [Array.getElem?_eq_none (by rw [c2]; simp [arrI]; omega), Array.getElem?_eq_none (by simp [arrI]; omega)]
  rw [this]
theorem wpList_load_arr {ops : Array Oper} {rest : List Oper} {op : Oper} {a : Act} {w : World} {Q : Exit → Act → World → Prop} (hgd : op.guard = none) (T : TypeId) (x : Operand) (ho : op.op = .load T x)
    (b : Nat) (hx : a.eval x = .pointer (some ⟨b, 0, none⟩)) (rs : List Int) (h : Blk w b T rs) (d : TypeDesc) (hu : Try.prog.underlying T = some d) (hd : d.isRow = true) (hi : (Try.prog.info? T).map (·.size) = some rs.length)
    (k : wpList Try.prog ops Q rest (a.put op.dst (.agg (arrI rs))) w) : wpList Try.prog ops Q (op :: rest) a w :=
  wpList_load_mid hgd T x ho b 0 hx (rs.map (Value.int .i64)) d h.range hu hd (by simpa using hi) k
theorem wpList_store_arr {ops : Array Oper} {rest : List Oper} {op : Oper} {a : Act} {w : World} {Q : Exit → Act → World → Prop} (hgd : op.guard = none) (T : TypeId) (x y : Operand) (ho : op.op = .store T x y)
    (b : Nat) (rs rs' : List Int) (hx : a.eval x = .pointer (some ⟨b, 0, none⟩)) (hy : a.eval y = .agg (arrI rs')) (h : Blk w b T rs) (hl : rs'.length = rs.length) (hi : (Try.prog.info? T).map (·.size) = some rs.length)
    (k : wpList Try.prog ops Q rest (a.put op.dst undef) (putArr w b rs')) : wpList Try.prog ops Q (op :: rest) a w :=
  wpList_store_mid hgd T x y ho b 0 (arrI rs') hx hy (by rw [show (arrI rs').size = rs.length by simp [arrI, hl]]; exact h.there) (by simpa [arrI, hl] using hi) (ones_arrI rs') (by simpa [putArr, arrI] using k)
def zeros (n : Nat) : List Int := List.replicate n 0
theorem zeros_len (n : Nat) : (zeros n).length = n := by simp [zeros]
theorem zeros_nth (n i : Nat) : nth (zeros n) i = 0 := by simp [zeros, nth, List.getD, List.getElem?_replicate]; split <;> rfl
theorem zero_arr {T : TypeId} {n : Nat} (hz : (Try.prog.info? T).bind (·.zero) = some (.agg (arrI (zeros n)))) (w : World) : Sem.run Try.prog (zeroValue T) w = .ok (.agg (arrI (zeros n))) w := by
  cases hq : Try.prog.info? T with
  | none => simp [hq] at hz
  | some i =>
    have hi : i.zero = some (.agg (arrI (zeros n))) := by simpa [hq] using hz
    simp [zeroValue, typeInfo, hq, hi]
theorem index_arr {T : TypeId} {n : Nat} (rs : List Int) (hu : Try.prog.underlying T = some (.array n 3)) (k : Nat) (hk : k < rs.length) (hn : rs.length = n) (w : World) : Sem.run Try.prog (Instr.index T (.agg (arrI rs)) (.int .i64 k)) w = .ok (.int .i64 (nth rs k)) w := by
  have hg := arrI_get rs k hk
  have hb : (0 : Int) ≤ k ∧ (k : Int) < n := by omega
  obtain ⟨i0, hi, hz0, hz1, hz2⟩ := info_parts infoI64
  simp [Instr.index, run_underlying hu, asIntOf, hb, go_sem, sizeOf, typeInfo, hi, hz1, part, isAgg, run_underlying Try.underlying3, hg]
  intro h; omega
theorem make_zeros (n : Nat) (h1 : n ≤ 35184372088832) (u : World) :
    (Instr.makeSlice 22 (.int .i64 n) (.int .i64 n)).run Try.prog u = .ok (.slice (some ⟨u.heap.size, 0, none⟩) n n) (u.alloc (.cells (arrI (zeros n)) 3)) := by
  have := make_int n (by omega) (by omega) u
  simpa [zeros] using this
theorem fresh_arr (w : World) (T : TypeId) (n : Nat) (L : List Int) (hL : L.length = n) : Blk (w.alloc (.cells (arrI (zeros n)) T)) w.heap.size T (zeros n) ∧ Blk (putArr (w.alloc (.cells (arrI (zeros n)) T)) w.heap.size L) w.heap.size T L ∧ w.grownBy (putArr (w.alloc (.cells (arrI (zeros n)) T)) w.heap.size L) none := by
  have hB := Blk.new w T (zeros n)
  have PU := put_arr (rs' := L) hB (by rw [hL, zeros_len])
  exact ⟨hB, PU.1, grown_own (grown_alloc _ _ none) PU.2 (Nat.le_refl _)⟩
theorem wpList_load_arrG {ops : Array Oper} {rest : List Oper} {op : Oper} {a : Act} {w : World} {Q : Exit → Act → World → Prop} (hgd : Region.wanted op (yielded ops a.tmps) = true) (T : TypeId) (x : Operand) (ho : op.op = .load T x)
    (b : Nat) (hx : a.eval x = .pointer (some ⟨b, 0, none⟩)) (rs : List Int) (h : Blk w b T rs) (d : TypeDesc) (hu : Try.prog.underlying T = some d) (hd : d.isRow = true) (hi : (Try.prog.info? T).map (·.size) = some rs.length)
    (k : wpList Try.prog ops Q rest (a.put op.dst (.agg (arrI rs))) w) : wpList Try.prog ops Q (op :: rest) a w := by
  refine wpList_step fun K hK => ?_
  rw [if_pos hgd]
  exact wp_load_mid T x ho b 0 hx (rs.map (Value.int .i64)) d h.range hu hd (by simpa using hi) (hK _ _ k)
end Go.Proofs.Ytekdgohomaeeeab

/- LpcMath -/
namespace Go.Proofs.Ytekdgohomaeeeab
open Go.RowKit
set_option linter.unusedVariables false
set_option linter.unusedSimpArgs false
def FillN (n : Nat) (f : Nat → Int) (k : Nat) (rs : List Int) : Prop := rs.length = n ∧ ∀ j, j < k → nth rs j = f j
theorem fillN_step {n : Nat} {f : Nat → Int} {k : Nat} {rs : List Int} (h : FillN n f k rs) (hk : k < n) : FillN n f (k + 1) (rs.set k (f k)) := by
  obtain ⟨h1, h2⟩ := h
  refine ⟨by simpa using h1, fun j hj => ?_⟩
  by_cases e : j = k
  · subst e
    simp [nth, List.getD, h1, hk]
  · have := h2 j (by omega)
    simpa [nth, List.getD, List.getElem?_set, Ne.symm e] using this
theorem fillN_all {n : Nat} {f : Nat → Int} {rs : List Int} (h : FillN n f n rs) : rs = (List.range n).map f := by
  apply List.ext_getElem
  · simp [h.1]
  · intro i h1 h2
    have := h.2 i (by have := h.1; omega)
    simpa [nth, List.getD, h1] using this
theorem fillN_start (n : Nat) (f : Nat → Int) : FillN n f 0 (zeros n) := ⟨zeros_len n, fun j hj => by omega⟩
end Go.Proofs.Ytekdgohomaeeeab

/- LpcS -/
namespace Go.Proofs.Ytekdgohomaeeeab
open Go.RowKit
set_option linter.unusedVariables false
set_option linter.unusedSimpArgs false
theorem laid2 (w : World) (T1 T2 : TypeId) (a b : List Int) : Blk ((w.alloc (.cells (arrI a) T1)).alloc (.cells (arrI b) T2)) w.heap.size T1 a ∧ Blk ((w.alloc (.cells (arrI a) T1)).alloc (.cells (arrI b) T2)) (w.heap.size + 1) T2 b ∧ w.grownBy ((w.alloc (.cells (arrI a) T1)).alloc (.cells (arrI b) T2)) none :=
  ⟨(Blk.new w T1 a).keep (grown_alloc _ _ none), Blk.new1 w _ T2 b, grown_none (grown_alloc _ _ none) (grown_alloc _ _ none)⟩
def Mem2 (w wr : World) (T1 T2 : TypeId) (a b : List Int) : Prop := Blk wr w.heap.size T1 a ∧ Blk wr (w.heap.size + 1) T2 b ∧ w.grownBy wr none
def Mem3 (w wr : World) (T1 T2 T3 : TypeId) (a b c : List Int) : Prop := Blk wr w.heap.size T1 a ∧ Blk wr (w.heap.size + 1) T2 b ∧ Blk wr (w.heap.size + 1 + 1) T3 c ∧ w.grownBy wr none
theorem Mem2.keep {w wr wr' : World} {T1 T2 : TypeId} {a b : List Int} (h : Mem2 w wr T1 T2 a b) (g : wr.grownBy wr' none) : Mem2 w wr' T1 T2 a b := ⟨h.1.keep g, h.2.1.keep g, grown_none h.2.2 g⟩
theorem Mem3.keep {w wr wr' : World} {T1 T2 T3 : TypeId} {a b c : List Int} (h : Mem3 w wr T1 T2 T3 a b c) (g : wr.grownBy wr' none) : Mem3 w wr' T1 T2 T3 a b c := ⟨h.1.keep g, h.2.1.keep g, h.2.2.1.keep g, grown_none h.2.2.2 g⟩
theorem Mem2.set {w wr : World} {T1 T2 : TypeId} {a b : List Int} (h : Mem2 w wr T1 T2 a b) (k : Nat) (z : Int) : Mem2 w (wr.setCell ⟨w.heap.size, k, none⟩ (.int .i64 z)) T1 T2 (a.set k z) b :=
  ⟨h.1.set k z, h.2.1.keepBut (grown_setCell _ ⟨w.heap.size, k, none⟩ _) (by simp), grown_own h.2.2 (grown_setCell _ ⟨w.heap.size, k, none⟩ _) (by simp)⟩
theorem Mem3.set {w wr : World} {T1 T2 T3 : TypeId} {a b c : List Int} (h : Mem3 w wr T1 T2 T3 a b c) (k : Nat) (z : Int) : Mem3 w (wr.setCell ⟨w.heap.size, k, none⟩ (.int .i64 z)) T1 T2 T3 (a.set k z) b c :=
  ⟨h.1.set k z, h.2.1.keepBut (grown_setCell _ ⟨w.heap.size, k, none⟩ _) (by simp), h.2.2.1.keepBut (grown_setCell _ ⟨w.heap.size, k, none⟩ _) (by simp; omega), grown_own h.2.2.2 (grown_setCell _ ⟨w.heap.size, k, none⟩ _) (by simp)⟩
end Go.Proofs.Ytekdgohomaeeeab

/- LevMath -/
namespace Go.Proofs.Ytekdgohomaeeeab
open Go.RowKit
set_option linter.unusedVariables false
set_option linter.unusedSimpArgs false
def tab (n : Nat) (p : Nat → Int) : List Int := (List.range n).map p
theorem tab_len (n : Nat) (p : Nat → Int) : (tab n p).length = n := by simp [tab]
theorem tab_nth (n : Nat) (p : Nat → Int) (i : Nat) (h : i < n) : nth (tab n p) i = p i := by simp [tab, nth, List.getD, h]
theorem tab_ext {n : Nat} {p : Nat → Int} {l : List Int} (h1 : l.length = n) (h2 : ∀ i, i < n → nth l i = p i) : l = tab n p := fillN_all (n := n) ⟨h1, h2⟩
def gr (p : Nat → Int) (m : Nat) (q : Int) (i : Nat) : Int := if 1 ≤ i ∧ i ≤ m then p i + q * p (m - i) / 32768 else p i
def RB (r : Nat → Int) : Prop := ∀ i, -2147483647 ≤ r i ∧ r i ≤ 2147483647
end Go.Proofs.Ytekdgohomaeeeab

/- LpcA -/
namespace Go.Proofs.Ytekdgohomaeeeab
open Go.RowKit
set_option linter.unusedVariables false
set_option linter.unusedSimpArgs false
set_option maxHeartbeats 1000000
def Ans (w : World) (r : Value) (e : Ending) (w' : World) : Prop := e = .returned r ∧ w' = w
def AnsG (w : World) (r : Value) (e : Ending) (w' : World) : Prop := e = .returned r ∧ w.grownBy w' none
end Go.Proofs.Ytekdgohomaeeeab

/- Base -/
namespace Go.Proofs.Ytekdgohomaeeeab
open Go.RowKit
set_option maxHeartbeats 400000
theorem ret2 {k : IntKind} {a b : Int} {p q : Bool} (h : a = b) (h' : p = q) : Ending.returned (.tuple #[.int k a, .bool p]) = .returned (.tuple #[.int k b, .bool q]) := by rw [h, h']
theorem sat16_any (x : Int) (w : World) :
    Calls Try.prog 42 #[.int .i64 x] w fun e w' => e = .returned (.tuple #[.int .i64 (c16 x), .bool (o16 x)]) ∧ w' = w := by
  have hs := stop16 x
  by_cases h1 : x < -32768
  · have e : c16 x = -32768 := by unfold c16; simp [h1]
    have e' : o16 x = true := by unfold o16; rw [e]; simp; omega
    clear hs; rw [e, e']; clear e e'
    go_enter Try.func42, Try.ntmps42
    go_wp2
    go_ret2
    exact ⟨ret2 rfl (by simp; omega), rfl⟩
  · by_cases h2 : 32767 < x
    · have e : c16 x = 32767 := by unfold c16; simp [h1, h2]
      have e' : o16 x = true := by unfold o16; rw [e]; simp; omega
      clear hs; rw [e, e']; clear e e'
      go_enter Try.func42, Try.ntmps42
      go_wp2
      go_ret2
      exact ⟨ret2 rfl (by simp; omega), rfl⟩
    · have e : c16 x = x := by unfold c16; simp [h1, h2]
      have e' : o16 x = false := by unfold o16; rw [e]; simp
      clear hs; rw [e, e']; clear e e'
      go_enter Try.func42, Try.ntmps42
      go_wp2
      go_ret2
      exact ⟨ret2 rfl (by simp), rfl⟩
end Go.Proofs.Ytekdgohomaeeeab

/- SynthMath -/
namespace Go.Proofs.Ytekdgohomaeeeab
open Go.RowKit
set_option linter.unusedVariables false
set_option linter.unusedSimpArgs false
theorem nth_appL (l m : List Int) (i : Nat) (h : i < l.length) : nth (l ++ m) i = nth l i := by simp [nth, List.getD, List.getElem?_append, h]
theorem nth_appR (l m : List Int) (i : Nat) (h : l.length ≤ i) : nth (l ++ m) i = nth m (i - l.length) := by simp [nth, List.getD, List.getElem?_append, show ¬ i < l.length by omega]
theorem nth_drop (l : List Int) (n i : Nat) : nth (l.drop n) i = nth l (n + i) := by simp [nth, List.getD, List.getElem?_drop]
theorem nth_set_ne (l : List Int) (k : Nat) (z : Int) (j : Nat) (h : k ≠ j) : nth (l.set k z) j = nth l j := by simp [nth, List.getD, List.getElem?_set, h]
theorem nth_set_eq (l : List Int) (k : Nat) (z : Int) (h : k < l.length) : nth (l.set k z) k = z := by simp [nth, List.getD, List.getElem?_set, h]
def gsum (a h : List Int) : Nat → Int
  | 0 => 2048
  | i + 1 => gsum a h i + nth a (i + 1) * nth h i
def gs (a h : List Int) : Int := gsum a h 8 / 4096
theorem nth_in (l : List Int) (lo hi : Int) (h0 : lo ≤ 0) (h1 : 0 ≤ hi) (h : ∀ i, i < l.length → lo ≤ nth l i ∧ nth l i ≤ hi) (i : Nat) : lo ≤ nth l i ∧ nth l i ≤ hi := by
  by_cases hi' : i < l.length
  · exact h i hi'
  · rw [getD_out l i (by omega)]; omega
def sumT (f : Nat → Int) : Nat → Int
  | 0 => 0
  | n + 1 => sumT f n + f n
theorem sumT_congr (f g : Nat → Int) : ∀ n, (∀ i, i < n → f i = g i) → sumT f n = sumT g n
  | 0, _ => rfl
  | n + 1, e => by show sumT f n + f n = sumT g n + g n; rw [sumT_congr f g n (fun i hi => e i (by omega)), e n (by omega)]
theorem sumT_front (f : Nat → Int) : ∀ n, sumT f (n + 1) = f 0 + sumT (fun i => f (i + 1)) n
  | 0 => by show 0 + f 0 = f 0 + 0; omega
  | n + 1 => by
    show sumT f (n + 1) + f (n + 1) = f 0 + (sumT (fun i => f (i + 1)) n + f (n + 1))
    rw [sumT_front f n]; omega
theorem p16_bd (x y : Int) (h1 : -32768 ≤ x) (h2 : x ≤ 32767) (h3 : -32768 ≤ y) (h4 : y ≤ 32767) : -1073741824 ≤ x * y ∧ x * y ≤ 1073741824 := by
  have := mul16_bd x y h1 h2 h3 h4
  omega
theorem sumT_bd (f : Nat → Int) (h : ∀ i, -1073741824 ≤ f i ∧ f i ≤ 1073741824) : ∀ n : Nat, -1073741824 * (n : Int) ≤ sumT f n ∧ sumT f n ≤ 1073741824 * (n : Int)
  | 0 => by show -1073741824 * ((0 : Nat) : Int) ≤ 0 ∧ (0 : Int) ≤ 1073741824 * ((0 : Nat) : Int); omega
  | n + 1 => by
    have := sumT_bd f h n
    have := h n
    show _ ≤ sumT f n + f n ∧ sumT f n + f n ≤ _
    omega
end Go.Proofs.Ytekdgohomaeeeab

/- Owns -/
namespace Go.Proofs.Ytekdgohomaeeeab
open Go.RowKit
set_option linter.unusedVariables false
set_option linter.unusedSimpArgs false
set_option maxHeartbeats 1000000
def Own (base : Nat) (w : World) (v : Value) (l : List Int) : Prop := w.ownsRow base 3 1 v l.length (l.map (Value.int .i64))
theorem Own.ints {base : Nat} {w : World} {v : Value} {l : List Int} (h : Own base w v l) : Ints w v l := Ints_of_owns h
theorem Own.keep {base : Nat} {w w' : World} {v : Value} {l : List Int} (h : Own base w v l) (g : w.grownBy w' none) : Own base w' v l :=
  h.kept g (by rcases v.ownBlock with _ | b <;> simp)
theorem Own.keepBut {base : Nat} {w w' : World} {v : Value} {l : List Int} {b : Nat} {cs : Array Value} {t : TypeId} {f : Nat × Nat} (h : Own base w v l) (g : w.grownBy w' (some b)) (hb : w.heap[b]? = some (.cells cs t f)) (ht : t ≠ 3) : Own base w' v l := by
  refine h.kept g ?_
  rcases h.2 with ⟨rfl, _⟩ | ⟨g', cap, cur, rfl, _, hg, _⟩
  · exact .inl rfl
  · right
    intro e
    simp [Value.ownBlock] at e
    subst e
    rw [hg] at hb
    simp at hb
    exact ht hb.2.1.symm
theorem Own.base {b b' : Nat} {w : World} {v : Value} {l : List Int} (h : Own b w v l) (hb : b' ≤ b) : Own b' w v l := by
  refine ⟨h.1, ?_⟩
  rcases h.2 with h | ⟨g, cap, cur, e, h1, h2⟩
  · exact .inl h
  · exact .inr ⟨g, cap, cur, e, by omega, h2⟩
theorem Own_nil (b : Nat) (w : World) : Own b w (.slice none 0 0) [] := World.ownsRow_nil _ _ _ _
def Shp (v : Value) (l : List Int) : Prop := v = .slice none 0 0 ∨ ∃ a c, v = .slice (some a) l.length c
theorem ints_some {W : World} {a : Addr} {n c : Nat} {l : List Int} (h : Ints W (.slice (some a) n c) l) : n = l.length ∧ n ≤ c ∧ ∀ i, i < l.length → W.cell? (a.add i) = some (.int .i64 (nth l i)) := by
  obtain ⟨ad, c', e, h1, h2⟩ := h
  simp only [Value.slice.injEq] at e
  obtain ⟨rfl, rfl, rfl⟩ := e
  refine ⟨rfl, h1, fun i hi => ?_⟩
  obtain ⟨a', e', h3⟩ := h2 (by omega)
  cases e'
  exact h3 i hi
theorem ints_none {W : World} {l : List Int} (h : Ints W (.slice none 0 0) l) : l = [] := by
  obtain ⟨ad, c, e, _, _⟩ := h
  simp only [Value.slice.injEq] at e
  exact List.length_eq_zero_iff.1 e.2.1.symm
theorem Ints_nil (W : World) : Ints W (.slice none 0 0) [] := ⟨none, 0, rfl, Nat.le_refl _, fun h => by simp at h⟩
theorem slice_l {W : World} {v : Value} {l : List Int} (h : Ints W v l) (hsh : Shp v l) (k : Nat) (hk : k ≤ l.length) :
    ∃ vB, (∀ u, Sem.run Try.prog (Instr.slice 22 v (some (.int .i64 k)) none none) u = .ok vB u) ∧ Ints W vB (l.drop k) ∧ Shp vB (l.drop k) := by
  rcases hsh with rfl | ⟨a, c, rfl⟩
  · obtain rfl := ints_none h
    obtain rfl : k = 0 := by simpa using hk
    exact ⟨.slice none 0 0, fun u => by simp [go_sem, sliced], Ints_nil W, .inl rfl⟩
  · obtain ⟨_, hc, hcell⟩ := ints_some h
    have e : (l.drop k).length = l.length - k := by simp
    refine ⟨.slice (some (if c = k then a else a.add k)) (l.length - k) (c - k), fun u => ?_, ⟨_, c - k, by rw [e], by rw [e]; omega, fun hp => ⟨_, rfl, fun i hi' => ?_⟩⟩, .inr ⟨_, c - k, by rw [e]⟩⟩
    · rw [run_slice_l (P := Try.prog) u 22 (some a) l.length c (by kernel_rfl) .i64 k (by omega) (by omega)]
      simp [go_sem, sliced]
      split <;> rfl
    · rw [e] at hi' hp
      rw [if_neg (by omega), Addr.add_add, hcell (k + i) (by omega)]
      simp [nth, List.getD]
theorem Own.lt {base : Nat} {w : World} {v : Value} {l : List Int} (h : Own base w v l) (g : Nat) (hg : v.ownBlock = some g) : base ≤ g ∧ g < w.heap.size := by
  rcases h.2 with ⟨rfl, _⟩ | ⟨g', cap, cur, rfl, h1, h2, _⟩
  · cases hg
  · simp [Value.ownBlock] at hg
    subst hg
    exact ⟨h1, lt_of_some h2⟩
theorem Own.apart {N : Nat} {w : World} {va vb : Value} {B : List Int} (hlt : ∀ g, va.ownBlock = some g → g < N) (hb : Own N w vb B) : va.ownBlock = none ∨ va.ownBlock ≠ vb.ownBlock := by
  rcases ea : va.ownBlock with _ | g
  · exact .inl rfl
  · right
    intro e
    have := (hb.lt g e.symm).1
    have := hlt g ea
    omega
theorem grown_own' {w u u' : World} {r : Option Nat} (h : w.grownBy u none) (g : u.grownBy u' r) (hr : ∀ b, r = some b → w.heap.size ≤ b) : w.grownBy u' none :=
  grown_trans h g none (fun i e _ => by cases e) (fun i e hi => by have := hr i e; omega)
theorem Own.form {base : Nat} {w : World} {v : Value} {l : List Int} (h : Own base w v l) (hl : 0 < l.length) : ∃ g cap, v = .slice (some ⟨g, 0, none⟩) l.length cap ∧ base ≤ g ∧ g < w.heap.size ∧ l.length ≤ cap := by
  rcases h.2 with ⟨_, h0⟩ | ⟨g, cap, cur, hv, hb, hg, hn, _⟩
  · omega
  · exact ⟨g, cap, hv, hb, lt_of_some hg, hn⟩
theorem Own.cell {base : Nat} {w : World} {g cap n : Nat} {l : List Int} (h : Own base w (.slice (some ⟨g, 0, none⟩) n cap) l) (hn : n = l.length) (j : Nat) (hj : j < l.length) : w.cell? ⟨g, j, none⟩ = some (.int .i64 (nth l j)) := by
  subst hn
  have := World.ownsRow.cellAt h j (by omega)
  rw [this]
  simp [nth, List.getD, hj]
theorem Own.free {base : Nat} {w : World} {g cap n : Nat} {l : List Int} (h : Own base w (.slice (some ⟨g, 0, none⟩) n cap) l) (hn : n = l.length) (j : Nat) : w.frozen? ⟨g, j, none⟩ = false := by
  subst hn
  exact World.ownsRow.frozenAt h j
theorem Own.set {base : Nat} {w : World} {g cap n : Nat} {l : List Int} (h : Own base w (.slice (some ⟨g, 0, none⟩) n cap) l) (hn : n = l.length) (j : Nat) (z : Int) : Own base (w.setCell ⟨g, j, none⟩ (.int .i64 z)) (.slice (some ⟨g, 0, none⟩) n cap) (l.set j z) ∧ w.grownBy (w.setCell ⟨g, j, none⟩ (.int .i64 z)) (some g) := by
  subst hn
  have := World.ownsRow.stored h j (.int .i64 z)
  refine ⟨?_, this.2⟩
  unfold Own
  rw [List.length_set, List.map_set]
  exact this.1
end Go.Proofs.Ytekdgohomaeeeab

/- RegA -/
namespace Go.Proofs.Ytekdgohomaeeeab
open Go.RowKit
set_option linter.unusedVariables false
theorem step_store_arr {y : Nat → Option Bool} {o : Oper} {a : Act} {w : World} {K : Act → World → Prop} {Q : Exit → Act → World → Prop} {E : Prop} (hg : o.guard = none) (T : TypeId) (x z : Operand) (ho : o.op = .store T x z)
    (b : Nat) (rs rs' : List Int) (hx : a.eval x = .pointer (some ⟨b, 0, none⟩)) (hy : a.eval z = .agg (arrI rs')) (h : Blk w b T rs) (hl : rs'.length = rs.length) (hi : (Try.prog.info? T).map (·.size) = some rs.length)
    (k : K (a.put o.dst undef) (putArr w b rs')) : if Region.wanted o y = true then Oper.wp Try.prog o a w K Q else E := by
  have hw : Region.wanted o y = true := by simp [Region.wanted, hg]
  rw [if_pos hw]
  exact wp_store_mid T x z ho b 0 (arrI rs') hx hy (by rw [show (arrI rs').size = rs.length by simp [arrI, hl]]; exact h.there) (by simpa [arrI, hl] using hi) (ones_arrI rs') (by simpa [putArr, arrI] using k)
theorem yields_load_arr {w : World} {b : Nat} {T : TypeId} {rs : List Int} {a : Act} {o : Oper} {x : Operand} (ho : o.op = .load T x) (hx : a.eval x = .pointer (some ⟨b, 0, none⟩)) (h : Blk w b T rs) (d : TypeDesc) (hu : Try.prog.underlying T = some d) (hd : d.isRow = true) (hi : (Try.prog.info? T).map (·.size) = some rs.length) :
    (execOp a.eval o).run Try.prog w = .ok (.value (.agg (arrI rs))) w := by
  have := load_arr h d hu hd hi
  unfold execOp
  simp [ho, hx, this]
def GrownW (w w' : World) : Prop := w.grownBy w' none
theorem gw_start (w : World) : GrownW w w.drew := grown_drew (grown_refl w none)
theorem gw_trans {w u u' : World} (h : GrownW w u) (g : u.grownBy u' none) : GrownW w u' := grown_none h g
theorem gw_alloc {w u : World} (h : GrownW w u) (o : Obj) : GrownW w (u.alloc o) := grown_none h (grown_alloc _ _ none)
theorem gw_own {w u u' : World} {b : Nat} (h : GrownW w u) (g : u.grownBy u' (some b)) (hb : w.heap.size ≤ b) : GrownW w u' := grown_own h g hb
end Go.Proofs.Ytekdgohomaeeeab

/- EndMath -/
namespace Go.Proofs.Ytekdgohomaeeeab
open Go.RowKit
set_option linter.unusedVariables false
set_option linter.unusedSimpArgs false
def Mem1 (w wr : World) (T : TypeId) (a : List Int) : Prop := Blk wr w.heap.size T a ∧ w.grownBy wr none
theorem Mem1.set {w wr : World} {T : TypeId} {a : List Int} (h : Mem1 w wr T a) (k : Nat) (z : Int) : Mem1 w (wr.setCell ⟨w.heap.size, k, none⟩ (.int .i64 z)) T (a.set k z) :=
  ⟨h.1.set k z, grown_own h.2 (grown_setCell _ ⟨w.heap.size, k, none⟩ _) (by simp)⟩
end Go.Proofs.Ytekdgohomaeeeab

/- SynW -/
namespace Go.Proofs.Ytekdgohomaeeeab
open Go.RowKit
set_option linter.unusedVariables false
set_option linter.unusedSimpArgs false
def ListE (w : World) (L : List Int) (en : Int) (e : Ending) (w' : World) : Prop := ∃ v', e = .returned (.tuple #[v', .int .i64 en]) ∧ Own w.heap.size w' v' L ∧ w.grownBy w' none
theorem own_blk {w : World} {b base : Nat} {rs : List Int} (h : Blk w b 3 rs) (hb : base ≤ b) (hl : rs.length ≤ 1000000) : Own base w (.slice (some ⟨b, 0, none⟩) rs.length rs.length) rs :=
  ⟨by simp, .inr ⟨b, rs.length, arrI rs, rfl, hb, h, Nat.le_refl _, by unfold maxLen; omega, by simp [arrI], by simp [arrI, List.take_of_length_le]⟩⟩
end Go.Proofs.Ytekdgohomaeeeab

/- SynA -/
namespace Go.Proofs.Ytekdgohomaeeeab

end Go.Proofs.Ytekdgohomaeeeab

/- SynB -/
namespace Go.Proofs.Ytekdgohomaeeeab
open Go.RowKit
set_option linter.unusedVariables false
set_option linter.unusedSimpArgs false
set_option maxHeartbeats 1000000
theorem grown_setRow' (w : World) (g : Nat) (cs : Array Value) : w.grownBy (w.setRow g cs) (some g) :=
  ⟨rfl, rfl, rfl, by simp, fun k _ h => setRow_other w g k cs (fun e => h (by rw [e]))⟩
end Go.Proofs.Ytekdgohomaeeeab

/- Order -/
namespace Go.Proofs.Ytekdgohomaeeeab
set_option linter.unusedVariables false
section
variable {P : Program} {ops : Array Oper} {Q : Exit → Act → World → Prop} {md : Region.Mode} {S : World → Prop} {g : Nat}
def Closed (md : Region.Mode) (ops : Array Oper) (listed : Array Bool) : Prop :=
  ∀ j oj, ops[j]? = some oj → listed.getD j false = true → ∀ e ∈ oj.after, Region.binds md e = true → listed.getD e.on false = true
theorem getD_set_inv {listed : Array Bool} {i j : Nat} (h : (listed.setIfInBounds i true).getD j false = true) : j = i ∨ listed.getD j false = true := by
  by_cases hij : i = j
  · exact Or.inl hij.symm
  · rw [getD_set_ne false hij] at h; exact Or.inr h
theorem Closed.set {listed : Array Bool} {i : Nat} (h : Closed md ops listed) (hi : i ∈ Region.ready md ops listed) : Closed md ops (listed.setIfInBounds i true) := by
  intro j oj hj hl e he hb
  apply getD_set_true
  rcases getD_set_inv hl with rfl | hl
  · obtain ⟨_, o, ho, hall⟩ := mem_ready.1 hi
    rw [hj] at ho; cases ho
    exact hall e he hb
  · exact h j oj hj hl e he hb
theorem Closed.zero (n : Nat) : Closed md ops (Array.replicate n false) := fun j oj _ hl => by rw [getD_replicate_false] at hl; cases hl
def anc (md : Region.Mode) (ops : Array Oper) (i : Nat) : Nat → Nat → Bool
  | 0, _ => false
  | f + 1, j => Region.waitsFor md ops j i || (List.range ops.size).any fun n => Region.waitsFor md ops j n && anc md ops i f n
theorem anc_spec {i : Nat} {listed : Array Bool} (hc : Closed md ops listed) (hi : listed.getD i false = false) : ∀ (f j : Nat), anc md ops i f j = true → listed.getD j false = false ∧ j ∉ Region.ready md ops listed
  | 0, j, h => by cases h
  | f + 1, j, h => by
    have key : ∀ n, Region.waitsFor md ops j n = true → listed.getD n false = false → listed.getD j false = false ∧ j ∉ Region.ready md ops listed := by
      intro n hw hn
      obtain ⟨oj, hj, e, he, hb, hon⟩ := Region.waitsFor_spec hw
      refine ⟨?_, ?_⟩
      · cases hl : listed.getD j false
        · rfl
        · have := hc j oj hj hl e he hb; rw [hon, hn] at this; cases this
      · intro hr
        obtain ⟨_, o, ho, hall⟩ := mem_ready.1 hr
        rw [hj] at ho; cases ho
        have := hall e he hb; rw [hon, hn] at this; cases this
    simp only [anc, Bool.or_eq_true, List.any_eq_true, List.mem_range, Bool.and_eq_true] at h
    rcases h with h | ⟨n, _, h1, h2⟩
    · exact key i h hi
    · exact key n h1 (anc_spec hc hi f n h2).1
def wpAnyG (P : Program) (md : Region.Mode) (ops : Array Oper) (Q : Exit → Act → World → Prop) (S : World → Prop) (g : Nat) : Nat → Array Bool → Act → World → Prop
  | 0, listed, a, w => Region.ready md ops listed = [] ∧ Q .normal a w
  | fuel + 1, listed, a, w =>
    (Region.ready md ops listed = [] → Q .normal a w) ∧
    ∀ i ∈ Region.ready md ops listed, wpOp P ops Q i (fun a' w' => ((listed.setIfInBounds i true).getD g false = false → S w') ∧ wpAnyG P md ops Q S g fuel (listed.setIfInBounds i true) a' w') a w
theorem wpAny_of_G : ∀ (fuel : Nat) (listed : Array Bool) (a : Act) (w : World), wpAnyG P md ops Q S g fuel listed a w → wpAny P md ops Q fuel listed a w
  | 0, _, _, _, h => h
  | fuel + 1, _, _, _, h => ⟨h.1, fun i hi => wpOp_mono (fun a' w' h' => wpAny_of_G fuel _ a' w' h'.2) (h.2 i hi)⟩
theorem wpAnyG_of_any : ∀ (fuel : Nat) (listed : Array Bool) (a : Act) (w : World), listed.getD g false = true → wpAny P md ops Q fuel listed a w → wpAnyG P md ops Q S g fuel listed a w
  | 0, _, _, _, _, h => h
  | fuel + 1, listed, _, _, hg, h => ⟨h.1, fun i hi => wpOp_mono (fun a' w' h' => ⟨fun e => (by rw [getD_set_true hg] at e; cases e), wpAnyG_of_any fuel _ a' w' (getD_set_true hg) h'⟩) (h.2 i hi)⟩
def Alone (md : Region.Mode) (ops : Array Oper) (i : Nat) (oi : Oper) (listed : Array Bool) : Prop :=
  ∀ j oj, ops[j]? = some oj → j ≠ i → listed.getD j true = false → (∀ e ∈ oj.after, Region.binds md e = true → e.on ≠ i) → oi.apart ops oj = true
theorem Alone.more {i j : Nat} {oi : Oper} {listed : Array Bool} (h : Alone md ops i oi listed) : Alone md ops i oi (listed.setIfInBounds j true) := by
  intro k ok hk hki hun
  have hl : listed.getD k true = false := by
    rcases Nat.decEq j k with hjk | rfl
    · rwa [getD_set_ne true hjk] at hun
    · rcases Nat.lt_or_ge j listed.size with hs | hs
      · simp [hs] at hun
      · simp [hs] at hun
  exact h k ok hk hki hl
theorem ready_free {i j : Nat} {oj : Oper} {listed : Array Bool} (hiun : listed.getD i false = false) (hj : j ∈ Region.ready md ops listed) (hoj : ops[j]? = some oj) : ∀ e ∈ oj.after, Region.binds md e = true → e.on ≠ i := by
  obtain ⟨_, o, ho, hall⟩ := mem_ready.1 hj
  obtain rfl : o = oj := Option.some.inj (ho.symm.trans hoj)
  rintro e he hb rfl
  exact Bool.noConfusion (hiun.symm.trans (hall e he hb))
theorem wpAnyG_first {i f : Nat} {oi : Oper} {v : Value} (hi : ops[i]? = some oi) (hsel : ∀ (j : Nat) (o : Oper) cs b, ops[j]? = some o → o.op ≠ .select cs b)
    (hQ : ∀ c a w, Q (.panic c) (a.put oi.dst v) w → Q (.panic c) a w) (hanc : anc md ops i f g = true) (hgi : g ≠ i) (fuel : Nat) :
    ∀ (listed : Array Bool) (a : Act) (w : World), Closed md ops listed → Alone md ops i oi listed →
      i ∈ Region.ready md ops listed → YieldsIf P ops S oi v a → S w →
      wpAnyG P md ops Q S g fuel (listed.setIfInBounds i true) (a.put oi.dst v) w → wpAnyG P md ops Q S g (fuel + 1) listed a w := by
  induction fuel with
  | zero =>
    intro listed a w _ _ hr hy hS H
    constructor
    · intro h0; rw [h0] at hr; cases hr
    · intro j hj
      rcases Nat.decEq j i with hji | rfl
      · have hnone := ready_mono hj hji
        rw [H.1] at hnone; cases hnone
      · exact hy.wpOp hi hS ⟨fun _ => hS, H⟩
  | succ fuel ih =>
    intro listed a w hcl hal hr hy hS H
    have hiun := getD_both (mem_ready.1 hr).1
    obtain ⟨hgun, hgr⟩ := anc_spec hcl hiun f g hanc
    constructor
    · intro h0; rw [h0] at hr; cases hr
    · intro j hj
      rcases Nat.decEq j i with hji | rfl
      · obtain ⟨hjun, oj, hoj, -⟩ := mem_ready.1 hj
        have hjg : j ≠ g := by rintro rfl; exact hgr hj
        have hgl : ((listed.setIfInBounds i true).setIfInBounds j true).getD g false = false := by
          rw [getD_set_ne false hjg, getD_set_ne false (Ne.symm hgi)]; exact hgun
        have step := wpOp_putIf hoj (hal j oj hoj hji hjun (ready_free hiun hj hoj)) (fun cs b => hsel i oi cs b hi) (fun cs b => hsel j oj cs b hoj) hQ hy (H.2 j (ready_mono hj hji))
        refine wpOp_mono (fun a' w' k => ?_) step
        obtain ⟨ky, ks, kw⟩ := k
        rw [Array.setIfInBounds_comm _ _ (Ne.symm hji)] at kw
        exact ⟨fun _ => ks hgl, ih _ a' w' (hcl.set hj) hal.more (ready_mono hr (Ne.symm hji)) ky (ks hgl) kw⟩
      · exact hy.wpOp hi hS ⟨fun _ => hS, H⟩
theorem wpAnyG_take {i : Nat} {oi : Oper} {v : Value} {fuel : Nat} {listed : Array Bool} {a : Act} {w : World} (hi : ops[i]? = some oi)
    (hst : (Region.noSelect ops && Region.free md ops listed i && (Region.ready md ops listed).contains i && anc md ops i ops.size g && g != i) = true)
    (hcl : Closed md ops listed)
    (hQ : ∀ c a w, Q (.panic c) (a.put oi.dst v) w → Q (.panic c) a w) (hy : YieldsIf P ops S oi v a) (hS : S w)
    (h : Closed md ops (listed.setIfInBounds i true) → wpAnyG P md ops Q S g fuel (listed.setIfInBounds i true) (a.put oi.dst v) w) : wpAnyG P md ops Q S g (fuel + 1) listed a w := by
  simp only [Bool.and_eq_true, bne_iff_ne] at hst
  obtain ⟨⟨⟨⟨h1, h2⟩, h3⟩, h4⟩, h5⟩ := hst
  have h3' : i ∈ Region.ready md ops listed := by simpa using h3
  exact wpAnyG_first hi (Region.noSelect_spec h1) hQ h4 h5 fuel listed a w hcl (Region.free_spec hi h2) h3' hy hS (h (hcl.set h3'))
theorem wpAnyG_exec {i : Nat} {o : Oper} {fuel : Nat} {listed : Array Bool} {a : Act} {w : World} (ho : ops[i]? = some o) (hr : Region.ready md ops listed = [i]) (hcl : Closed md ops listed)
    (h : ∀ K' : Act → World → Prop, Shut (∀ a w, ((listed.setIfInBounds i true).getD g false = false → S w) → (Closed md ops (listed.setIfInBounds i true) → wpAnyG P md ops Q S g fuel (listed.setIfInBounds i true) a w) → K' a w) → if Region.wanted o (yielded ops a.tmps) = true then Oper.wp P o a w K' Q else K' (a.put o.dst undef) w) :
    wpAnyG P md ops Q S g (fuel + 1) listed a w := by
  refine ⟨fun h0 => (by rw [hr] at h0; cases h0), fun j hj => ?_⟩
  rw [hr] at hj
  have : j = i := by simpa using hj
  subst this
  exact wpOp_step ho (fun K' hK => h K' (fun a w hS hW => hK a w ⟨hS, hW (hcl.set (by rw [hr]; simp))⟩))
theorem wp_region_G {id : Nat} {a : Act} {w : World} (g : Nat) (S : World → Prop) (n : Nat) (hn : ops.size = n) (L : Array Bool) (hL : Array.replicate n false = L) (hm : P.follows .mixedOrders = true) (h : Closed .any ops L → wpAnyG P .any ops Q S g n L a w.drew) : (Code.region id ops true).wp P Q a w := by
  subst hn hL
  exact wp_region_any hm (wpAny_of_G _ _ _ _ (h (Closed.zero _)))
end
end Go.Proofs.Ytekdgohomaeeeab

/- SynC -/
namespace Go.Proofs.Ytekdgohomaeeeab

end Go.Proofs.Ytekdgohomaeeeab

/- Syn -/
namespace Go.Proofs.Ytekdgohomaeeeab

end Go.Proofs.Ytekdgohomaeeeab

/- BaseB -/
namespace Go.Proofs.Ytekdgohomaeeeab
open Go.RowKit
set_option maxHeartbeats 400000
theorem spot_any (v n : Int) (hn : 0 < n) (hn' : n ≤ 4611686018427387904) (w : World) :
    Calls Try.prog 34 #[.int .i64 v, .int .i64 n] w fun e w' => e = .returned (.int .i64 (spotN v n)) ∧ w' = w := by
  have m1 := Int.tmod_lt_of_pos v hn
  have m2 : -n < v.tmod n := by
    have := Int.tmod_lt_of_pos (-v) hn
    rw [Int.neg_tmod] at this; omega
  have e : spotN v n = if v.tmod n < 0 then v.tmod n + n else v.tmod n := by
    unfold spotN
    rw [Int.emod_eq_tmod]
    have hd : 0 ≤ v → 0 ≤ v.tmod n := fun h => Int.tmod_nonneg n h
    have hd' : v < 0 → v.tmod n ≤ 0 := fun h => by
      have := Int.tmod_nonneg n (a := -v) (by omega)
      rw [Int.neg_tmod] at this; omega
    have hdv : n ∣ v ↔ v.tmod n = 0 := Int.dvd_iff_tmod_eq_zero
    have hab : (n.natAbs : Int) = n := by omega
    split <;> split <;> omega
  by_cases h : v.tmod n < 0
  · rw [if_pos h] at e
    rw [e]; clear e
    go_enter Try.func34, Try.ntmps34
    go_wp2
    go_ret
    exact ⟨rfl, rfl⟩
  · rw [if_neg h] at e
    rw [e]; clear e
    go_enter Try.func34, Try.ntmps34
    go_wp2
    go_ret
    exact ⟨rfl, rfl⟩
theorem s16_any (v : Int) (w : World) :
    Calls Try.prog 16 #[.int .i64 v] w fun e w' => e = .returned (.int .i64 (spotN v 65536 - 32768)) ∧ w' = w := by
  have h1 : 0 ≤ spotN v 65536 := by unfold spotN; omega
  have h2 : spotN v 65536 < 65536 := by unfold spotN; omega
  go_enter Try.func16, Try.ntmps16
  go_wp2_with (first | (go_at_call 34; refine (spot_any _ _ (by omega) (by omega) _).mono ?_; rintro e w' ⟨rfl, rfl⟩))
  go_ret
  exact ⟨rfl, rfl⟩
end Go.Proofs.Ytekdgohomaeeeab

/- KeepL -/
namespace Go.Proofs.Ytekdgohomaeeeab
open Go.RowKit
set_option linter.unusedVariables false
set_option linter.unusedSimpArgs false
set_option maxHeartbeats 1000000
theorem lists_any (v : Value) (l : List Int) (w : World) (h : Ints w v l) (hl : l.length * 8 ≤ 140737488351232) (n : Nat) (hn : n ≤ 1000000) :
    Calls Try.prog 4 #[v, .int .i64 n] w fun e w' => ∃ (b : Nat) (L : List Int), e = .returned (.slice (some ⟨b, 0, none⟩) n n) ∧ Blk w' b 3 L ∧ L.length = n ∧ (∀ i, -32768 ≤ nth L i ∧ nth L i ≤ 32767) ∧ w.heap.size ≤ b ∧ w.grownBy w' none := by
  have hmk := make_zeros n (by omega)
  obtain ⟨ad, c, rfl, hc, hcell⟩ := h
  have HV := hide hcell
  clear hcell
  go_enter Try.func4, Try.ntmps4
  go_wp2_with fail
  clear hmk
  have B0 := hide (Blk.new w 3 (zeros n))
  have G0 := hide (grown_alloc w (.cells (arrI (zeros n)) 3) none)
  generalize w.alloc (.cells (arrI (zeros n)) 3) = W0 at *
  go_loopw [6] (fun i wr => ∃ (k : Nat) (L : List Int), i = .int .i64 k ∧ k ≤ n ∧ Hid (Blk wr w.heap.size 3 L) ∧ L.length = n ∧ Hid (∀ i, -32768 ≤ nth L i ∧ nth L i ≤ 32767) ∧ Hid (w.grownBy wr none)) (fun i _ => n - (intOf i).toNat)
  case atStart => exact ⟨0, zeros n, rfl, Nat.zero_le _, B0.out, zeros_len n, (fun i => by rw [zeros_nth]; omega), G0.out⟩
  case round =>
    obtain ⟨k, L, rfl, hk, hB, hLn, hR, hG⟩ := hrel
    clear B0 G0
    by_cases hkn : k < n
    · by_cases hkl : k < l.length
      · obtain ⟨a, rfl, hv⟩ := HV.out (by omega)
        have ck := grown_keep hG.out (hv k hkl)
        have SI := hide (s16_any (nth l k))
        have hq1 : 0 ≤ spotN (nth l k) 65536 := by unfold spotN; omega
        have hq2 : spotN (nth l k) 65536 < 65536 := by unfold spotN; omega
        have cd := hB.out.cell k (by omega)
        have fd := hB.out.free k
        have NB := hide (hB.out.set k (spotN (nth l k) 65536 - 32768))
        have NG := hide (grown_own hG.out (grown_setCell wr ⟨w.heap.size, k, none⟩ (.int .i64 (spotN (nth l k) 65536 - 32768))) (Nat.le_refl _))
        have NR := hide (show ∀ i, -32768 ≤ nth (L.set k (spotN (nth l k) 65536 - 32768)) i ∧ nth (L.set k (spotN (nth l k) 65536 - 32768)) i ≤ 32767 from fun i => by
          by_cases e : i = k
          · subst e
            rw [show nth (L.set i (spotN (nth l i) 65536 - 32768)) i = spotN (nth l i) 65536 - 32768 by simp [nth, List.getD, hLn, hkn]]
            omega
          · rw [show nth (L.set k (spotN (nth l k) 65536 - 32768)) i = nth L i by simp [nth, List.getD, List.getElem?_set, Ne.symm e]]
            exact hR.out i)
        clear hB hR hG hv
        generalize spotN (nth l k) 65536 = q at *
        generalize nth l k = z at *
        generalize nth L k = y at *
        go_wp2_with fail
        refine (SI.out _).mono ?_
        rintro e w1 ⟨rfl, rfl⟩
        clear SI
        go_wp2_with fail
        go_roundw
        case rel => exact ⟨k + 1, _, by go_num, by omega, NB.out, by simpa using hLn, NR.out, NG.out⟩
        case measure => simp [intOf]; omega
      · go_wp2_with fail
        go_ret
        exact ⟨_, L, rfl, hB.out, hLn, hR.out, Nat.le_refl _, hG.out⟩
    · go_wp2_with fail
      go_ret
      exact ⟨_, L, rfl, hB.out, hLn, hR.out, Nat.le_refl _, hG.out⟩
theorem Ints_of_blk {w : World} {b : Nat} {L : List Int} (h : Blk w b 3 L) : Ints w (.slice (some ⟨b, 0, none⟩) L.length L.length) L :=
  ⟨some ⟨b, 0, none⟩, L.length, rfl, Nat.le_refl _, fun _ => ⟨_, rfl, fun i hi => by rw [Addr.add_mid, Nat.zero_add]; exact h.cell i hi⟩⟩
theorem list_sameK (a b : List Int) (hl : a.length = b.length) (h : ∀ j, j < b.length → nth a j = nth b j) : decide (a = b) = true := by
  apply decide_eq_true
  apply List.ext_getElem hl
  intro i h1 h2
  have := h i h2
  simpa [nth, List.getD, h1, h2] using this
theorem keepSame_any (va vb : Value) (a b : List Int) (w : World) (ha : Ints w va a) (hb : Ints w vb b) (la : a.length ≤ 1000000000000000000) (lb : b.length ≤ 1000000000000000000) :
    Calls Try.prog 33 #[va, vb] w fun e w' => e = .returned (.bool (decide (a = b))) ∧ ∃ n, w' = w.drewN n := by
  obtain ⟨ada, ca, rfl, hca, hva⟩ := ha
  obtain ⟨adb, cb, rfl, hcb, hvb⟩ := hb
  by_cases hl : a.length = b.length
  · have FY := hide (list_sameK a b hl)
    have FN := hide (fun k (h : nth a k ≠ nth b k) => (show decide (a = b) = false from decide_eq_false (fun e => h (by rw [e]))))
    generalize decide (a = b) = d at *
    go_enter Try.func33, Try.ntmps33
    go_wp2_with fail
    go_loopw [5] (fun i wr => ∃ k n : Nat, i = .int .i64 k ∧ k ≤ b.length ∧ Hid (∀ j, j < k → nth a j = nth b j) ∧ wr = w.drewN n) (fun i _ => b.length - (intOf i).toNat)
    case atStart => exact ⟨0, 0, rfl, Nat.zero_le _, fun j hj => by omega, rfl⟩
    case round =>
      obtain ⟨k, n, rfl, hk, hE, rfl⟩ := hrel
      by_cases hkl : k < b.length
      · obtain ⟨a0, rfl, hva'⟩ := hva (by omega)
        obtain ⟨b0, rfl, hvb'⟩ := hvb (by omega)
        have ck := hva' k (by omega)
        have dk := hvb' k hkl
        have GK := hide (fun (e : nth a k = nth b k) => (show ∀ j, j < k + 1 → nth a j = nth b j from fun j hj => by
          rcases Nat.lt_or_ge j k with g | g
          · exact hE.out j g
          · obtain rfl : j = k := by omega
            exact e))
        have NK := hide (FN.out k)
        clear hva hvb hva' hvb' FY FN hE
        generalize nth a k = x at *
        generalize nth b k = y at *
        by_cases hxy : x = y
        · have hb1 : (x == y) = true := by simp [hxy]
          have G := hide (GK.out hxy)
          clear GK NK hxy
          go_wp2_with fail
          go_quiet (fail)
          go_wp2_with fail
          go_roundw
          case rel => exact ⟨k + 1, _, by go_num, by omega, G.out, rfl⟩
          case measure => simp [intOf]; omega
        · have hb1 : (x == y) = false := beq_eq_false_iff_ne.2 hxy
          have D := hide (NK.out hxy)
          clear GK NK hxy
          go_wp2_with fail
          go_quiet (fail)
          go_wp2_with fail
          rw [World.drewN_drewN]
          go_ret
          exact ⟨by rw [D.out]; rfl, _, rfl⟩
      · obtain rfl : k = b.length := by omega
        have D := hide (FY.out hE.out)
        clear hva hvb FY FN hE
        go_wp2_with fail
        go_ret
        exact ⟨by rw [D.out]; rfl, _, rfl⟩
  · have hb0 : ((a.length : Int) == (b.length : Int)) = false := beq_eq_false_iff_ne.2 (by omega)
    have hne : decide (a = b) = false := decide_eq_false (fun e => hl (by rw [e]))
    rw [hne]
    clear hva hvb hne
    go_enter Try.func33, Try.ntmps33
    go_wp2_with fail
    go_ret
    exact ⟨rfl, 0, rfl⟩
end Go.Proofs.Ytekdgohomaeeeab

/- AppL -/
namespace Go.Proofs.Ytekdgohomaeeeab
open Go.RowKit
set_option linter.unusedVariables false
set_option linter.unusedSimpArgs false
set_option maxHeartbeats 1000000
theorem run_app {w : World} {base : Nat} {v vb : Value} {A B : List Int} (ha : Own base w v A) (hb : Ints w vb B) (hB : 0 < B.length) (hl : (A.length + B.length) * 8 ≤ 140737488355328) (hbase : base ≤ w.heap.size) (ty : TypeId) :
    ∃ v' w', Sem.run Try.prog (Builtin.append_ #[22, 22] ty #[v, vb]) w = .ok v' w' ∧ Own base w' v' (A ++ B) ∧ w.grownBy w' v.ownBlock ∧ ∀ g', v'.ownBlock = some g' → v.ownBlock = some g' ∨ w.heap.size ≤ g' := by
  obtain ⟨i0, hi, hz0, hz1, hz2⟩ := info_parts infoI64
  obtain ⟨ad, c, rfl, hc, hv⟩ := hb
  obtain ⟨ab, rfl, hcell⟩ := hv hB
  have hnews : ∀ j u, (B.map (Value.int .i64))[j]? = some u → w.cell? (ab.add j) = some u := fun j u hu => by
    have hj : j < B.length := by
      by_cases hj : j < B.length
      · exact hj
      · rw [List.getElem?_eq_none (by simp; omega)] at hu; cases hu
    rw [hcell j hj]
    simpa [nth, List.getD, hj] using hu
  have hone : ∀ u ∈ B.map (Value.int .i64), u.oneCell' = true := fun u hu => by
    obtain ⟨x, _, rfl⟩ := List.mem_map.1 hu
    rfl
  obtain ⟨v', w', hr, h2, h3, _⟩ := run_append_own (P := Try.prog) w base 22 ty 3 i0 (.int .i64 0) 1 8 Try.underlying22 hi hz0 hz1 hz2 rfl (by decide) v A.length _ ha ab B.length c (B.map (Value.int .i64)) (by simp) hnews hone (by unfold maxLen; omega) (by omega) hbase
  refine ⟨v', w', hr, by unfold Own; simpa using h2, h3, fun g' hg' => ?_⟩
  rcases ha.2 with ⟨rfl, hA⟩ | ⟨g, cap, cur, rfl, hbg, hg, hnc, hcm, hcs, htake⟩
  · have hA0 : A = [] := List.eq_nil_of_length_eq_zero hA
    subst hA0
    obtain ⟨v2, w2, hr2, o2, _, _⟩ := run_append_own (P := Try.prog) w w.heap.size 22 ty 3 i0 (.int .i64 0) 1 8 Try.underlying22 hi hz0 hz1 hz2 rfl (by decide) (.slice none 0 0) 0 [] (World.ownsRow_nil _ _ _ _) ab B.length c (B.map (Value.int .i64)) (by simp) hnews hone (by unfold maxLen; simp at hl; omega) (by simpa using hl) (Nat.le_refl _)
    rw [hr] at hr2
    cases hr2
    exact .inr (o2.lt g' hg').1
  · by_cases hroom : A.length + B.length ≤ cap
    · have hr2 := run_append_room (P := Try.prog) w 22 ty 3 i0 Try.underlying22 hi g A.length cap cur hg ab B.length c (B.map (Value.int .i64)) (by rw [hz1]; simp) hnews hone hroom (by rw [hz1, hcs]; simp; omega)
      rw [hr] at hr2
      cases hr2
      exact .inl hg'
    · have hr2 := run_append_grow (P := Try.prog) w 22 ty 3 i0 (.int .i64 0) Try.underlying22 hi hz0 ⟨g, 0, none⟩ A.length cap (A.map (Value.int .i64)) (by rw [hz1]; simp) (World.ownsRow.cells ha (g := g) rfl) ab B.length c (B.map (Value.int .i64)) (by rw [hz1]; simp) hnews (by omega) (by omega) (by rw [hz2]; exact growslice_fits (by omega) (by omega))
      rw [hr] at hr2
      cases hr2
      simp [Value.ownBlock] at hg'
      exact .inr (by omega)
theorem wpList_app {ops : Array Oper} {rest : List Oper} {o : Oper} {a : Act} {w : World} {Q : Exit → Act → World → Prop} (hgd : Region.wanted o (yielded ops a.tmps) = true) (s x : Operand)
    (hop : o.op = Op.call { callee := Callee.builtin Builtin.append, args := #[s, x], argTypes := #[22, 22] }) (base : Nat) (va vb : Value) (A B : List Int) (hs : a.eval s = va) (hx : a.eval x = vb) (ha : Own base w va A) (hb : Ints w vb B) (hB : 0 < B.length)
    (hl : (A.length + B.length) * 8 ≤ 140737488355328) (hbase : base ≤ w.heap.size)
    (h : ∀ v' w', Own base w' v' (A ++ B) → w.grownBy w' va.ownBlock → (∀ g', v'.ownBlock = some g' → va.ownBlock = some g' ∨ w.heap.size ≤ g') → wpList Try.prog ops Q rest (a.put o.dst v') w') : wpList Try.prog ops Q (o :: rest) a w := by
  obtain ⟨v', w', hr, h1, h2, h3⟩ := run_app ha hb hB hl hbase o.type
  refine wpList_step fun K hK => ?_
  rw [if_pos hgd]
  unfold Oper.wp
  simp [execOp, hop, resolve, invoke, builtin, hs, hx, hr, Result.andThen]
  exact hK _ _ (h v' w' h1 h2 h3)
def Fam (base : Nat) (w : World) (vs : List (Value × List Int)) : Prop :=
  (∀ (i : Nat) (v : Value) (A : List Int), vs[i]? = some (v, A) → Own base w v A) ∧ ∀ (i j : Nat) (v : Value) (A : List Int) (u : Value) (B : List Int), vs[i]? = some (v, A) → vs[j]? = some (u, B) → i ≠ j → ∀ g, v.ownBlock = some g → u.ownBlock ≠ some g
theorem Fam.get {base : Nat} {w : World} {vs : List (Value × List Int)} (h : Fam base w vs) (i : Nat) {v : Value} {A : List Int} (hi : vs[i]? = some (v, A)) : Own base w v A := h.1 i v A hi
theorem Fam.keep {base : Nat} {w w' : World} {vs : List (Value × List Int)} (h : Fam base w vs) (g : w.grownBy w' none) : Fam base w' vs := ⟨fun i v A hi => (h.1 i v A hi).keep g, h.2⟩
theorem Fam.upd {base : Nat} {w w' : World} {vs : List (Value × List Int)} (h : Fam base w vs) (i : Nat) (v v' : Value) (A A' : List Int) (hi : vs[i]? = some (v, A)) (g : w.grownBy w' v.ownBlock) (o : Own base w' v' A') (n : ∀ g', v'.ownBlock = some g' → v.ownBlock = some g' ∨ w.heap.size ≤ g') : Fam base w' (vs.set i (v', A')) := by
  have hlen : i < vs.length := by
    rcases Nat.lt_or_ge i vs.length with h | h
    · exact h
    · rw [List.getElem?_eq_none h] at hi; cases hi
  have get : ∀ (j : Nat) (u : Value) (B : List Int), (vs.set i (v', A'))[j]? = some (u, B) → (j = i ∧ u = v' ∧ B = A') ∨ (j ≠ i ∧ vs[j]? = some (u, B)) := fun j u B hj => by
    by_cases e : j = i
    · subst e
      rw [List.getElem?_set_self hlen] at hj
      cases hj
      exact .inl ⟨rfl, rfl, rfl⟩
    · rw [List.getElem?_set_ne (Ne.symm e)] at hj
      exact .inr ⟨e, hj⟩
  have old : ∀ (j : Nat) (u : Value) (B : List Int), j ≠ i → vs[j]? = some (u, B) → Own base w' u B := fun j u B hj hu => by
    refine (h.1 j u B hu).kept g ?_
    rcases e : u.ownBlock with _ | b
    · exact .inl rfl
    · right
      intro e'
      exact h.2 j i u B v A hu hi hj b e e'.symm
  have new : ∀ (j : Nat) (u : Value) (B : List Int), j ≠ i → vs[j]? = some (u, B) → ∀ g, u.ownBlock = some g → v'.ownBlock ≠ some g := fun j u B hj hu k hk e => by
    rcases n k e with q | q
    · exact h.2 j i u B v A hu hi hj k hk q
    · have := ((h.1 j u B hu).lt k hk).2
      omega
  refine ⟨fun j u B hj => ?_, fun j k u B u2 B2 hj hk hjk g hg => ?_⟩
  · rcases get j u B hj with ⟨_, rfl, rfl⟩ | ⟨e, hu⟩
    · exact o
    · exact old j u B e hu
  · rcases get j u B hj with ⟨rfl, rfl, rfl⟩ | ⟨e, hu⟩ <;> rcases get k u2 B2 hk with ⟨rfl, rfl, rfl⟩ | ⟨e2, hu2⟩
    · exact absurd rfl hjk
    · intro q
      exact new k u2 B2 e2 hu2 g q hg
    · exact new j u B e hu g hg
    · exact h.2 j k u B u2 B2 hu hu2 hjk g hg
theorem Fam.put {base : Nat} {w w' : World} {vs : List (Value × List Int)} (h : Fam base w vs) (i : Nat) (v' : Value) (A' : List Int) (hi : vs[i]? = some (.slice none 0 0, [])) (g : w.grownBy w' none) (o : Own base w' v' A') (n : ∀ g', v'.ownBlock = some g' → w.heap.size ≤ g') : Fam base w' (vs.set i (v', A')) :=
  h.upd i _ v' [] A' hi g o (fun g' hg' => .inr (n g' hg'))
theorem Fam.nil {base : Nat} {w : World} {n : Nat} : Fam base w (List.replicate n (.slice none 0 0, [])) :=
  ⟨fun i v A hi => by
    have := (List.mem_replicate.1 (List.mem_of_getElem? hi)).2
    cases this
    exact Own_nil _ _, fun i j v A u B hi _ _ g hg => by
    have := (List.mem_replicate.1 (List.mem_of_getElem? hi)).2
    cases this
    cases hg⟩
end Go.Proofs.Ytekdgohomaeeeab

/- Memo -/
namespace Go.Proofs.Ytekdgohomaeeeab
open Go.RowKit
set_option linter.unusedVariables false
set_option linter.unusedSimpArgs false
set_option maxHeartbeats 1000000
def Scr (w : World) (v : Value) (e : Ending) (w' : World) : Prop := e = .returned (.tuple #[]) ∧ w.grownBy w' v.ownBlock
theorem scribble_any (base : Nat) (v : Value) (l : List Int) (w : World) (o : Own base w v l) (hl : l.length ≤ 1000) (hb : base ≤ w.heap.size) :
    Calls Try.prog 10 #[v] w (Scr w v) := by
  obtain ⟨ad, c, rfl, hc, _⟩ := o.ints
  have O0 := hide o
  have G0 := hide (grown_refl w (Value.ownBlock (.slice ad l.length c)))
  clear o
  generalize hn : l.length = n at *
  have HN := hide hn
  clear hn
  go_enter Try.func10, Try.ntmps10
  go_wp2_with fail
  go_loopw [2] (fun i wr => ∃ (k : Nat) (ls : List Int), i = .int .i64 k ∧ k ≤ n ∧ Hid (ls.length = n) ∧ Hid (Own base wr (.slice ad n c) ls) ∧ Hid (w.grownBy wr (Value.ownBlock (.slice ad n c)))) (fun i _ => n - (intOf i).toNat)
  case atStart => exact ⟨0, l, rfl, Nat.zero_le _, HN.out, O0.out, G0.out⟩
  case round =>
    obtain ⟨k, ls, rfl, hk, hL, hO, hG⟩ := hrel
    clear O0 G0
    by_cases hkn : k < n
    · obtain ⟨g, cap, e, hbg, hlt, hcap⟩ := hO.out.form (by rw [hL.out]; omega)
      simp only [Value.slice.injEq] at e
      obtain ⟨rfl, _, rfl⟩ := e
      have cd := hO.out.cell hL.out.symm k (by rw [hL.out]; omega)
      have fd := hO.out.free hL.out.symm k
      have NO := hide (hO.out.set hL.out.symm k (-99)).1
      have NG := hide (grown_trans hG.out (hO.out.set hL.out.symm k (-99)).2 (some g) (fun i e _ => e) (fun i e _ => e))
      have NL := hide (show (ls.set k (-99)).length = n by rw [List.length_set]; exact hL.out)
      have k1 : (k : Int) < n := by omega
      clear hO hG hbg hlt hcap
      generalize nth ls k = y at *
      go_wp2_with fail
      go_roundw
      case rel => exact ⟨k + 1, _, by go_num, by omega, NL.out, NO.out, NG.out⟩
      case measure => simp [intOf]; omega
    · obtain rfl : k = n := by omega
      have hs := World.grownBy.size hG.out
      have J := hide (show Ints (wr.alloc (.cells #[.int .i64 (-99), .int .i64 (-99), .int .i64 (-99)] 3)) (.slice (some ⟨wr.heap.size, 0, none⟩) 3 3) [-99, -99, -99] from Ints_of_blk (Blk.new wr 3 [-99, -99, -99]))
      have OA := hide (hO.out.keep (grown_alloc wr (.cells #[.int .i64 (-99), .int .i64 (-99), .int .i64 (-99)] 3) none))
      have GA := hide (grown_trans hG.out (grown_alloc wr (.cells #[.int .i64 (-99), .int .i64 (-99), .int .i64 (-99)] 3) none) (Value.ownBlock (.slice ad k c)) (fun i e _ => e) (fun i e _ => by cases e))
      have SA : w.heap.size ≤ (wr.alloc (.cells #[.int .i64 (-99), .int .i64 (-99), .int .i64 (-99)] 3)).heap.size := by simp; omega
      clear hO hG
      go_wp2_with (at_builtin; refine wpList_app (by rfl) _ _ rfl base _ (.slice (some ⟨wr.heap.size, 0, none⟩) 3 3) ls [-99, -99, -99] rfl rfl OA.out J.out (by decide) (by rw [hL.out]; simp; omega) (by omega) ?_)
      intro v5 w5 h5 g5 hf
      obtain ⟨g', cap', rfl, hbg, hlt, hcap⟩ := h5.form (by simp)
      have hx := hf g' rfl
      have c0 := h5.cell rfl 0 (by simp)
      have f0 := h5.free rfl 0
      have G5 := grown_trans GA.out g5 (Value.ownBlock (.slice ad k c)) (fun i e _ => e) (fun i e _ => e)
      have GF := hide (grown_trans G5 (grown_setCell w5 ⟨g', 0, none⟩ (.int .i64 (-98))) (Value.ownBlock (.slice ad k c)) (fun i e _ => e) (fun i e hi => by
        obtain rfl : g' = i := by simpa using e
        rcases hx with q | q
        · exact q
        · omega))
      have hp : 0 < (ls ++ [-99, -99, -99]).length := by simp
      clear h5 g5 hf hx G5 OA GA J hL HN hs SA hbg hlt
      generalize (ls ++ [-99, -99, -99]).length = N at *
      generalize nth (ls ++ [-99, -99, -99]) 0 = z at *
      have hp' : (0 : Int) < N := by omega
      go_wp2_with fail
      refine bodyPost_ret (v := .tuple #[]) ?_ rfl ⟨rfl, GF.out⟩
      simp [results, Try.results10]
theorem wpList_copy_list {ops : Array Oper} {rest : List Oper} {o : Oper} {a : Act} {w : World} {Q : Exit → Act → World → Prop} (hgd : o.guard = none) (d s : Operand)
    (hop : o.op = Op.call { callee := Callee.builtin Builtin.copy, args := #[d, s], argTypes := #[22, 22] }) (b dLen dCap : Nat) (rs : List Int) (hb : Blk w b 3 rs) (hd : a.eval d = .slice (some ⟨b, 0, none⟩) dLen dCap)
    (v : Value) (l : List Int) (hs : a.eval s = v) (h : Ints w v l) (hle : l.length ≤ dLen) (hfit : l.length ≤ rs.length)
    (hK : ∀ w', Blk w' b 3 (l ++ rs.drop l.length) → w.grownBy w' (some b) → wpList Try.prog ops Q rest (a.put o.dst (goInt l.length)) w') : wpList Try.prog ops Q (o :: rest) a w := by
  have hsz : (Try.prog.info? 3).map (·.size) = some 1 := by kernel_rfl
  obtain ⟨ad, c, rfl, hc, hcell⟩ := h
  by_cases h0 : l.length = 0
  · obtain rfl : l = [] := List.eq_nil_of_length_eq_zero h0
    refine wpList_copy_nothing hgd d s _ _ hop 3 Try.underlying22 hsz _ _ _ _ _ _ hd hs (by simp) ?_
    exact hK w (by simpa using hb) (grown_refl _ _)
  · obtain ⟨ab, rfl, hv⟩ := hcell (by omega)
    refine wpList_copy_own hgd d s _ _ hop 3 Try.underlying22 hsz b 0 dLen dCap ab l.length c hd hs (arrI rs) 3 hb (l.map (Value.int .i64)) (by rw [List.length_map]; exact (Nat.min_eq_left hle).symm) (fun j v hv' => ?_) (by simp [arrI]; omega) (fun v hv' => ?_) ?_
    · have hj : j < l.length := by
        by_cases hj : j < l.length
        · exact hj
        · rw [List.getElem?_eq_none (by simp; omega)] at hv'; cases hv'
      rw [hv j hj]
      simpa [nth, List.getD, hj] using hv'
    · obtain ⟨x, _, rfl⟩ := List.mem_map.1 hv'
      rfl
    · have e : ((arrI rs).toList.take 0 ++ (l.map (Value.int .i64) ++ (arrI rs).toList.drop (0 + (l.map (Value.int .i64)).length))).toArray = arrI (l ++ rs.drop l.length) := by simp [arrI]
      rw [e, List.length_map]
      exact hK _ (setRow_heap _ _ _ _ _ _ hb) (grown_setRow' _ _ _)
theorem room_set (l : List Int) (x y : Int) : ((l ++ [0, 0]).set l.length x).set (l.length + 1) y = l ++ [x, y] := by
  rw [List.set_append_right _ _ (Nat.le_refl _), List.set_append_right _ _ (by omega)]
  simp
def Room (w : World) (b : Nat) (l : List Int) : Prop := Blk w b 3 (l ++ [-4711, -4712])
theorem Room.ints {w : World} {b : Nat} {l : List Int} (h : Room w b l) : Ints w (.slice (some ⟨b, 0, none⟩) l.length (l.length + 2)) l := by
  refine ⟨_, _, rfl, by omega, fun _ => ⟨_, rfl, fun i hi => ?_⟩⟩
  rw [Addr.add_mid, Nat.zero_add, Blk.cell h i (by simp; omega), nth_appL _ _ _ hi]
theorem roomy_any (v : Value) (l : List Int) (w : World) (h : Ints w v l) (hl : l.length ≤ 1000) :
    Calls Try.prog 5 #[v] w fun e w' => ∃ b, e = .returned (.slice (some ⟨b, 0, none⟩) l.length (l.length + 2)) ∧ w.heap.size ≤ b ∧ Room w' b l ∧ w.grownBy w' none := by
  have hmk := make_zeros (l.length + 2) (by omega)
  have ga := grown_alloc w (.cells (arrI (zeros (l.length + 2))) 3) none
  have B0 := hide (Blk.new w 3 (zeros (l.length + 2)))
  have HI := hide (Ints_keep h ga)
  have G0 := hide ga
  rw [show ((l.length + 2 : Nat) : Int) = (l.length : Int) + 2 by omega] at hmk
  obtain ⟨ad, c, rfl, hc, _⟩ := h
  clear ga
  have z1 : (zeros (l.length + 2)).length = l.length + 2 := zeros_len _
  go_enter Try.func5, Try.ntmps5
  go_wp2_with (first | refine wpList_copy_list rfl _ _ rfl w.heap.size (l.length + 2) (l.length + 2) _ B0.out rfl _ l rfl HI.out (by omega) (by rw [z1]; omega) ?_)
  intro w1 b1 g1
  rw [show (zeros (l.length + 2)).drop l.length = [0, 0] by simp [zeros]] at b1
  have B1 := hide b1
  have G1 := hide (grown_own G0.out g1 (Nat.le_refl _))
  clear b1 g1 B0 G0 HI hmk z1
  have hl2 : (l ++ [0, 0]).length = l.length + 2 := by simp
  have c0 := B1.out.cell l.length (by omega)
  have c1 := B1.out.cell (l.length + 1) (by omega)
  have f0 := B1.out.free l.length
  have f1 := B1.out.free (l.length + 1)
  have BF := hide ((B1.out.set l.length (-4711)).set (l.length + 1) (-4712))
  rw [room_set] at BF
  have GF := hide (grown_own (grown_own G1.out (grown_setCell w1 ⟨w.heap.size, l.length, none⟩ (.int .i64 (-4711))) (Nat.le_refl _)) (grown_setCell (w1.setCell ⟨w.heap.size, l.length, none⟩ (.int .i64 (-4711))) ⟨w.heap.size, l.length + 1, none⟩ (.int .i64 (-4712))) (Nat.le_refl _))
  clear B1 G1 hl2
  generalize nth (l ++ [0, 0]) l.length = x0 at *
  generalize nth (l ++ [0, 0]) (l.length + 1) = x1 at *
  have i1 : (l.length : Int) < (l.length : Int) + 2 := by omega
  have i2 : (l.length : Int) + 1 < (l.length : Int) + 2 := by omega
  go_wp2_with fail
  go_ret
  exact ⟨_, rfl, Nat.le_refl _, BF.out, GF.out⟩
theorem stayed_any (b : Nat) (l : List Int) (w : World) (hr : Room w b l) (u : Value) (hu : Ints w u l) (hl : l.length ≤ 1000) :
    Calls Try.prog 15 #[.slice (some ⟨b, 0, none⟩) l.length (l.length + 2), u] w fun e w' => e = .returned (.bool true) ∧ w.grownBy w' none := by
  have SA := hide (keepSame_any _ u l l w (Room.ints hr) hu (by omega) (by omega))
  rw [show decide (l = l) = true by simp] at SA
  obtain ⟨ad, c, rfl, hc, _⟩ := hu
  have HR := hide hr
  clear hr
  have i1 : (l.length : Int) < (l.length : Int) + 2 := by omega
  have i2 : (l.length : Int) + 1 < (l.length : Int) + 2 := by omega
  go_enter Try.func15, Try.ntmps15
  go_wp2_with fail
  refine SA.out.mono ?_
  rintro e w1 ⟨rfl, k, rfl⟩
  have H1 := hide (show Room (w.drewN k) b l from Blk.keep HR.out (grown_drewN' w k none))
  have G1 := hide (grown_drewN' w k none)
  clear SA HR
  generalize w.drewN k = w1 at *
  have c0 := Blk.cell H1.out l.length (by simp)
  have c1 := Blk.cell H1.out (l.length + 1) (by simp)
  rw [nth_appR _ _ _ (by omega), Nat.sub_self] at c0
  rw [nth_appR _ _ _ (by omega), Nat.add_sub_cancel_left] at c1
  rw [show nth [-4711, -4712] 0 = -4711 from rfl] at c0
  rw [show nth [-4711, -4712] 1 = -4712 from rfl] at c1
  clear H1
  go_wp2_with fail
  go_ret
  exact ⟨rfl, G1.out⟩
end Go.Proofs.Ytekdgohomaeeeab

/- Btr -/
namespace Go.Proofs.Ytekdgohomaeeeab
open Go.RowKit
def pos0 (x : Int) : Int := if x < 0 then 0 else x
def btr (c e d f : Int) : Bool :=
  if e ≤ 0 then false else if f ≤ 0 then true else decide (pos0 d * pos0 d * e < pos0 c * pos0 c * f)
end Go.Proofs.Ytekdgohomaeeeab

/- PitchMath -/
namespace Go.Proofs.Ytekdgohomaeeeab
open Go.RowKit
set_option linter.unusedVariables false
set_option linter.unusedSimpArgs false
def pasN (h : List Int) (lag i : Nat) : Int := nth h (80 - lag + i % lag)
def pasV (h : List Int) (lag : Nat) : List Int := tab 40 (pasN h lag)
def pasL (h : List Int) (lag : Int) : List Int := if 20 ≤ lag ∧ lag ≤ 79 then pasV h lag.toNat else []
def pasE (lag : Int) : Int := if 20 ≤ lag ∧ lag ≤ 79 then 0 else 2
theorem pasV_len (h : List Int) (lag : Nat) : (pasV h lag).length = 40 := tab_len _ _
theorem pasL_yes (h : List Int) (lag : Nat) (h1 : 20 ≤ lag) (h2 : lag ≤ 79) : pasL h lag = pasV h lag ∧ pasE lag = 0 :=
  ⟨by unfold pasL; rw [if_pos (by omega)]; rfl, by unfold pasE; rw [if_pos (by omega)]⟩
def dotS (a b : List Int) (n : Nat) : Int := sumT (fun i => nth a i * nth b i) n
theorem dotS_bd (a b : List Int) (ha : rightB a = true) (hb : rightB b = true) (n : Nat) : -1073741824 * (n : Int) ≤ dotS a b n ∧ dotS a b n ≤ 1073741824 * (n : Int) :=
  sumT_bd _ (fun i => by
    have h1 := nth_in _ _ _ (by omega) (by omega) ((rightB_iff a).1 ha) i
    have h2 := nth_in _ _ _ (by omega) (by omega) ((rightB_iff b).1 hb) i
    exact p16_bd _ _ h1.1 h1.2 h2.1 h2.2) n
end Go.Proofs.Ytekdgohomaeeeab

/- PulMath -/
namespace Go.Proofs.Ytekdgohomaeeeab
open Go.RowKit
set_option linter.unusedVariables false
set_option linter.unusedSimpArgs false
set_option maxHeartbeats 1000000
theorem sumT_le (f : Nat → Int) (B : Int) (h : ∀ i, -B ≤ f i ∧ f i ≤ B) : ∀ n : Nat, -(B * (n : Int)) ≤ sumT f n ∧ sumT f n ≤ B * (n : Int)
  | 0 => by show -(B * ((0 : Nat) : Int)) ≤ 0 ∧ (0 : Int) ≤ B * ((0 : Nat) : Int); simp
  | n + 1 => by
    have h1 := sumT_le f B h n
    have h2 := h n
    have e : B * ((n + 1 : Nat) : Int) = B * (n : Int) + B := by rw [show ((n + 1 : Nat) : Int) = (n : Int) + 1 from rfl, Int.mul_add, Int.mul_one]
    show -(B * ((n + 1 : Nat) : Int)) ≤ sumT f n + f n ∧ sumT f n + f n ≤ B * ((n + 1 : Nat) : Int)
    rw [e]; omega
theorem sumT_zero (f : Nat → Int) : ∀ n, (∀ i, i < n → f i = 0) → sumT f n = 0
  | 0, _ => rfl
  | n + 1, h => by show sumT f n + f n = 0; rw [sumT_zero f n (fun i hi => h i (by omega)), h n (by omega)]; rfl
theorem sumT_shift (f : Nat → Int) (n : Nat) (h : ∀ i, i < n → f i = 0) : ∀ k, sumT f (n + k) = sumT (fun i => f (n + i)) k
  | 0 => sumT_zero f n h
  | k + 1 => by show sumT f (n + k) + f (n + k) = sumT (fun i => f (n + i)) k + f (n + k); rw [sumT_shift f n h k]
def lateN (r : List Int) (n i : Nat) : Int := if n ≤ i then c16 (nth r (i - n)) else 0
theorem lateN_bd (r : List Int) (n i : Nat) : -32768 ≤ lateN r n i ∧ lateN r n i ≤ 32767 := by
  unfold lateN
  split
  · exact c16_bd _
  · omega
def enN (r : List Int) (a b : Nat) : Int := sumT (fun i => lateN r a i * lateN r b i) 40
theorem enN_last (r : List Int) (a b : Nat) (ha : a ≤ 39) (hb : b ≤ 39) (h : a = 39 ∨ b = 39) : enN r a b = c16 (nth r (39 - a)) * c16 (nth r (39 - b)) := by
  show sumT (fun i => lateN r a i * lateN r b i) 39 + lateN r a 39 * lateN r b 39 = _
  rw [sumT_zero _ 39 (fun i hi => by
    rcases h with h | h
    · rw [show lateN r a i = 0 from if_neg (by omega)]; simp
    · rw [show lateN r b i = 0 from if_neg (by omega)]; simp)]
  rw [show lateN r a 39 = c16 (nth r (39 - a)) from if_pos ha, show lateN r b 39 = c16 (nth r (39 - b)) from if_pos hb]
  omega
theorem enN_step (r : List Int) (a b : Nat) (ha : a < 39) (hb : b < 39) : enN r a b = c16 (nth r (39 - a)) * c16 (nth r (39 - b)) + enN r (a + 1) (b + 1) := by
  have e1 : enN r (a + 1) (b + 1) = sumT (fun i => lateN r a i * lateN r b i) 39 := by
    show sumT (fun i => lateN r (a + 1) i * lateN r (b + 1) i) (39 + 1) = _
    rw [sumT_front, show lateN r (a + 1) 0 = 0 from if_neg (by omega)]
    rw [sumT_congr (fun i => lateN r (a + 1) (i + 1) * lateN r (b + 1) (i + 1)) (fun i => lateN r a i * lateN r b i) 39 (fun i _ => by
      have f : ∀ n, lateN r (n + 1) (i + 1) = lateN r n i := fun n => by
        unfold lateN
        by_cases h : n ≤ i
        · rw [if_pos h, if_pos (by omega), show i + 1 - (n + 1) = i - n by omega]
        · rw [if_neg h, if_neg (by omega)]
      rw [f a, f b])]
    simp
  rw [e1]
  show sumT (fun i => lateN r a i * lateN r b i) 39 + lateN r a 39 * lateN r b 39 = _
  rw [show lateN r a 39 = c16 (nth r (39 - a)) from if_pos (by omega), show lateN r b 39 = c16 (nth r (39 - b)) from if_pos (by omega)]
  omega
theorem enN_bd (r : List Int) (a b : Nat) : -42949672960 ≤ enN r a b ∧ enN r a b ≤ 42949672960 := by
  have := sumT_bd (fun i => lateN r a i * lateN r b i) (fun i => p16_bd _ _ (lateN_bd r a i).1 (lateN_bd r a i).2 (lateN_bd r b i).1 (lateN_bd r b i).2) 40
  unfold enN
  omega
def tbN (r : List Int) (k : Nat) : Int := enN r (k / 40) (k % 40)
def tbl (r : List Int) : List Int := tab 1600 (tbN r)
theorem tbl_len (r : List Int) : (tbl r).length = 1600 := tab_len _ _
theorem tbl_at (r : List Int) (a b : Nat) (ha : a < 40) (hb : b < 40) : nth (tbl r) (a * 40 + b) = enN r a b := by
  unfold tbl
  rw [tab_nth _ _ _ (by omega)]
  unfold tbN
  rw [show (a * 40 + b) / 40 = a by omega, show (a * 40 + b) % 40 = b by omega]
def TbF (r : List Int) (a b : Nat) (rs : List Int) : Prop := rs.length = 1600 ∧ ∀ x y, x < 40 → y < 40 → (a < x ∨ (a = x ∧ b ≤ y)) → nth rs (x * 40 + y) = enN r x y
theorem tbF_start (r : List Int) : TbF r 40 0 (zeros 1600) := ⟨zeros_len _, fun x y hx hy h => by omega⟩
theorem tbF_next {r : List Int} {a : Nat} {rs : List Int} (h : TbF r (a + 1) 0 rs) : TbF r a 40 rs := ⟨h.1, fun x y hx hy hh => h.2 x y hx hy (by omega)⟩
theorem tbF_set {r : List Int} {a b : Nat} {rs : List Int} (ha : a < 40) (hb : b < 40) (h : TbF r a (b + 1) rs) (z : Int) (hz : z = enN r a b) : TbF r a b (rs.set (a * 40 + b) z) := by
  refine ⟨by simpa using h.1, fun x y hx hy hh => ?_⟩
  by_cases e : a = x ∧ b = y
  · obtain ⟨rfl, rfl⟩ := e
    rw [nth_set_eq _ _ _ (by rw [h.1]; omega), hz]
  · rw [nth_set_ne _ _ _ _ (by omega)]
    exact h.2 x y hx hy (by omega)
theorem tbF_other {r : List Int} {a b : Nat} {rs : List Int} (ha : a < 40) (hb : b < 40) (h : TbF r a (b + 1) rs) (z : Int) : TbF r a (b + 1) (rs.set (a * 40 + b) z) :=
  ⟨by simpa using h.1, fun x y hx hy hh => by rw [nth_set_ne _ _ _ _ (by omega)]; exact h.2 x y hx hy hh⟩
theorem tbF_all {r : List Int} {rs : List Int} (h : TbF r 0 0 rs) : rs = tbl r := by
  refine tab_ext h.1 (fun i hi => ?_)
  have := h.2 (i / 40) (i % 40) (by omega) (by omega) (by omega)
  rw [show i / 40 * 40 + i % 40 = i by omega] at this
  exact this
def tgN (t r : List Int) (n : Nat) : Int := sumT (fun i => nth t i * lateN r n i) 40
def tgL (t r : List Int) : List Int := tab 40 (tgN t r)
theorem tgN_drop (t r : List Int) (hr : rightB r = true) (n : Nat) (hn : n ≤ 40) : dotS (t.drop n) r (40 - n) = tgN t r n := by
  have e := sumT_shift (fun i => nth t i * lateN r n i) n (fun i hi => by rw [show lateN r n i = 0 from if_neg (by omega)]; simp) (40 - n)
  rw [show n + (40 - n) = 40 by omega] at e
  unfold tgN
  rw [e]
  refine sumT_congr _ _ _ (fun i _ => ?_)
  have b := nth_in _ _ _ (by omega) (by omega) ((rightB_iff r).1 hr) i
  rw [nth_drop, show lateN r n (n + i) = nth r i by unfold lateN; rw [if_pos (by omega), show n + i - n = i by omega, c16_id _ b.1 b.2]]
def tgV (t r : List Int) : List Int := if t.length = 40 ∧ r.length = 40 ∧ (rightB t && rightB r) = true then tgL t r else []
def tgE (t r : List Int) : Int := if t.length = 40 ∧ r.length = 40 then (if (rightB t && rightB r) = true then 0 else 2) else 1
def sg (x : Int) : Int := if x < 0 then -1 else 1
theorem sg_cases (x : Int) : (x < 0 ∧ sg x = -1) ∨ (0 ≤ x ∧ sg x = 1) := by
  unfold sg
  by_cases h : x < 0
  · exact .inl ⟨h, if_pos h⟩
  · exact .inr ⟨by omega, if_neg h⟩
def psN (x : List Int) (t : Nat) : Nat := t + 4 * (nth x t).toNat
def goodX (x : List Int) : Bool := x.all fun p => decide (0 ≤ p) && decide (p ≤ 9)
theorem goodX_iff (x : List Int) : goodX x = true ↔ ∀ i, i < x.length → 0 ≤ nth x i ∧ nth x i ≤ 9 := by
  unfold goodX
  rw [List.all_eq_true]
  constructor
  · intro h i hi
    have := h x[i] (List.getElem_mem hi)
    simp only [Bool.and_eq_true, decide_eq_true_eq] at this
    simpa [nth, List.getD, hi] using this
  · intro h y hy
    obtain ⟨i, hi, rfl⟩ := List.getElem_of_mem hy
    have := h i hi
    simp only [nth, List.getD, List.getElem?_eq_getElem hi, Option.getD_some] at this
    simp [this]
theorem psN_lt {x : List Int} (hx : goodX x = true) (hl : x.length = 4) (t : Nat) (ht : t < 4) : psN x t < 40 := by
  have := (goodX_iff x).1 hx t (by omega)
  unfold psN; omega
def scC (d x : List Int) : Nat → Int
  | 0 => 0
  | t + 1 => wrap64 (scC d x t + wrap64 (sg (nth d (psN x t)) * nth d (psN x t)))
def ssN (d x : List Int) (t : Nat) : Int := sg (nth d (psN x t))
def scT (d r x : List Int) (t u : Nat) : Int := ssN d x t * ssN d x u * enN r (psN x t) (psN x u)
def scE (d r x : List Int) (t u : Nat) : Int := sumT (fun a => sumT (fun b => scT d r x a b) 4) t + sumT (fun b => scT d r x t b) u
theorem scE_step (d r x : List Int) (t u : Nat) : scE d r x t (u + 1) = scE d r x t u + scT d r x t u := by
  unfold scE
  show _ + (sumT (fun b => scT d r x t b) u + scT d r x t u) = _
  omega
theorem scE_next (d r x : List Int) (t : Nat) : scE d r x t 4 = scE d r x (t + 1) 0 := by
  unfold scE
  show _ = sumT (fun a => sumT (fun b => scT d r x a b) 4) t + sumT (fun b => scT d r x t b) 4 + 0
  omega
theorem scT_bd (d r x : List Int) (t u : Nat) : -42949672960 ≤ scT d r x t u ∧ scT d r x t u ≤ 42949672960 := by
  have := enN_bd r (psN x t) (psN x u)
  unfold scT ssN
  rcases sg_cases (nth d (psN x t)) with ⟨_, h⟩ | ⟨_, h⟩ <;> rcases sg_cases (nth d (psN x u)) with ⟨_, g⟩ | ⟨_, g⟩ <;> rw [h, g] <;> omega
theorem scE_bd (d r x : List Int) (t u : Nat) (ht : t ≤ 4) (hu : u ≤ 4) : -1000000000000 ≤ scE d r x t u ∧ scE d r x t u ≤ 1000000000000 := by
  have h1 := sumT_le (fun a => sumT (fun b => scT d r x a b) 4) 171798691840 (fun a => by
    have := sumT_le (fun b => scT d r x a b) 42949672960 (fun b => scT_bd d r x a b) 4
    omega) t
  have h2 := sumT_le (fun b => scT d r x t b) 42949672960 (fun b => scT_bd d r x t b) u
  unfold scE
  omega
def cS (d x : List Int) : Int := scC d x 4
def eS (d r x : List Int) : Int := scE d r x 4 0
def bsS (C E : List Int → Int) (ix : Nat → List Int) : Nat → List Int × Int × Int
  | 0 => (zeros 4, 0, 0)
  | m + 1 => if m = 0 ∨ btr (C (ix m)) (E (ix m)) (bsS C E ix m).2.1 (bsS C E ix m).2.2 = true then (ix m, C (ix m), E (ix m)) else bsS C E ix m
theorem bsS_yes (C E : List Int → Int) (ix : Nat → List Int) (m : Nat) (h : m = 0 ∨ btr (C (ix m)) (E (ix m)) (bsS C E ix m).2.1 (bsS C E ix m).2.2 = true) : bsS C E ix (m + 1) = (ix m, C (ix m), E (ix m)) := if_pos h
theorem bsS_no (C E : List Int → Int) (ix : Nat → List Int) (m : Nat) (h : ¬ (m = 0 ∨ btr (C (ix m)) (E (ix m)) (bsS C E ix m).2.1 (bsS C E ix m).2.2 = true)) : bsS C E ix (m + 1) = bsS C E ix m := if_neg h
theorem bsS_own (C E : List Int → Int) (ix : Nat → List Int) : ∀ m, 0 < m → ∃ j, j < m ∧ bsS C E ix m = (ix j, C (ix j), E (ix j))
  | 0, h => by omega
  | m + 1, _ => by
    by_cases h : m = 0 ∨ btr (C (ix m)) (E (ix m)) (bsS C E ix m).2.1 (bsS C E ix m).2.2 = true
    · exact ⟨m, by omega, bsS_yes C E ix m h⟩
    · obtain ⟨j, hj, e⟩ := bsS_own C E ix m (by omega)
      exact ⟨j, by omega, by rw [bsS_no C E ix m h, e]⟩
def fewN (C E : List Int → Int) : Nat → List Int
  | 0 => zeros 4
  | k + 1 => (bsS C E (fun p => (fewN C E k).set (k % 4) (p : Int)) 10).1
theorem goodX_set {x : List Int} (hx : goodX x = true) (t : Nat) (p : Int) (h0 : 0 ≤ p) (h1 : p ≤ 9) : goodX (x.set t p) = true := by
  rw [goodX_iff] at *
  intro i hi
  rw [List.length_set] at hi
  by_cases e : t = i
  · subst e; rw [nth_set_eq _ _ _ hi]; exact ⟨h0, h1⟩
  · rw [nth_set_ne _ _ _ _ e]; exact hx i hi
theorem fewN_good (C E : List Int → Int) : ∀ k, (fewN C E k).length = 4 ∧ goodX (fewN C E k) = true
  | 0 => ⟨rfl, rfl⟩
  | k + 1 => by
    have ih := fewN_good C E k
    obtain ⟨j, hj, e⟩ := bsS_own C E (fun p => (fewN C E k).set (k % 4) (p : Int)) 10 (by omega)
    show (bsS C E (fun p => (fewN C E k).set (k % 4) (p : Int)) 10).1.length = 4 ∧ goodX (bsS C E (fun p => (fewN C E k).set (k % 4) (p : Int)) 10).1 = true
    rw [e]
    exact ⟨by simpa using ih.1, goodX_set ih.2 _ _ (by omega) (by omega)⟩
def sgB (d x : List Int) (t : Nat) : Int := if nth d (psN x t) < 0 then 0 else 2 ^ t
def sgS (d x : List Int) (n : Nat) : Int := sumT (sgB d x) n
theorem sgB_bd (d x : List Int) (t : Nat) : 0 ≤ sgB d x t ∧ sgB d x t ≤ 2 ^ t := by
  have : (0 : Int) < 2 ^ t := Int.pow_pos (by omega)
  unfold sgB
  split <;> omega
def ok40 (d : List Int) : Bool := d.all fun x => decide (-1099511627776 ≤ x) && decide (x ≤ 1099511627776)
theorem ok40_iff (l : List Int) : ok40 l = true ↔ ∀ i, i < l.length → -1099511627776 ≤ nth l i ∧ nth l i ≤ 1099511627776 := by
  unfold ok40
  rw [List.all_eq_true]
  constructor
  · intro h i hi
    have := h l[i] (List.getElem_mem hi)
    simp only [Bool.and_eq_true, decide_eq_true_eq] at this
    simpa [nth, List.getD, hi] using this
  · intro h x hx
    obtain ⟨i, hi, rfl⟩ := List.getElem_of_mem hx
    have := h i hi
    simp only [nth, List.getD, List.getElem?_eq_getElem hi, Option.getD_some] at this
    simp [this]
def seE (d r : List Int) : Int := if d.length = 40 ∧ r.length = 40 then (if ok40 d = true then 0 else 2) else 1
def seX (d r : List Int) (X : List Int) : List Int := if seE d r = 0 then X else zeros 4
def seG (d r : List Int) (X : List Int) : Int := if seE d r = 0 then sgS d X 4 else 0
def fewX (d r : List Int) : List Int := fewN (cS d) (eS d r) 8
def soE (d r x : List Int) : Int := if d.length = 40 ∧ r.length = 40 then (if goodX x = true then 0 else 2) else 1
def soC (d r x : List Int) : Int := if soE d r x = 0 then cS d x else 0
def soV (d r x : List Int) : Int := if soE d r x = 0 then eS d r x else 0
def onE (r : List Int) (a b : Int) : Int := if r.length = 40 then (if (0 ≤ a ∧ a ≤ 39) ∧ 0 ≤ b ∧ b ≤ 39 then 0 else 2) else 1
def onV (r : List Int) (a b : Int) : Int := if onE r a b = 0 then enN r a.toNat b.toNat else 0
def blN (x : List Int) (s z : Int) (i : Nat) : Int := if nth x (i % 4) = ((i / 4 : Nat) : Int) then (if s / 2 ^ (i % 4) % 2 = 1 then z else -z) else 0
def blE (x : List Int) (s z : Int) : Int := if (0 ≤ s ∧ s ≤ 15) ∧ (0 ≤ z ∧ z ≤ 32767) ∧ goodX x = true then 0 else 2
def blL (x : List Int) (s z : Int) : List Int := if blE x s z = 0 then tab 40 (blN x s z) else []
def blV (s z : Int) (m : Nat) : Int := if s / 2 ^ m % 2 = 1 then z else -z
def FillB (x : List Int) (s z : Int) (m : Nat) (rs : List Int) : Prop := rs.length = 40 ∧ ∀ i, i < 40 → nth rs i = if i % 4 < m then blN x s z i else 0
theorem fillB_start (x : List Int) (s z : Int) : FillB x s z 0 (zeros 40) := ⟨zeros_len _, fun i hi => by rw [zeros_nth, if_neg (by omega)]⟩
theorem fillB_step {x : List Int} {s z : Int} {m : Nat} {rs : List Int} (hx : goodX x = true) (hl : x.length = 4) (hm : m < 4) (h : FillB x s z m rs) : FillB x s z (m + 1) (rs.set (psN x m) (blV s z m)) := by
  have hg := (goodX_iff x).1 hx m (by omega)
  have hp := psN_lt hx hl m hm
  refine ⟨by simpa using h.1, fun i hi => ?_⟩
  by_cases e : psN x m = i
  · subst e
    rw [nth_set_eq _ _ _ (by rw [h.1]; exact hp)]
    have h4 : psN x m % 4 = m := by unfold psN; omega
    have h5 : ((psN x m / 4 : Nat) : Int) = nth x m := by unfold psN; omega
    rw [if_pos (by omega)]
    unfold blN blV
    rw [h4, h5, if_pos rfl]
  · rw [nth_set_ne _ _ _ _ e, h.2 i hi]
    by_cases h1 : i % 4 < m
    · rw [if_pos h1, if_pos (by omega)]
    · rw [if_neg h1]
      by_cases h2 : i % 4 < m + 1
      · have h3 : i % 4 = m := by omega
        rw [if_pos h2]
        unfold blN
        rw [h3, if_neg (fun e' => e (by unfold psN; omega))]
      · rw [if_neg h2]
theorem fillB_all {x : List Int} {s z : Int} {rs : List Int} (h : FillB x s z 4 rs) : rs = tab 40 (blN x s z) :=
  tab_ext h.1 (fun i hi => by rw [h.2 i hi, if_pos (by omega)])
theorem blL_no {x : List Int} {s z : Int} (h : ¬ ((0 ≤ s ∧ s ≤ 15) ∧ (0 ≤ z ∧ z ≤ 32767) ∧ goodX x = true)) : blE x s z = 2 ∧ blL x s z = [] := by
  have e : blE x s z = 2 := if_neg h
  exact ⟨e, by unfold blL; rw [if_neg (by rw [e]; decide)]⟩
theorem blL_yes {x : List Int} {s z : Int} (h : (0 ≤ s ∧ s ≤ 15) ∧ (0 ≤ z ∧ z ≤ 32767) ∧ goodX x = true) : blE x s z = 0 ∧ blL x s z = tab 40 (blN x s z) := by
  have e : blE x s z = 0 := if_pos h
  exact ⟨e, by unfold blL; rw [if_pos e]⟩
end Go.Proofs.Ytekdgohomaeeeab

/- PulA -/
namespace Go.Proofs.Ytekdgohomaeeeab
open Go.RowKit
set_option linter.unusedVariables false
set_option linter.unusedSimpArgs false
set_option maxHeartbeats 1000000
theorem build4 (u : World) : Sem.run Try.prog (Instr.build 28 #[]) u = .ok (.agg (arrI (zeros 4))) u := run_build u 28 #[] (arrI (zeros 4)) (by kernel_rfl)
theorem size4 : (Try.prog.info? 28).map (·.size) = some 4 := by kernel_rfl
theorem pulWithin_any (x a b : Int) (w : World) : Calls Try.prog 24 #[.int .i64 x, .int .i64 a, .int .i64 b] w (Ans w (.bool (decide (a ≤ x ∧ x ≤ b)))) := by
  by_cases h1 : a ≤ x
  · by_cases h2 : x ≤ b
    · rw [decide_eq_true (show a ≤ x ∧ x ≤ b from ⟨h1, h2⟩)]
      go_enter Try.func24, Try.ntmps24
      go_wp2_with fail
      go_ret
      exact ⟨rfl, rfl⟩
    · rw [decide_eq_false (show ¬ (a ≤ x ∧ x ≤ b) from fun h => h2 h.2)]
      go_enter Try.func24, Try.ntmps24
      go_wp2_with fail
      go_ret
      exact ⟨rfl, rfl⟩
  · rw [decide_eq_false (show ¬ (a ≤ x ∧ x ≤ b) from fun h => h1 h.1)]
    go_enter Try.func24, Try.ntmps24
    go_wp2_with fail
    go_ret
    exact ⟨rfl, rfl⟩
theorem pulAt_any (t p : Int) (h1 : 0 ≤ t) (h2 : t ≤ 3) (h3 : 0 ≤ p) (h4 : p ≤ 9) (w : World) : Calls Try.prog 36 #[.int .i64 t, .int .i64 p] w (Ans w (.int .i64 (t + 4 * p))) := by
  have F := hide (show Ans w (.int .i64 (t + 4 * p)) (.returned (.int .i64 (t + 4 * p))) w from ⟨rfl, rfl⟩)
  generalize Ans w (.int .i64 (t + 4 * p)) = T at *
  go_enter Try.func36, Try.ntmps36
  go_wp2_with fail
  exact F.out
theorem pulSign_any (x : Int) (w : World) : Calls Try.prog 35 #[.int .i64 x] w (Ans w (.int .i64 (sg x))) := by
  rcases sg_cases x with ⟨h, e⟩ | ⟨h, e⟩
  · rw [e]; clear e
    go_enter Try.func35, Try.ntmps35
    go_wp2_with fail
    go_ret
    exact ⟨rfl, rfl⟩
  · rw [e]; clear e
    go_enter Try.func35, Try.ntmps35
    go_wp2_with fail
    go_ret
    exact ⟨rfl, rfl⟩
theorem pulPlaces_any (x : List Int) (hx : x.length = 4) (w : World) : Calls Try.prog 26 #[.agg (arrI x)] w (AnsG w (.bool (goodX x))) := by
  have B0 := hide (Blk.new w 28 x)
  have G0 := hide (grown_alloc w (.cells (arrI x) 28) none)
  have Y := hide (fun (hh : ∀ i, i < 4 → 0 ≤ nth x i ∧ nth x i ≤ 9) => (show AnsG w (.bool (goodX x)) (.returned (.bool true)) (w.alloc (.cells (arrI x) 28)) from ⟨by rw [(goodX_iff x).2 (by rw [hx]; exact hh)], G0.out⟩))
  have N := hide (fun i (hi' : i < 4) (hh : ¬ (0 ≤ nth x i ∧ nth x i ≤ 9)) => (show AnsG w (.bool (goodX x)) (.returned (.bool false)) (w.alloc (.cells (arrI x) 28)) from ⟨by
    rcases hb : goodX x with _ | _
    · rfl
    · exact absurd ((goodX_iff x).1 hb i (by omega)) hh, G0.out⟩))
  have IX := hide (fun (k : Nat) (hk : k < 4) => index_arr x Try.underlying28 k (by omega) hx)
  generalize AnsG w (.bool (goodX x)) = T at *
  clear G0
  go_enter Try.func26, Try.ntmps26
  go_wp2_with (first | refine wpList_load_arr rfl 28 _ rfl _ rfl _ B0.out _ Try.underlying28 rfl (by rw [hx]; exact size4) ?_)
  clear B0
  generalize w.alloc (.cells (arrI x) 28) = W0 at *
  go_loop [4, 6] (fun _ i => ∃ k : Nat, i = .int .i64 k ∧ k ≤ 4 ∧ Hid (∀ i, i < k → 0 ≤ nth x i ∧ nth x i ≤ 9)) (fun _ i => 4 - (intOf i).toNat)
  case atStart => exact ⟨0, rfl, Nat.zero_le _, fun i hi => by omega⟩
  case round =>
    obtain ⟨k, rfl, hk, hG⟩ := hrel
    by_cases hk4 : k < 4
    · have hix := IX.out k hk4
      have NK := hide (N.out k hk4)
      have GK := hide (fun (hh : 0 ≤ nth x k ∧ nth x k ≤ 9) => (show ∀ i, i < k + 1 → 0 ≤ nth x i ∧ nth x i ≤ 9 from fun i hi => by
        rcases Nat.lt_or_ge i k with g | g
        · exact hG.out i g
        · obtain rfl : i = k := by omega
          exact hh))
      clear Y N hG IX
      generalize nth x k = z at *
      have kl1 : (k : Int) < 4 := by omega
      have ST := hide (pulWithin_any z 0 9 W0)
      by_cases hz : 0 ≤ z ∧ z ≤ 9
      · have F := hide (GK.out hz)
        rw [decide_eq_true hz] at ST
        clear NK GK hz
        go_wp2_with fail
        refine ST.out.mono ?_
        rintro e w1 ⟨rfl, rfl⟩
        clear ST
        go_wp2_with fail
        go_round
        case rel => exact ⟨k + 1, by go_num, by omega, F.out⟩
        case measure => simp [intOf]; omega
      · have F := hide (NK.out hz)
        rw [decide_eq_false hz] at ST
        clear NK GK hz
        go_wp2_with fail
        refine ST.out.mono ?_
        rintro e w1 ⟨rfl, rfl⟩
        clear ST
        go_wp2_with fail
        exact F.out
    · obtain rfl : k = 4 := by omega
      have F := hide (Y.out hG.out)
      clear Y N hG IX
      go_wp2_with fail
      exact F.out
theorem pulSamples_any (v : Value) (l : List Int) (w : World) (h : Ints w v l) (hl : l.length ≤ 1000000000000000000) :
    Calls Try.prog 17 #[v] w (Ans w (.bool (rightB l))) := by
  obtain ⟨ad, c, rfl, hc, hcell⟩ := h
  have Y := hide (fun (hh : ∀ i, i < l.length → -32768 ≤ nth l i ∧ nth l i ≤ 32767) => (show Ans w (.bool (rightB l)) (.returned (.bool true)) w from ⟨by rw [(rightB_iff l).2 hh], rfl⟩))
  have N := hide (fun i (hi' : i < l.length) (hh : ¬ (-32768 ≤ nth l i ∧ nth l i ≤ 32767)) => (show Ans w (.bool (rightB l)) (.returned (.bool false)) w from ⟨by
    rcases hb : rightB l with _ | _
    · rfl
    · exact absurd ((rightB_iff l).1 hb i hi') hh, rfl⟩))
  generalize Ans w (.bool (rightB l)) = T at *
  go_enter Try.func17, Try.ntmps17
  go_wp2_with fail
  go_loop [7] (fun i => ∃ k : Nat, i = .int .i64 k ∧ k ≤ l.length ∧ Hid (∀ i, i < k → -32768 ≤ nth l i ∧ nth l i ≤ 32767)) (fun i => l.length - (intOf i).toNat)
  case atStart => exact ⟨0, rfl, Nat.zero_le _, fun i hi => by omega⟩
  case round =>
    obtain ⟨k, rfl, hk, hG⟩ := hrel
    by_cases hkl : k < l.length
    · obtain ⟨a, rfl, hv⟩ := hcell (by omega)
      have hck := hv k hkl
      have NK := hide (N.out k hkl)
      have GK := hide (fun (hh : -32768 ≤ nth l k ∧ nth l k ≤ 32767) => (show ∀ i, i < k + 1 → -32768 ≤ nth l i ∧ nth l i ≤ 32767 from fun i hi => by
        rcases Nat.lt_or_ge i k with g | g
        · exact hG.out i g
        · obtain rfl : i = k := by omega
          exact hh))
      clear hcell hv Y N hG
      generalize nth l k = z at *
      have kl1 : (k : Int) < l.length := by omega
      have ST := hide (pulWithin_any z (-32768) 32767 w)
      by_cases hz : -32768 ≤ z ∧ z ≤ 32767
      · have F := hide (GK.out hz)
        rw [decide_eq_true hz] at ST
        clear NK GK hz
        go_wp2_with fail
        refine ST.out.mono ?_
        rintro e w1 ⟨rfl, rfl⟩
        clear ST
        go_wp2_with fail
        go_round
        case rel => exact ⟨k + 1, by go_num, by omega, F.out⟩
        case measure => simp [intOf]; omega
      · have F := hide (NK.out hz)
        rw [decide_eq_false hz] at ST
        clear NK GK hz
        go_wp2_with fail
        refine ST.out.mono ?_
        rintro e w1 ⟨rfl, rfl⟩
        clear ST
        go_wp2_with fail
        exact F.out
    · obtain rfl : k = l.length := by omega
      have F := hide (Y.out hG.out)
      clear hcell Y N hG
      go_wp2_with fail
      exact F.out
theorem dotS_stepP (a b : List Int) (n : Nat) : dotS a b (n + 1) = dotS a b n + nth a n * nth b n := rfl
theorem pulProduct_any (v u : Value) (a b : List Int) (w : World) (ha : Ints w v a) (hb : Ints w u b) (hl : a.length ≤ b.length) (hn : a.length ≤ 100) (ra : rightB a = true) (rb : rightB b = true) :
    Calls Try.prog 18 #[v, u] w (Ans w (.int .i64 (dotS a b a.length))) := by
  have F := hide (show Ans w (.int .i64 (dotS a b a.length)) (.returned (.int .i64 (dotS a b a.length))) w from ⟨rfl, rfl⟩)
  have DB := hide (dotS_bd a b ra rb)
  have RA := hide (nth_in a (-32768) 32767 (by omega) (by omega) ((rightB_iff a).1 ra))
  have RB := hide (nth_in b (-32768) 32767 (by omega) (by omega) ((rightB_iff b).1 rb))
  obtain ⟨ad, c, rfl, hc, hva⟩ := ha
  obtain ⟨bd, d, rfl, hd, hvb⟩ := hb
  have VA := hide hva
  have VB := hide hvb
  clear hva hvb ra rb
  generalize Ans w (.int .i64 (dotS a b a.length)) = T at *
  go_enter Try.func18, Try.ntmps18
  go_wp2_with fail
  go_loop [5, 10] (fun s i => ∃ m : Nat, i = .int .i64 m ∧ s = .int .i64 (dotS a b m) ∧ m ≤ a.length) (fun _ i => a.length - (intOf i).toNat)
  case atStart => exact ⟨0, rfl, rfl, Nat.zero_le _⟩
  case round =>
    obtain ⟨m, rfl, rfl, hm⟩ := hrel
    by_cases hml : m < a.length
    · obtain ⟨pa, rfl, ca⟩ := VA.out (by omega)
      obtain ⟨pb, rfl, cb⟩ := VB.out (by omega)
      have cx := ca m hml
      have cy := cb m (by omega)
      obtain ⟨x1, x2⟩ := RA.out m
      obtain ⟨y1, y2⟩ := RB.out m
      have pq := p16_bd _ _ x1 x2 y1 y2
      have dd := DB.out m
      have ST := dotS_stepP a b m
      have i1 : (m : Int) < a.length := by omega
      have i2 : (m : Int) < b.length := by omega
      have HS := hide ST
      clear ca cb DB RA RB VA VB ST F
      obtain ⟨p1, p2⟩ := pq
      obtain ⟨d1, d2⟩ := dd
      have d3 : -107374182400 ≤ dotS a b m := by omega
      have d4 : dotS a b m ≤ 107374182400 := by omega
      clear d1 d2
      generalize dotS a b m = s at *
      generalize nth a m = x at *
      generalize nth b m = y at *
      go_wp2_with fail
      go_round
      case rel => exact ⟨m + 1, by go_num, by rw [HS.out], by omega⟩
      case measure => simp [intOf]; omega
    · obtain rfl : m = a.length := by omega
      clear VA VB RA RB DB
      generalize dotS a b a.length = s at *
      go_wp2_with fail
      exact F.out
end Go.Proofs.Ytekdgohomaeeeab

/- PulI -/
namespace Go.Proofs.Ytekdgohomaeeeab
open Go.RowKit
set_option linter.unusedVariables false
set_option linter.unusedSimpArgs false
set_option maxHeartbeats 1000000
theorem and1F : ∀ q : Fin 16, bits BinOp.and IntKind.i64 (q.val : Int) 1 = (q.val : Int) % 2 := by decide +kernel
theorem div_small (s : Int) (m : Nat) (h0 : 0 ≤ s) (h1 : s ≤ 15) : (s / 2 ^ m % 2 = 1 ∧ bits BinOp.and IntKind.i64 (s / 2 ^ m) 1 = 1) ∨ (¬ s / 2 ^ m % 2 = 1 ∧ bits BinOp.and IntKind.i64 (s / 2 ^ m) 1 = 0) := by
  have hp : (1 : Int) ≤ 2 ^ m := Int.pow_pos (by omega)
  have a1 : 0 ≤ s / 2 ^ m := Int.ediv_nonneg h0 (by omega)
  have a2 : s / 2 ^ m ≤ s := Int.ediv_le_self _ h0
  generalize s / 2 ^ m = q at *
  have := and1F ⟨q.toNat, by omega⟩
  simp only at this
  rw [show ((q.toNat : Nat) : Int) = q by omega] at this
  by_cases h : q % 2 = 1
  · exact .inl ⟨h, by rw [this, h]⟩
  · exact .inr ⟨h, by rw [this]; omega⟩
set_option maxRecDepth 100000 in
theorem pulBuild_no (x : List Int) (hx : x.length = 4) (s z : Int) (h : ¬ ((0 ≤ s ∧ s ≤ 15) ∧ (0 ≤ z ∧ z ≤ 32767) ∧ goodX x = true)) (w : World) :
    Calls Try.prog 32 #[.agg (arrI x), .int .i64 s, .int .i64 z] w (ListE w [] 2) := by
  have B0 := hide (Blk.new w 28 x)
  have G0 := hide (grown_alloc w (.cells (arrI x) 28) none)
  have PC := hide (pulPlaces_any x hx)
  have WS := hide (pulWithin_any s 0 15)
  have WZ := hide (pulWithin_any z 0 32767)
  by_cases h1 : 0 ≤ s ∧ s ≤ 15
  · rw [decide_eq_true h1] at WS
    by_cases h2 : 0 ≤ z ∧ z ≤ 32767
    · have hg : goodX x = false := by
        rcases hb : goodX x with _ | _
        · rfl
        · exact absurd ⟨h1, h2, hb⟩ h
      rw [decide_eq_true h2] at WZ
      rw [hg] at PC
      clear h h1 h2 hg
      go_enter Try.func32, Try.ntmps32
      go_upto_region 1 with fail
      generalize w.alloc _ = W1 at *
      go_wp2_with fail
      refine (WS.out W1).mono ?_
      rintro e w1 ⟨rfl, rfl⟩
      clear WS
      go_wp2_with fail
      refine (WZ.out w1).mono ?_
      rintro e w2 ⟨rfl, rfl⟩
      clear WZ
      go_wp2_with (first | refine wpList_load_arrG (by rfl) 28 _ rfl _ rfl _ B0.out _ Try.underlying28 rfl (by rw [hx]; exact size4) ?_)
      refine (PC.out w2).mono ?_
      rintro e w3 ⟨rfl, g3⟩
      have GF := hide (grown_none G0.out g3)
      clear PC g3 B0 G0
      go_wp2_with fail
      go_ret2
      exact ⟨_, rfl, Own_nil _ _, GF.out⟩
    · rw [decide_eq_false h2] at WZ
      clear h h1 h2 PC
      go_enter Try.func32, Try.ntmps32
      go_upto_region 1 with fail
      generalize w.alloc _ = W1 at *
      go_wp2_with fail
      refine (WS.out W1).mono ?_
      rintro e w1 ⟨rfl, rfl⟩
      clear WS
      go_wp2_with fail
      refine (WZ.out w1).mono ?_
      rintro e w2 ⟨rfl, rfl⟩
      clear WZ B0
      go_wp2_with fail
      go_ret2
      exact ⟨_, rfl, Own_nil _ _, G0.out⟩
  · rw [decide_eq_false h1] at WS
    clear h h1 PC WZ
    go_enter Try.func32, Try.ntmps32
    go_upto_region 1 with fail
    generalize w.alloc _ = W1 at *
    go_wp2_with fail
    refine (WS.out W1).mono ?_
    rintro e w1 ⟨rfl, rfl⟩
    clear WS B0
    go_wp2_with fail
    go_ret2
    exact ⟨_, rfl, Own_nil _ _, G0.out⟩
set_option maxRecDepth 100000 in
theorem pulBuild_yes (x : List Int) (hx : x.length = 4) (s z : Int) (h : (0 ≤ s ∧ s ≤ 15) ∧ (0 ≤ z ∧ z ≤ 32767) ∧ goodX x = true) (w : World) :
    Calls Try.prog 32 #[.agg (arrI x), .int .i64 s, .int .i64 z] w (ListE w (tab 40 (blN x s z)) 0) := by
  have B0 := hide (Blk.new w 28 x)
  have G0 := hide (grown_alloc w (.cells (arrI x) 28) none)
  have PC := hide (pulPlaces_any x hx)
  have WS := hide (pulWithin_any s 0 15)
  have WZ := hide (pulWithin_any z 0 32767)
  obtain ⟨h1, h2, hg⟩ := h
  rw [decide_eq_true h1] at WS
  rw [decide_eq_true h2] at WZ
  rw [hg] at PC
  have hmk := make_zeros 40 (by omega)
  rw [show ((40 : Nat) : Int) = 40 from rfl] at hmk
  have HG := hide hg
  have HX := hide hx
  have IX := hide (fun (k : Nat) (hk : k < 4) => index_arr x Try.underlying28 k (by omega) hx)
  obtain ⟨s1, s2⟩ := h1
  obtain ⟨z1, z2⟩ := h2
  clear hg
  go_enter Try.func32, Try.ntmps32
  go_upto_region 1 with fail
  generalize w.alloc _ = W1 at *
  go_wp2_with fail
  refine (WS.out W1).mono ?_
  rintro e w1 ⟨rfl, rfl⟩
  clear WS
  go_wp2_with fail
  refine (WZ.out w1).mono ?_
  rintro e w2 ⟨rfl, rfl⟩
  clear WZ
  go_wp2_with (first | refine wpList_load_arrG (by rfl) 28 _ rfl _ rfl _ B0.out _ Try.underlying28 rfl (by rw [hx]; exact size4) ?_)
  refine (PC.out w2).mono ?_
  rintro e w3 ⟨rfl, g3⟩
  have ga := grown_alloc w3 (.cells (arrI (zeros 40)) 3) none
  have M0 := hide (show Blk (w3.alloc (.cells (arrI (zeros 40)) 3)) w3.heap.size 3 (zeros 40) ∧ w.heap.size ≤ w3.heap.size ∧ w.grownBy (w3.alloc (.cells (arrI (zeros 40)) 3)) none from ⟨Blk.new w3 _ _, Nat.le_trans G0.out.size g3.size, grown_none (grown_none G0.out g3) ga⟩)
  have BX := hide ((B0.out.keep g3).keep ga)
  clear PC g3 B0 G0 ga
  go_upto_region 4 with fail
  generalize w3.alloc _ = W4 at *
  generalize w3.heap.size = B at *
  clear hmk
  go_wp2_with (first | refine wpList_load_arr rfl 28 _ rfl _ rfl _ BX.out _ Try.underlying28 rfl (by rw [hx]; exact size4) ?_)
  clear BX
  go_loopw [27] (fun i wr => ∃ (m : Nat) (rs : List Int), i = .int .i64 m ∧ m ≤ 4 ∧ Hid (FillB x s z m rs) ∧ Hid (Blk wr B 3 rs ∧ w.heap.size ≤ B ∧ w.grownBy wr none)) (fun i _ => 4 - (intOf i).toNat)
  case atStart => exact ⟨0, zeros 40, rfl, Nat.zero_le _, fillB_start x s z, M0.out⟩
  case round =>
    obtain ⟨m, rs, rfl, hm, hF, hM⟩ := hrel
    clear M0
    by_cases hm4 : m < 4
    · have hix := IX.out m hm4
      have i1 : (m : Int) < 4 := by omega
      have hPL := psN_lt HG.out HX.out m hm4
      obtain ⟨g1, g2⟩ := (goodX_iff x).1 HG.out m (by omega)
      have AT := hide (pulAt_any (m : Int) (nth x m) (by omega) (by omega) g1 g2 wr)
      rw [show (m : Int) + 4 * nth x m = ((psN x m : Nat) : Int) by unfold psN; omega] at AT
      have NF := hide (fillB_step HG.out HX.out hm4 hF.out)
      have rl := hF.out.1
      have cd := hM.out.1.cell (psN x m) (by omega)
      have fd := hM.out.1.free (psN x m)
      have gs := grown_setCell wr ⟨B, psN x m, none⟩ (.int .i64 (blV s z m))
      have NM := hide (show Blk (wr.setCell ⟨B, psN x m, none⟩ (.int .i64 (blV s z m))) B 3 (rs.set (psN x m) (blV s z m)) ∧ w.heap.size ≤ B ∧ w.grownBy (wr.setCell ⟨B, psN x m, none⟩ (.int .i64 (blV s z m))) none from ⟨hM.out.1.set _ _, hM.out.2.1, grown_own hM.out.2.2 gs hM.out.2.1⟩)
      have QB := hide (div_small s m s1 s2)
      have EV := hide (show blV s z m = if s / 2 ^ m % 2 = 1 then z else -z from rfl)
      have i2 : ((psN x m : Nat) : Int) < 40 := by omega
      clear hF hM gs rl g1 g2
      generalize psN x m = P at *
      generalize nth x m = pl at *
      generalize nth rs P = q at *
      generalize blV s z m = V at *
      rcases QB.out with ⟨hq, hb⟩ | ⟨hq, hb⟩
      · have HV := hide (show V = z by rw [EV.out, if_pos hq])
        clear hq EV QB
        go_wp2_with fail
        refine AT.out.mono ?_
        rintro e wy ⟨rfl, rfl⟩
        clear AT hb
        rw [HV.out] at NF NM
        go_wp2_with fail
        go_roundw
        case rel => exact ⟨m + 1, _, by go_num, by omega, NF.out, NM.out⟩
        case measure => simp [intOf]; omega
      · have HV := hide (show V = -z by rw [EV.out, if_neg hq])
        clear hq EV QB
        go_wp2_with fail
        refine AT.out.mono ?_
        rintro e wy ⟨rfl, rfl⟩
        clear AT hb
        rw [HV.out] at NF NM
        go_wp2_with fail
        go_roundw
        case rel => exact ⟨m + 1, _, by go_num, by omega, NF.out, NM.out⟩
        case measure => simp [intOf]; omega
    · obtain rfl : m = 4 := by omega
      have rl := hF.out.1
      have OF := own_blk (base := w.heap.size) hM.out.1 hM.out.2.1 (by omega)
      rw [rl, fillB_all hF.out] at OF
      have OO := hide OF
      have GF := hide hM.out.2.2
      clear hF hM rl OF
      rw [show ((4 : Nat) : Int) = 4 from rfl]
      go_wp2_with fail
      go_ret2
      exact ⟨_, rfl, OO.out, GF.out⟩
theorem pulBuild_any (x : List Int) (hx : x.length = 4) (s z : Int) (w : World) : Calls Try.prog 32 #[.agg (arrI x), .int .i64 s, .int .i64 z] w (ListE w (blL x s z) (blE x s z)) := by
  by_cases h : (0 ≤ s ∧ s ≤ 15) ∧ (0 ≤ z ∧ z ≤ 32767) ∧ goodX x = true
  · obtain ⟨e1, e2⟩ := blL_yes h
    rw [e1, e2]
    exact pulBuild_yes x hx s z h w
  · obtain ⟨e1, e2⟩ := blL_no h
    rw [e1, e2]
    exact pulBuild_no x hx s z h w
theorem tgE_cases (t r : List Int) : (¬ (t.length = 40 ∧ r.length = 40) ∧ tgE t r = 1 ∧ tgV t r = []) ∨ ((t.length = 40 ∧ r.length = 40) ∧ rightB t = false ∧ tgE t r = 2 ∧ tgV t r = []) ∨ ((t.length = 40 ∧ r.length = 40) ∧ rightB t = true ∧ rightB r = false ∧ tgE t r = 2 ∧ tgV t r = []) ∨ ((t.length = 40 ∧ r.length = 40) ∧ rightB t = true ∧ rightB r = true ∧ tgE t r = 0 ∧ tgV t r = tgL t r) := by
  by_cases h : t.length = 40 ∧ r.length = 40
  · rcases ht : rightB t with _ | _
    · exact .inr (.inl ⟨h, rfl, by unfold tgE; rw [if_pos h, ht]; rfl, by unfold tgV; rw [if_neg (by rw [ht]; simp)]⟩)
    · rcases hr : rightB r with _ | _
      · exact .inr (.inr (.inl ⟨h, rfl, rfl, by unfold tgE; rw [if_pos h, ht, hr]; rfl, by unfold tgV; rw [if_neg (by rw [ht, hr]; simp)]⟩))
      · exact .inr (.inr (.inr ⟨h, rfl, rfl, by unfold tgE; rw [if_pos h, ht, hr]; rfl, by unfold tgV; rw [if_pos (by rw [ht, hr]; exact ⟨h.1, h.2, rfl⟩)]⟩))
  · exact .inl ⟨h, if_neg h, by unfold tgV; rw [if_neg (fun x => h ⟨x.1, x.2.1⟩)]⟩
theorem right_dropP {t : List Int} (h : rightB t = true) (n : Nat) : rightB (t.drop n) = true := by
  rw [rightB_iff]
  intro i hi
  rw [nth_drop]
  exact nth_in _ _ _ (by omega) (by omega) ((rightB_iff t).1 h) _
set_option maxRecDepth 100000 in
theorem pulTarget_any (vt vr : Value) (t r : List Int) (w : World) (ht : Ints w vt t) (hr : Ints w vr r) (hs : Shp vt t) (hl : t.length ≤ 1000000000000000000) (hl2 : r.length ≤ 1000000000000000000) :
    Calls Try.prog 6 #[vt, vr] w (ListE w (tgV t r) (tgE t r)) := by
  rcases tgE_cases t r with ⟨h, e1, e2⟩ | ⟨h, h1, e1, e2⟩ | ⟨h, h1, h2, e1, e2⟩ | ⟨h, h1, h2, e1, e2⟩
  · rw [e1, e2]
    clear e1 e2 hs
    obtain ⟨at', ct, rfl, _, _⟩ := ht
    obtain ⟨ar, cr, rfl, _, _⟩ := hr
    generalize t.length = nt at *
    generalize r.length = nr at *
    by_cases q1 : nt = 40
    · have b2 : ((nr : Int) != 40) = true := by simp; omega
      subst q1
      clear h
      go_enter Try.func6, Try.ntmps6
      go_wp2_with fail
      go_ret2
      exact ⟨_, rfl, Own_nil _ _, grown_refl _ _⟩
    · have b1 : ((nt : Int) != 40) = true := by simp; omega
      clear h q1
      go_enter Try.func6, Try.ntmps6
      go_wp2_with fail
      go_ret2
      exact ⟨_, rfl, Own_nil _ _, grown_refl _ _⟩
  · rw [e1, e2]
    have ST := hide (pulSamples_any vt t w ht hl)
    rw [h1] at ST
    clear e1 e2 hs h1
    obtain ⟨at', ct, rfl, _, _⟩ := ht
    obtain ⟨ar, cr, rfl, _, _⟩ := hr
    rw [h.1] at ST
    rw [h.1, h.2]
    clear h hl hl2
    go_enter Try.func6, Try.ntmps6
    go_wp2_with fail
    refine ST.out.mono ?_
    rintro e w1 ⟨rfl, rfl⟩
    clear ST
    go_wp2_with fail
    go_ret2
    exact ⟨_, rfl, Own_nil _ _, grown_refl _ _⟩
  · rw [e1, e2]
    have ST := hide (pulSamples_any vt t w ht hl)
    have SR := hide (pulSamples_any vr r w hr hl2)
    rw [h1] at ST
    rw [h2] at SR
    clear e1 e2 hs h1 h2
    obtain ⟨at', ct, rfl, _, _⟩ := ht
    obtain ⟨ar, cr, rfl, _, _⟩ := hr
    rw [h.1] at ST
    rw [h.2] at SR
    rw [h.1, h.2]
    clear h hl hl2
    go_enter Try.func6, Try.ntmps6
    go_wp2_with fail
    refine ST.out.mono ?_
    rintro e w1 ⟨rfl, rfl⟩
    clear ST
    go_wp2_with fail
    refine SR.out.mono ?_
    rintro e w2 ⟨rfl, rfl⟩
    clear SR
    go_wp2_with fail
    go_ret2
    exact ⟨_, rfl, Own_nil _ _, grown_refl _ _⟩
  · rw [e1, e2]
    have ST := hide (pulSamples_any vt t w ht hl)
    have SR := hide (pulSamples_any vr r w hr hl2)
    have SL := hide (fun (k : Nat) (hk : k ≤ 40) => slice_l ht hs k (by omega))
    have PR := hide (fun (k : Nat) (hk : k ≤ 40) W (g : w.grownBy W none) (vB : Value) (iv : Ints w vB (t.drop k)) => pulProduct_any vB vr (t.drop k) r W (Ints_keep iv g) (Ints_keep hr g) (by rw [List.length_drop]; omega) (by rw [List.length_drop]; omega) (right_dropP h1 k) h2)
    have EP := hide (fun (k : Nat) (hk : k ≤ 40) => (show dotS (t.drop k) r (t.drop k).length = tgN t r k by rw [List.length_drop, h.1]; exact tgN_drop t r h2 k hk))
    rw [h1] at ST
    rw [h2] at SR
    clear e1 e2 hs h1 h2
    obtain ⟨at', ct, rfl, _, _⟩ := ht
    obtain ⟨ar, cr, rfl, _, _⟩ := hr
    rw [h.1] at ST SL
    rw [h.2] at SR PR
    rw [h.1, h.2]
    clear h hl hl2
    have hmk := make_zeros 40 (by omega)
    rw [show ((40 : Nat) : Int) = 40 from rfl] at hmk
    have M0 := hide (show Blk (w.alloc (.cells (arrI (zeros 40)) 3)) w.heap.size 3 (zeros 40) ∧ w.grownBy (w.alloc (.cells (arrI (zeros 40)) 3)) none from ⟨Blk.new w 3 (zeros 40), grown_alloc _ _ none⟩)
    go_enter Try.func6, Try.ntmps6
    go_wp2_with fail
    refine ST.out.mono ?_
    rintro e w1 ⟨rfl, rfl⟩
    clear ST
    go_wp2_with fail
    refine SR.out.mono ?_
    rintro e w2 ⟨rfl, rfl⟩
    clear SR
    go_wp2_with fail
    clear hmk
    generalize w2.alloc _ = W0 at *
    go_loopw [27] (fun i wr => ∃ (m : Nat) (rs : List Int), i = .int .i64 m ∧ m ≤ 40 ∧ Hid (FillN 40 (tgN t r) m rs) ∧ Hid (Blk wr w2.heap.size 3 rs ∧ w2.grownBy wr none)) (fun i _ => 40 - (intOf i).toNat)
    case atStart => exact ⟨0, zeros 40, rfl, Nat.zero_le _, fillN_start 40 _, M0.out⟩
    case round =>
      obtain ⟨m, rs, rfl, hm, hF, hM⟩ := hrel
      clear M0
      by_cases hm40 : m < 40
      · have hlen : rs.length = 40 := hF.out.1
        obtain ⟨vB, hsl, iv, _⟩ := SL.out m hm
        have P1 := hide (PR.out m hm wr hM.out.2 vB iv)
        rw [EP.out m hm] at P1
        have cd := hM.out.1.cell m (by omega)
        have fd := hM.out.1.free m
        have NF := hide (fillN_step hF.out hm40)
        have NM := hide (show Blk (wr.setCell ⟨w2.heap.size, m, none⟩ (.int .i64 (tgN t r m))) w2.heap.size 3 (rs.set m (tgN t r m)) ∧ w2.grownBy (wr.setCell ⟨w2.heap.size, m, none⟩ (.int .i64 (tgN t r m))) none from ⟨hM.out.1.set m _, grown_own hM.out.2 (grown_setCell wr ⟨w2.heap.size, m, none⟩ _) (Nat.le_refl _)⟩)
        have i1 : (m : Int) < 40 := by omega
        clear hF hM hlen SL PR EP iv
        generalize tgN t r m = z at *
        generalize nth rs m = q at *
        go_wp2_with fail
        refine P1.out.mono ?_
        rintro e wy ⟨rfl, rfl⟩
        clear P1 hsl
        go_wp2_with fail
        go_roundw
        case rel => exact ⟨m + 1, _, by go_num, by omega, NF.out, NM.out⟩
        case measure => simp [intOf]; omega
      · obtain rfl : m = 40 := by omega
        have hlen : rs.length = 40 := hF.out.1
        have OF := own_blk (base := w2.heap.size) hM.out.1 (Nat.le_refl _) (by omega)
        rw [hlen, show rs = tgL t r from fillN_all hF.out] at OF
        have OO := hide OF
        have GF := hide hM.out.2
        clear hF hM OF SL PR EP hlen
        rw [show ((40 : Nat) : Int) = 40 from rfl]
        go_wp2_with fail
        go_ret2
        exact ⟨_, rfl, OO.out, GF.out⟩
end Go.Proofs.Ytekdgohomaeeeab

/- PulK -/
namespace Go.Proofs.Ytekdgohomaeeeab
open Go.RowKit
set_option linter.unusedVariables false
set_option linter.unusedSimpArgs false
set_option maxHeartbeats 1000000
set_option maxRecDepth 100000 in
theorem rings_any (w : World) : Calls Try.prog 14 #[] w (AnsG w (.bool true)) := by
  have BU := hide (pulBuild_any [9, 0, 0, 0] rfl 1 7 w)
  rw [show blE [9, 0, 0, 0] 1 7 = 0 from by decide] at BU
  have hLn : (blL [9, 0, 0, 0] 1 7).length = 40 := by decide
  have h36 : nth (blL [9, 0, 0, 0] 1 7) 36 = 7 := by decide
  have h1 : nth (blL [9, 0, 0, 0] 1 7) 1 = -7 := by decide
  rw [show arrI [9, 0, 0, 0] = #[.int .i64 9, .int .i64 0, .int .i64 0, .int .i64 0] from rfl] at BU
  generalize blL [9, 0, 0, 0] 1 7 = L at *
  have HL := hide hLn
  have H36 := hide h36
  have H1 := hide h1
  clear hLn h36 h1
  go_enter Try.func14, Try.ntmps14
  go_wp2_with fail
  refine BU.out.mono ?_
  rintro e w1 ⟨v1, rfl, o1, g1⟩
  obtain ⟨b, cap, rfl, hb, hlt, hcap⟩ := o1.form (by rw [HL.out]; omega)
  have c36 := o1.cell rfl 36 (by rw [HL.out]; omega)
  have c1 := o1.cell rfl 1 (by rw [HL.out]; omega)
  rw [H36.out] at c36
  rw [H1.out] at c1
  have GF := hide g1
  rw [HL.out]
  clear o1 g1 BU hcap
  go_wp2_with fail
  go_ret
  exact ⟨rfl, GF.out⟩
end Go.Proofs.Ytekdgohomaeeeab

/- PulB -/
namespace Go.Proofs.Ytekdgohomaeeeab
open Go.RowKit
set_option linter.unusedVariables false
set_option linter.unusedSimpArgs false
set_option maxHeartbeats 1000000
def stpL (l : List Int) : List Int := tab 40 (fun i => c16 (nth l i))
theorem stpL_len (l : List Int) : (stpL l).length = 40 := tab_len _ _
set_option maxRecDepth 100000 in
theorem pulStopped_any (v : Value) (l : List Int) (w : World) (h : Ints w v l) (hl : l.length = 40) :
    Calls Try.prog 39 #[v] w fun e w' => e = .returned (.slice (some ⟨w.heap.size, 0, none⟩) 40 40) ∧ Blk w' w.heap.size 3 (stpL l) ∧ w.grownBy w' none := by
  have IV := hide (fun wr (g : w.grownBy wr none) => Ints_keep h g)
  have M0 := hide (show Blk (w.alloc (.cells (arrI (zeros 40)) 3)) w.heap.size 3 (zeros 40) ∧ w.grownBy (w.alloc (.cells (arrI (zeros 40)) 3)) none from ⟨Blk.new w 3 (zeros 40), grown_alloc _ _ none⟩)
  obtain ⟨ad, c, rfl, hc, _⟩ := h
  rw [hl] at IV ⊢
  have hmk := make_zeros 40 (by omega)
  rw [show ((40 : Nat) : Int) = 40 from rfl] at hmk
  have HL := hide hl
  clear hc hl
  go_enter Try.func39, Try.ntmps39
  go_wp2_with fail
  clear hmk
  generalize w.alloc (.cells (arrI (zeros 40)) 3) = W0 at *
  go_loopw [11] (fun i wr => ∃ (m : Nat) (rs : List Int), i = .int .i64 m ∧ m ≤ 40 ∧ Hid (FillN 40 (fun i => c16 (nth l i)) m rs) ∧ Hid (Blk wr w.heap.size 3 rs ∧ w.grownBy wr none)) (fun i _ => 40 - (intOf i).toNat)
  case atStart => exact ⟨0, zeros 40, rfl, Nat.zero_le _, fillN_start 40 _, M0.out⟩
  case round =>
    obtain ⟨m, rs, rfl, hm, hF, hM⟩ := hrel
    clear M0
    by_cases hm40 : m < 40
    · have hlen : rs.length = 40 := hF.out.1
      have iv := IV.out wr hM.out.2
      obtain ⟨ad', c', e', h1, h2⟩ := iv
      simp only [Value.slice.injEq] at e'
      obtain ⟨rfl, e2, rfl⟩ := e'
      clear e2
      obtain ⟨a, rfl, h3⟩ := h2 (by rw [HL.out]; omega)
      have cx := h3 m (by rw [HL.out]; omega)
      have cd := hM.out.1.cell m (by omega)
      have fd := hM.out.1.free m
      have NF := hide (fillN_step hF.out hm40)
      have NM := hide (show Blk (wr.setCell ⟨w.heap.size, m, none⟩ (.int .i64 (c16 (nth l m)))) w.heap.size 3 (rs.set m (c16 (nth l m))) ∧ w.grownBy (wr.setCell ⟨w.heap.size, m, none⟩ (.int .i64 (c16 (nth l m)))) none from ⟨hM.out.1.set m _, grown_own hM.out.2 (grown_setCell wr ⟨w.heap.size, m, none⟩ _) (Nat.le_refl _)⟩)
      have i1 : (m : Int) < 40 := by omega
      have SA := hide (sat16_any (nth l m) wr)
      clear hF hM hlen h1 h2 h3 IV
      generalize c16 (nth l m) = z at *
      generalize o16 (nth l m) = oo at *
      generalize nth l m = x at *
      generalize nth rs m = q at *
      go_wp2_with fail
      refine SA.out.mono ?_
      rintro e w1 ⟨rfl, rfl⟩
      clear SA
      go_wp2_with fail
      go_roundw
      case rel => exact ⟨m + 1, _, by go_num, by omega, NF.out, NM.out⟩
      case measure => simp [intOf]; omega
    · obtain rfl : m = 40 := by omega
      have EL := hide (show rs = stpL l from fillN_all hF.out)
      have GF := hide hM.out
      clear hF hM IV
      go_wp2_with fail
      go_ret
      rw [EL.out] at GF
      exact ⟨rfl, GF.out.1, GF.out.2⟩
def EnM (w wr : World) (l : List Int) (B : Nat) (rs : List Int) : Prop := Blk wr w.heap.size 3 l ∧ Blk wr B 64 rs ∧ w.heap.size < B ∧ w.grownBy wr none
theorem EnM.set {w wr : World} {l : List Int} {B : Nat} {rs : List Int} (h : EnM w wr l B rs) (k : Nat) (z : Int) : EnM w (wr.setCell ⟨B, k, none⟩ (.int .i64 z)) l B (rs.set k z) :=
  ⟨h.1.keepBut (grown_setCell wr ⟨B, k, none⟩ _) (by have := h.2.2.1; simp; omega), h.2.1.set k z, h.2.2.1, grown_own h.2.2.2 (grown_setCell wr ⟨B, k, none⟩ _) (by have := h.2.2.1; simp; omega)⟩
theorem EnM.keep {w wr wr' : World} {l : List Int} {B : Nat} {rs : List Int} (h : EnM w wr l B rs) (g : wr.grownBy wr' none) : EnM w wr' l B rs := ⟨h.1.keep g, h.2.1.keep g, h.2.2.1, grown_none h.2.2.2 g⟩
theorem zTab : (Try.prog.info? 64).bind (·.zero) = some (.agg (arrI (zeros 1600))) := by kernel_rfl
set_option maxRecDepth 100000 in
theorem pulEnergies_any (v : Value) (r : List Int) (w : World) (h : Ints w v r) (hl : r.length = 40) :
    Calls Try.prog 25 #[v] w fun e w' => ∃ B, e = .returned (.pointer (some ⟨B, 0, none⟩)) ∧ Blk w' B 64 (tbl r) ∧ w.heap.size ≤ B ∧ w.grownBy w' none := by
  have ST := hide (pulStopped_any v r w h hl)
  have RB := hide (fun i => c16_bd (nth r i))
  have hz := zero_arr zTab
  clear h hl
  go_enter Try.func25, Try.ntmps25
  go_wp2_with fail
  refine ST.out.mono ?_
  rintro e w1 ⟨rfl, b1, g1⟩
  have M0 := hide (show EnM w (w1.alloc (.cells (arrI (zeros 1600)) 64)) (stpL r) w1.heap.size (zeros 1600) from ⟨b1.keep (grown_alloc _ _ none), Blk.new w1 _ _, b1.lt, grown_none g1 (grown_alloc _ _ none)⟩)
  clear ST b1 g1
  go_wp2_with fail
  clear hz
  generalize w1.alloc _ = W0 at *
  generalize w1.heap.size = B at *
  go_loopw [5, 6] (fun i _ wr => ∃ (n : Nat) (rs : List Int), i = .int .i64 ((n : Int) - 1) ∧ n ≤ 40 ∧ Hid (TbF r n 0 rs) ∧ Hid (EnM w wr (stpL r) B rs)) (fun i _ _ => (intOf i + 1).toNat)
  case atStart => exact ⟨40, zeros 1600, rfl, Nat.le_refl _, tbF_start r, M0.out⟩
  case round =>
    obtain ⟨n, rs, rfl, hn, hF, hM⟩ := hrel
    clear M0
    by_cases hn0 : 0 < n
    · obtain ⟨A, rfl⟩ : ∃ A, n = A + 1 := ⟨n - 1, by omega⟩
      rw [show (((A + 1 : Nat) : Int) - 1) = (A : Int) by omega]
      have hA : A ≤ 39 := by omega
      have F0 := hide (tbF_next hF.out)
      clear hF hn hn0
      go_wp2_with fail
      go_loopw [6] (fun i wr => ∃ (m : Nat) (rs : List Int), i = .int .i64 ((m : Int) - 1) ∧ m ≤ 40 ∧ Hid (TbF r A m rs) ∧ Hid (EnM w wr (stpL r) B rs)) (fun i _ => (intOf i + 1).toNat)
      case atStart => exact ⟨40, rs, rfl, Nat.le_refl _, F0.out, hM.out⟩
      case round =>
        obtain ⟨m, rs, rfl, hm, hF, hM⟩ := hrel
        clear F0
        by_cases hm0 : 0 < m
        · obtain ⟨D, rfl⟩ : ∃ D, m = D + 1 := ⟨m - 1, by omega⟩
          rw [show (((D + 1 : Nat) : Int) - 1) = (D : Int) by omega]
          have hD : D ≤ 39 := by omega
          clear hm hm0
          have cx := hM.out.1.cell (39 - A) (by rw [stpL_len]; omega)
          have cy := hM.out.1.cell (39 - D) (by rw [stpL_len]; omega)
          rw [show nth (stpL r) (39 - A) = c16 (nth r (39 - A)) from tab_nth _ _ _ (by omega)] at cx
          rw [show nth (stpL r) (39 - D) = c16 (nth r (39 - D)) from tab_nth _ _ _ (by omega)] at cy
          have rl := hF.out.1
          have ct := hM.out.2.1.cell (A * 40 + D) (by omega)
          have ft := hM.out.2.1.free (A * 40 + D)
          obtain ⟨x1, x2⟩ := RB.out (39 - A)
          obtain ⟨y1, y2⟩ := RB.out (39 - D)
          obtain ⟨p1, p2⟩ := p16_bd _ _ x1 x2 y1 y2
          have LAST := hide (enN_last r A D hA hD)
          have STEP := hide (enN_step r A D)
          have NM := hide (hM.out.set (A * 40 + D) (c16 (nth r (39 - A)) * c16 (nth r (39 - D))))
          have OTH := hide (tbF_other (by omega) (by omega) hF.out (c16 (nth r (39 - A)) * c16 (nth r (39 - D))))
          have NOW := hide (fun z hz => tbF_set (by omega) (by omega) hF.out z hz)
          have NXT := hide (fun (h : A < 39) (h' : D < 39) => hF.out.2 (A + 1) (D + 1) (by omega) (by omega) (.inl (by omega)))
          have J1 : (39 : Int) - (A : Int) = ((39 - A : Nat) : Int) := by omega
          have K1 : (39 : Int) - (D : Int) = ((39 - D : Nat) : Int) := by omega
          have jb : ((39 - A : Nat) : Int) < 40 := by omega
          have kb : ((39 - D : Nat) : Int) < 40 := by omega
          have ab : (A : Int) < 40 := by omega
          have db : (D : Int) < 40 := by omega
          clear hF hM RB
          generalize c16 (nth r (39 - A)) = x at *
          generalize c16 (nth r (39 - D)) = y at *
          generalize 39 - A = J at *
          generalize 39 - D = K' at *
          generalize nth rs (A * 40 + D) = q at *
          have WJ := wrapI (J : Int) (by omega) (by omega)
          have WK := wrapI (K' : Int) (by omega) (by omega)
          have WP := wrapI (x * y) (by omega) (by omega)
          go_upto_region 9 with fail
          generalize hwy : wr = wy at *
          clear hwy
          refine wp_region_G 17 (fun w' => w' = wy.drew) 18 (by rfl) #[false, false, false, false, false, false, false, false, false, false, false, false, false, false, false, false, false, false] (by rfl) (by kernel_rfl) (fun hcl => ?_)
          refine wpAnyG_take (i := 0) (v := ?vea0) rfl (by kernel_rfl) hcl (fun _ _ _ h => h) (Or.inl ⟨by rfl, ?yea0⟩) rfl (fun hcl => ?rea0)
          case yea0 => (intro w' hSw; subst hSw; go_simp; try with_reducible rfl)
          (try simp only [Act.put, sL])
          refine wpAnyG_take (i := 1) (v := ?vea1) rfl (by kernel_rfl) hcl (fun _ _ _ h => h) (Or.inl ⟨by rfl, ?yea1⟩) rfl (fun hcl => ?rea1)
          case yea1 => (intro w' hSw; subst hSw; go_simp; try with_reducible rfl)
          (try simp only [Act.put, sL])
          refine wpAnyG_take (i := 2) (v := ?vea2) rfl (by kernel_rfl) hcl (fun _ _ _ h => h) (Or.inl ⟨by rfl, ?yea2⟩) rfl (fun hcl => ?rea2)
          case yea2 => (intro w' hSw; subst hSw; go_simp; try with_reducible rfl)
          (try simp only [Act.put, sL])
          refine wpAnyG_take (i := 3) (v := ?vea3) rfl (by kernel_rfl) hcl (fun _ _ _ h => h) (Or.inl ⟨by rfl, ?yea3⟩) rfl (fun hcl => ?rea3)
          case yea3 => (intro w' hSw; subst hSw; go_simp; try with_reducible rfl)
          (try simp only [Act.put, sL])
          refine wpAnyG_take (i := 4) (v := ?vea4) rfl (by kernel_rfl) hcl (fun _ _ _ h => h) (Or.inl ⟨by rfl, ?yea4⟩) rfl (fun hcl => ?rea4)
          case yea4 => (intro w' hSw; subst hSw; go_simp; try with_reducible rfl)
          (try simp only [Act.put, sL])
          refine wpAnyG_take (i := 5) (v := .int .i64 (J : Int)) rfl (by kernel_rfl) hcl (fun _ _ _ h => h) (Or.inl ⟨by rfl, ?yea5⟩) rfl (fun hcl => ?rea5)
          case yea5 => (intro w' hSw; subst hSw; go_simp; try simp only [WJ])
          (try simp only [Act.put, sL])
          refine wpAnyG_take (i := 6) (v := ?vea6) rfl (by kernel_rfl) hcl (fun _ _ _ h => h) (Or.inl ⟨by rfl, ?yea6⟩) rfl (fun hcl => ?rea6)
          case yea6 => (intro w' hSw; subst hSw; go_simp; try with_reducible rfl)
          (try simp only [Act.put, sL])
          refine wpAnyG_take (i := 7) (v := .int .i64 x) rfl (by kernel_rfl) hcl (fun _ _ _ h => h) (Or.inl ⟨by rfl, ?yea7⟩) rfl (fun hcl => ?rea7)
          case yea7 => (intro w' hSw; subst hSw; go_simp; try with_reducible rfl)
          (try simp only [Act.put, sL])
          refine wpAnyG_take (i := 8) (v := ?vea8) rfl (by kernel_rfl) hcl (fun _ _ _ h => h) (Or.inl ⟨by rfl, ?yea8⟩) rfl (fun hcl => ?rea8)
          case yea8 => (intro w' hSw; subst hSw; go_simp; try with_reducible rfl)
          (try simp only [Act.put, sL])
          refine wpAnyG_take (i := 9) (v := ?vea9) rfl (by kernel_rfl) hcl (fun _ _ _ h => h) (Or.inl ⟨by rfl, ?yea9⟩) rfl (fun hcl => ?rea9)
          case yea9 => (intro w' hSw; subst hSw; go_simp; try with_reducible rfl)
          (try simp only [Act.put, sL])
          refine wpAnyG_take (i := 10) (v := .int .i64 (K' : Int)) rfl (by kernel_rfl) hcl (fun _ _ _ h => h) (Or.inl ⟨by rfl, ?yea10⟩) rfl (fun hcl => ?rea10)
          case yea10 => (intro w' hSw; subst hSw; go_simp; try simp only [WK])
          (try simp only [Act.put, sL])
          refine wpAnyG_take (i := 11) (v := ?vea11) rfl (by kernel_rfl) hcl (fun _ _ _ h => h) (Or.inl ⟨by rfl, ?yea11⟩) rfl (fun hcl => ?rea11)
          case yea11 => (intro w' hSw; subst hSw; go_simp; try with_reducible rfl)
          (try simp only [Act.put, sL])
          refine wpAnyG_take (i := 12) (v := .int .i64 y) rfl (by kernel_rfl) hcl (fun _ _ _ h => h) (Or.inl ⟨by rfl, ?yea12⟩) rfl (fun hcl => ?rea12)
          case yea12 => (intro w' hSw; subst hSw; go_simp; try with_reducible rfl)
          (try simp only [Act.put, sL])
          refine wpAnyG_take (i := 13) (v := .int .i64 (x * y)) rfl (by kernel_rfl) hcl (fun _ _ _ h => h) (Or.inl ⟨by rfl, ?yea13⟩) rfl (fun hcl => ?rea13)
          case yea13 => (intro w' hSw; subst hSw; go_simp; try simp only [WP])
          (try simp only [Act.put, sL])
          refine wpAnyG_take (i := 14) (v := ?vea14) rfl (by kernel_rfl) hcl (fun _ _ _ h => h) (Or.inl ⟨by rfl, ?yea14⟩) rfl (fun hcl => ?rea14)
          case yea14 => (intro w' hSw; subst hSw; go_simp; try with_reducible rfl)
          (try simp only [Act.put, sL])
          refine wpAnyG_take (i := 15) (v := ?vea15) rfl (by kernel_rfl) hcl (fun _ _ _ h => h) (Or.inl ⟨by rfl, ?yea15⟩) rfl (fun hcl => ?rea15)
          case yea15 => (intro w' hSw; subst hSw; go_simp; try with_reducible rfl)
          (try simp only [Act.put, sL])
          refine wpAnyG_take (i := 16) (v := ?vea16) rfl (by kernel_rfl) hcl (fun _ _ _ h => h) (Or.inl ⟨by rfl, ?yea16⟩) rfl (fun hcl => ?rea16)
          case yea16 => (intro w' hSw; subst hSw; go_simp; try with_reducible rfl)
          (try simp only [Act.put, sL])
          refine wpAnyG_exec (i := 17) rfl (by kernel_rfl) hcl (fun K hK => ?_)
          (try simp only [Act.put, sL])
          go_simp
          go_wp2_with fail
          refine hK.out _ _ (fun h => by cases h) (fun hcl => ?_)
          clear hK
          (try simp only [Act.put, sL])
          refine wpAnyG_of_any _ _ _ _ (by rfl) ?_
          refine wpAny_done (by kernel_rfl) ?_ _
          have NM1 := hide (NM.out.keep (gw_start _))
          have nk := nth_set_eq rs (A * 40 + D) (x * y) (by omega)
          have nn := nth_set_ne rs (A * 40 + D) (x * y) ((A + 1) * 40 + (D + 1)) (by omega)
          generalize (wy.setCell ⟨B, A * 40 + D, none⟩ (.int .i64 (x * y))).drew = wz at *
          clear NM cx cy ct ft J1 K1 jb kb WJ WK WP
          by_cases h1 : A < 39
          · by_cases h2 : D < 39
            · have ct := NM1.out.2.1.cell (A * 40 + D) (by rw [List.length_set]; omega)
              have ft := NM1.out.2.1.free (A * 40 + D)
              have cn := NM1.out.2.1.cell ((A + 1) * 40 + (D + 1)) (by rw [List.length_set]; omega)
              rw [nk] at ct
              rw [nn, NXT.out h1 h2] at cn
              have SE := hide (STEP.out h1 h2)
              obtain ⟨s1, s2⟩ := enN_bd r (A + 1) (D + 1)
              have N2 := hide (NM1.out.set (A * 40 + D) (x * y + enN r (A + 1) (D + 1)))
              have F2 := hide (tbF_set (by omega) (by omega) OTH.out (x * y + enN r (A + 1) (D + 1)) SE.out.symm)
              clear NXT LAST STEP NM1 SE NOW OTH nk nn
              generalize enN r (A + 1) (D + 1) = s at *
              have i1 : (A : Int) < 39 := by omega
              have i2 : (D : Int) < 39 := by omega
              have ab1 : (A : Int) + 1 < 40 := by omega
              have db1 : (D : Int) + 1 < 40 := by omega
              have ab0 : (0 : Int) ≤ (A : Int) + 1 := by omega
              have db0 : (0 : Int) ≤ (D : Int) + 1 := by omega
              have at1 : ((A : Int) + 1).toNat = A + 1 := by omega
              have dt1 : ((D : Int) + 1).toNat = D + 1 := by omega
              have WA := wrapI ((A : Int) + 1) (by omega) (by omega)
              have WD := wrapI ((D : Int) + 1) (by omega) (by omega)
              have WS := wrapI (x * y + s) (by omega) (by omega)
              go_upto_region 11 with fail
              refine wp_region_G 20 (fun w' => w' = wz.drew) 21 (by rfl) #[false, false, false, false, false, false, false, false, false, false, false, false, false, false, false, false, false, false, false, false, false] (by rfl) (by kernel_rfl) (fun hcl => ?_)
              refine wpAnyG_take (i := 0) (v := ?veb0) rfl (by kernel_rfl) hcl (fun _ _ _ h => h) (Or.inl ⟨by rfl, ?yeb0⟩) rfl (fun hcl => ?reb0)
              case yeb0 => (intro w' hSw; subst hSw; go_simp; try with_reducible rfl)
              (try simp only [Act.put, sL])
              refine wpAnyG_take (i := 1) (v := ?veb1) rfl (by kernel_rfl) hcl (fun _ _ _ h => h) (Or.inl ⟨by rfl, ?yeb1⟩) rfl (fun hcl => ?reb1)
              case yeb1 => (intro w' hSw; subst hSw; go_simp; try with_reducible rfl)
              (try simp only [Act.put, sL])
              refine wpAnyG_take (i := 2) (v := ?veb2) rfl (by kernel_rfl) hcl (fun _ _ _ h => h) (Or.inl ⟨by rfl, ?yeb2⟩) rfl (fun hcl => ?reb2)
              case yeb2 => (intro w' hSw; subst hSw; go_simp; try with_reducible rfl)
              (try simp only [Act.put, sL])
              refine wpAnyG_take (i := 3) (v := ?veb3) rfl (by kernel_rfl) hcl (fun _ _ _ h => h) (Or.inl ⟨by rfl, ?yeb3⟩) rfl (fun hcl => ?reb3)
              case yeb3 => (intro w' hSw; subst hSw; go_simp; try with_reducible rfl)
              (try simp only [Act.put, sL])
              refine wpAnyG_take (i := 4) (v := ?veb4) rfl (by kernel_rfl) hcl (fun _ _ _ h => h) (Or.inl ⟨by rfl, ?yeb4⟩) rfl (fun hcl => ?reb4)
              case yeb4 => (intro w' hSw; subst hSw; go_simp; try with_reducible rfl)
              (try simp only [Act.put, sL])
              refine wpAnyG_take (i := 5) (v := ?veb5) rfl (by kernel_rfl) hcl (fun _ _ _ h => h) (Or.inl ⟨by rfl, ?yeb5⟩) rfl (fun hcl => ?reb5)
              case yeb5 => (intro w' hSw; subst hSw; go_simp; try with_reducible rfl)
              (try simp only [Act.put, sL])
              refine wpAnyG_take (i := 6) (v := .int .i64 (x * y)) rfl (by kernel_rfl) hcl (fun _ _ _ h => h) (Or.inl ⟨by rfl, ?yeb6⟩) rfl (fun hcl => ?reb6)
              case yeb6 => (intro w' hSw; subst hSw; go_simp; try with_reducible rfl)
              (try simp only [Act.put, sL])
              refine wpAnyG_take (i := 7) (v := ?veb7) rfl (by kernel_rfl) hcl (fun _ _ _ h => h) (Or.inl ⟨by rfl, ?yeb7⟩) rfl (fun hcl => ?reb7)
              case yeb7 => (intro w' hSw; subst hSw; go_simp; try with_reducible rfl)
              (try simp only [Act.put, sL])
              refine wpAnyG_take (i := 8) (v := ?veb8) rfl (by kernel_rfl) hcl (fun _ _ _ h => h) (Or.inl ⟨by rfl, ?yeb8⟩) rfl (fun hcl => ?reb8)
              case yeb8 => (intro w' hSw; subst hSw; go_simp; try with_reducible rfl)
              (try simp only [Act.put, sL])
              refine wpAnyG_take (i := 9) (v := .int .i64 ((A : Int) + 1)) rfl (by kernel_rfl) hcl (fun _ _ _ h => h) (Or.inl ⟨by rfl, ?yeb9⟩) rfl (fun hcl => ?reb9)
              case yeb9 => (intro w' hSw; subst hSw; go_simp; try simp only [WA])
              (try simp only [Act.put, sL])
              refine wpAnyG_take (i := 10) (v := ?veb10) rfl (by kernel_rfl) hcl (fun _ _ _ h => h) (Or.inl ⟨by rfl, ?yeb10⟩) rfl (fun hcl => ?reb10)
              case yeb10 => (intro w' hSw; subst hSw; go_simp; try with_reducible rfl)
              (try simp only [Act.put, sL])
              refine wpAnyG_take (i := 11) (v := .int .i64 ((D : Int) + 1)) rfl (by kernel_rfl) hcl (fun _ _ _ h => h) (Or.inl ⟨by rfl, ?yeb11⟩) rfl (fun hcl => ?reb11)
              case yeb11 => (intro w' hSw; subst hSw; go_simp; try simp only [WD])
              (try simp only [Act.put, sL])
              refine wpAnyG_take (i := 12) (v := ?veb12) rfl (by kernel_rfl) hcl (fun _ _ _ h => h) (Or.inl ⟨by rfl, ?yeb12⟩) rfl (fun hcl => ?reb12)
              case yeb12 => (intro w' hSw; subst hSw; go_simp; try with_reducible rfl)
              (try simp only [Act.put, sL])
              refine wpAnyG_take (i := 13) (v := ?veb13) rfl (by kernel_rfl) hcl (fun _ _ _ h => h) (Or.inl ⟨by rfl, ?yeb13⟩) rfl (fun hcl => ?reb13)
              case yeb13 => (intro w' hSw; subst hSw; go_simp; try with_reducible rfl)
              (try simp only [Act.put, sL])
              refine wpAnyG_take (i := 14) (v := ?veb14) rfl (by kernel_rfl) hcl (fun _ _ _ h => h) (Or.inl ⟨by rfl, ?yeb14⟩) rfl (fun hcl => ?reb14)
              case yeb14 => (intro w' hSw; subst hSw; go_simp; try with_reducible rfl)
              (try simp only [Act.put, sL])
              refine wpAnyG_take (i := 15) (v := .int .i64 s) rfl (by kernel_rfl) hcl (fun _ _ _ h => h) (Or.inl ⟨by rfl, ?yeb15⟩) rfl (fun hcl => ?reb15)
              case yeb15 => (intro w' hSw; subst hSw; go_simp; try with_reducible rfl)
              (try simp only [Act.put, sL])
              refine wpAnyG_take (i := 16) (v := .int .i64 (x * y + s)) rfl (by kernel_rfl) hcl (fun _ _ _ h => h) (Or.inl ⟨by rfl, ?yeb16⟩) rfl (fun hcl => ?reb16)
              case yeb16 => (intro w' hSw; subst hSw; go_simp; try simp only [WS])
              (try simp only [Act.put, sL])
              refine wpAnyG_take (i := 17) (v := ?veb17) rfl (by kernel_rfl) hcl (fun _ _ _ h => h) (Or.inl ⟨by rfl, ?yeb17⟩) rfl (fun hcl => ?reb17)
              case yeb17 => (intro w' hSw; subst hSw; go_simp; try with_reducible rfl)
              (try simp only [Act.put, sL])
              refine wpAnyG_take (i := 18) (v := ?veb18) rfl (by kernel_rfl) hcl (fun _ _ _ h => h) (Or.inl ⟨by rfl, ?yeb18⟩) rfl (fun hcl => ?reb18)
              case yeb18 => (intro w' hSw; subst hSw; go_simp; try with_reducible rfl)
              (try simp only [Act.put, sL])
              refine wpAnyG_take (i := 19) (v := ?veb19) rfl (by kernel_rfl) hcl (fun _ _ _ h => h) (Or.inl ⟨by rfl, ?yeb19⟩) rfl (fun hcl => ?reb19)
              case yeb19 => (intro w' hSw; subst hSw; go_simp; try with_reducible rfl)
              (try simp only [Act.put, sL])
              refine wpAnyG_exec (i := 20) rfl (by kernel_rfl) hcl (fun K hK => ?_)
              (try simp only [Act.put, sL])
              go_simp
              go_wp2_with fail
              refine hK.out _ _ (fun h => by cases h) (fun hcl => ?_)
              clear hK
              (try simp only [Act.put, sL])
              refine wpAnyG_of_any _ _ _ _ (by rfl) ?_
              refine wpAny_done (by kernel_rfl) ?_ _
              have N3 := hide (N2.out.keep (gw_start _))
              clear N2 cn ct ft WA WD WS at1 dt1 ab1 db1 ab0 db0
              generalize (wz.setCell ⟨B, A * 40 + D, none⟩ (.int .i64 (x * y + s))).drew = wu at *
              go_wp2_with fail
              go_roundw
              case rel => exact ⟨D, _, rfl, by omega, F2.out, N3.out⟩
              case measure => simp [intOf]
            · have EZ := hide (NOW.out _ (LAST.out (.inr (by omega))).symm)
              clear NXT LAST STEP NOW OTH nk nn
              have i1 : (A : Int) < 39 := by omega
              have i2 : ¬ (D : Int) < 39 := by omega
              go_wp2_with fail
              go_roundw
              case rel => exact ⟨D, _, rfl, by omega, EZ.out, NM1.out⟩
              case measure => simp [intOf]
          · have EZ := hide (NOW.out _ (LAST.out (.inl (by omega))).symm)
            clear NXT LAST STEP NOW OTH nk nn
            have i1 : ¬ (A : Int) < 39 := by omega
            go_wp2_with fail
            go_roundw
            case rel => exact ⟨D, _, rfl, by omega, EZ.out, NM1.out⟩
            case measure => simp [intOf]
        · obtain rfl : m = 0 := by omega
          have NF := hF
          have NM := hM
          clear hF hM hm hm0
          rw [show (((0 : Nat) : Int) - 1) = -1 from rfl]
          go_wp2_with fail
          go_roundw
          case rel => exact ⟨A, rs, rfl, by omega, NF.out, NM.out⟩
          case measure => simp [intOf]
    · obtain rfl : n = 0 := by omega
      have EL := hide (tbF_all hF.out)
      have NM := hM
      clear hF hM hn hn0
      rw [show (((0 : Nat) : Int) - 1) = -1 from rfl]
      go_wp2_with fail
      go_ret
      rw [EL.out] at NM
      exact ⟨B, rfl, NM.out.2.1, Nat.le_of_lt NM.out.2.2.1, NM.out.2.2.2⟩
end Go.Proofs.Ytekdgohomaeeeab

/- PulC -/
namespace Go.Proofs.Ytekdgohomaeeeab
open Go.RowKit
set_option linter.unusedVariables false
set_option linter.unusedSimpArgs false
set_option maxHeartbeats 1000000
theorem wpList_build1 {ops : Array Oper} {rest : List Oper} {op : Oper} {a : Act} {w : World} {Q : Exit → Act → World → Prop} (hgd : op.guard = none) (T : TypeId) (i : Nat) (y : Operand) (ho : op.op = .build T #[(i, y)]) (v0 v : Value) (hy : a.eval y = v0)
    (hrun : Sem.run Try.prog (Instr.build T #[(i, v0)]) w = .ok v w) (k : wpList Try.prog ops Q rest (a.put op.dst v) w) : wpList Try.prog ops Q (op :: rest) a w := by
  refine wpList_plain hgd fun _ hK => ?_
  unfold Oper.wp execOp
  have e : (#[(i, y)] : Array (Nat × Operand)).map (fun (i, x) => (i, a.eval x)) = #[(i, v0)] := by simp [hy]
  simp only [ho, e, Sem.run_bind, hrun, Result.andThen_ok, Sem.run_pure]
  exact hK _ _ k
theorem zCho : (Try.prog.info? 58).bind (·.zero) = some (.agg (arrI (zeros 6))) := by kernel_rfl
theorem sCho : (Try.prog.info? 58).map (·.size) = some 6 := by kernel_rfl
theorem list4 (x : List Int) (hx : x.length = 4) : ∃ a b c d, x = [a, b, c, d] := by
  match x, hx with
  | [a, b, c, d], _ => exact ⟨a, b, c, d, rfl⟩
theorem builtCho (x : List Int) (hx : x.length = 4) (u : World) : Sem.run Try.prog (Instr.build 58 #[(0, .agg (arrI x))]) u = .ok (.agg (arrI (x ++ [0, 0]))) u := by
  obtain ⟨a, b, c, d, rfl⟩ := list4 x hx
  exact run_build u 58 _ _ (by kernel_rfl)
theorem cho_c (x : List Int) (hx : x.length = 4) (c e z : Int) : (x ++ [c, e]).set 4 z = x ++ [z, e] ∧ (x ++ [c, e]).set 5 z = x ++ [c, z] ∧ nth (x ++ [c, e]) 4 = c ∧ nth (x ++ [c, e]) 5 = e ∧ (x ++ [c, e]).length = 6 := by
  obtain ⟨a, b, c, d, rfl⟩ := list4 x hx
  exact ⟨rfl, rfl, rfl, rfl, rfl⟩
def ScM (w wr : World) (x : List Int) (B7 : Nat) (rs : List Int) : Prop := Blk wr w.heap.size 28 x ∧ Blk wr (w.heap.size + 1) 58 (zeros 6) ∧ Blk wr B7 58 rs ∧ w.heap.size + 1 < B7 ∧ w.grownBy wr none
theorem ScM.keep {w wr wr' : World} {x rs : List Int} {B7 : Nat} (h : ScM w wr x B7 rs) (g : wr.grownBy wr' none) : ScM w wr' x B7 rs := ⟨h.1.keep g, h.2.1.keep g, h.2.2.1.keep g, h.2.2.2.1, grown_none h.2.2.2.2 g⟩
theorem ScM.set {w wr : World} {x rs : List Int} {B7 : Nat} (h : ScM w wr x B7 rs) (k : Nat) (z : Int) : ScM w (wr.setCell ⟨B7, k, none⟩ (.int .i64 z)) x B7 (rs.set k z) := by
  have hB := h.2.2.2.1
  have g := grown_setCell wr ⟨B7, k, none⟩ (.int .i64 z)
  exact ⟨h.1.keepBut g (by simp; omega), h.2.1.keepBut g (by simp; omega), h.2.2.1.set k z, hB, grown_own h.2.2.2.2 g (by simp; omega)⟩
theorem ScM.put {w wr : World} {x rs rs' : List Int} {B7 : Nat} (h : ScM w wr x B7 rs) (hl : rs'.length = rs.length) : ScM w (putArr wr B7 rs') x B7 rs' := by
  have hB := h.2.2.2.1
  have PU := put_arr (rs' := rs') h.2.2.1 hl
  exact ⟨h.1.keepBut PU.2 (by omega), h.2.1.keepBut PU.2 (by omega), PU.1, hB, grown_own h.2.2.2.2 PU.2 (by omega)⟩
set_option maxRecDepth 100000 in
theorem pulScored_any (vd : Value) (d r x : List Int) (B : Nat) (w : World) (hd : Ints w vd d) (hdl : d.length = 40) (hB : Blk w B 64 (tbl r)) (hx : x.length = 4) (hg : goodX x = true) :
    Calls Try.prog 27 #[vd, .pointer (some ⟨B, 0, none⟩), .agg (arrI x)] w (AnsG w (.agg (arrI (x ++ [cS d x, eS d r x])))) := by
  have L2 := hide (laid2 w 28 58 x (zeros 6))
  have IX := hide (fun (k : Nat) (hk : k < 4) => index_arr x Try.underlying28 k (by omega) hx)
  have PL := hide (psN_lt hg hx)
  have GX := hide ((goodX_iff x).1 hg)
  have DV := hide (fun wr (g : w.grownBy wr none) => Ints_keep hd g)
  have TB := hide (fun wr (g : w.grownBy wr none) => hB.keep g)
  have CH := hide (fun (c e z : Int) => cho_c x hx c e z)
  have BC := builtCho x hx
  obtain ⟨ad, cp, rfl, hcp, _⟩ := hd
  have hz := zero_arr zCho
  have HDL := hide hdl
  rw [hdl]
  clear hB hg hcp hdl
  go_enter Try.func27, Try.ntmps27
  go_upto_region 1 with fail
  have L0 := hide (show w.heap.size + 1 < ((w.alloc (.cells (arrI x) 28)).alloc (.cells (arrI (zeros 6)) 58)).heap.size by simp)
  generalize (w.alloc (.cells (arrI x) 28)).alloc (.cells (arrI (zeros 6)) 58) = W1 at *
  have M1 := hide (show ScM w (W1.alloc (.cells (arrI (zeros 6)) 58)) x W1.heap.size (zeros 6) from ⟨L2.out.1.keep (grown_alloc _ _ none), L2.out.2.1.keep (grown_alloc _ _ none), Blk.new W1 _ _, L0.out, grown_none L2.out.2.2 (grown_alloc _ _ none)⟩)
  have M2 := hide (M1.out.put (rs' := x ++ [0, 0]) (by rw [(CH.out 0 0 0).2.2.2.2]; rfl))
  have BB := hide L2.out.1
  clear L2 L0
  go_upto_region 2 with (first | refine wpList_load_arr rfl 28 _ rfl _ rfl _ BB.out _ Try.underlying28 rfl (by rw [hx]; exact size4) ?_ | refine wpList_build1 rfl 58 0 _ rfl (.agg (arrI x)) (.agg (arrI (x ++ [0, 0]))) rfl (BC _) ?_ | refine wpList_store_arr rfl 58 _ _ rfl _ (zeros 6) (x ++ [0, 0]) rfl rfl M1.out.2.2.1 (by rw [(CH.out 0 0 0).2.2.2.2]; rfl) (by rw [zeros_len]; exact sCho) ?_)
  clear M1 BB BC hz
  (try simp only [Act.put])
  generalize putArr (W1.alloc _) W1.heap.size (x ++ [0, 0]) = W2 at *
  generalize W1.heap.size = B7 at *
  have BB := hide M2.out.1
  go_wp2_with (first | refine wpList_load_arr rfl 28 _ rfl _ rfl _ BB.out _ Try.underlying28 rfl (by rw [hx]; exact size4) ?_)
  clear BB
  go_loopw [17] (fun i wr => ∃ m : Nat, i = .int .i64 m ∧ m ≤ 4 ∧ Hid (ScM w wr x B7 (x ++ [scC d x m, scE d r x m 0]))) (fun i _ => 4 - (intOf i).toNat)
  case atStart => exact ⟨0, rfl, Nat.zero_le _, M2.out⟩
  case round =>
    obtain ⟨m, rfl, hm, hM⟩ := hrel
    clear M2
    by_cases hm4 : m < 4
    · have hix := IX.out m hm4
      have hPL := PL.out m hm4
      obtain ⟨g1, g2⟩ := GX.out m (by omega)
      have AT := hide (pulAt_any (m : Int) (nth x m) (by omega) (by omega) g1 g2 wr)
      rw [show (m : Int) + 4 * nth x m = ((psN x m : Nat) : Int) by unfold psN; omega] at AT
      obtain ⟨ad', c', e', h1, h2⟩ := DV.out wr hM.out.2.2.2.2
      simp only [Value.slice.injEq] at e'
      obtain ⟨rfl, e2, rfl⟩ := e'
      obtain ⟨a, rfl, h3⟩ := h2 (by rw [HDL.out]; omega)
      have cz := h3 (psN x m) (by rw [HDL.out]; omega)
      have CC := CH.out (scC d x m) (scE d r x m 0) (scC d x (m + 1))
      have c4 := hM.out.2.2.1.cell 4 (by omega)
      rw [CC.2.2.1] at c4
      have f4 := hM.out.2.2.1.free 4
      have NM := hide (hM.out.set 4 (scC d x (m + 1)))
      rw [CC.1] at NM
      have i1 : (m : Int) < 4 := by omega
      have i2 : ((psN x m : Nat) : Int) < 40 := by omega
      rw [show scC d x (m + 1) = wrap64 (scC d x m + wrap64 (sg (nth d (psN x m)) * nth d (psN x m))) from rfl] at NM
      have EC := hide (show scC d x (m + 1) = wrap64 (scC d x m + wrap64 (sg (nth d (psN x m)) * nth d (psN x m))) from rfl)
      have ZE := hide (show nth d (psN x m) = nth d (psN x m) from rfl)
      clear e2 h1 h2 h3 hM CC
      generalize hz : nth d (psN x m) = z at cz NM EC
      generalize scC d x m = C at *
      have PE := hide (rfl : psN x m = psN x m)
      generalize hP : psN x m = P at *
      have HP := hide hP
      have HZ := hide hz
      clear hP hz PE ZE
      generalize nth x m = pl at *
      go_wp2_with fail
      refine AT.out.mono ?_
      rintro e wy ⟨rfl, rfl⟩
      clear AT
      go_upto_region 6 with fail
      refine wp_region_G 14 (fun w' => w' = wy.drew) 15 (by rfl) #[false, false, false, false, false, false, false, false, false, false, false, false, false, false, false] (by rfl) (by kernel_rfl) (fun hcl => ?_)
      refine wpAnyG_take (i := 0) (v := ?vsa0) rfl (by kernel_rfl) hcl (fun _ _ _ h => h) (Or.inl ⟨by rfl, ?ysa0⟩) rfl (fun hcl => ?rsa0)
      case ysa0 => (intro w' hSw; subst hSw; go_simp; try with_reducible rfl)
      (try simp only [Act.put, sL])
      refine wpAnyG_take (i := 1) (v := .int .i64 C) rfl (by kernel_rfl) hcl (fun _ _ _ h => h) (Or.inl ⟨by rfl, ?ysa1⟩) rfl (fun hcl => ?rsa1)
      case ysa1 => (intro w' hSw; subst hSw; go_simp; try with_reducible rfl)
      (try simp only [Act.put, sL])
      refine wpAnyG_take (i := 2) (v := ?vsa2) rfl (by kernel_rfl) hcl (fun _ _ _ h => h) (Or.inl ⟨by rfl, ?ysa2⟩) rfl (fun hcl => ?rsa2)
      case ysa2 => (intro w' hSw; subst hSw; go_simp; try with_reducible rfl)
      (try simp only [Act.put, sL])
      refine wpAnyG_take (i := 3) (v := ?vsa3) rfl (by kernel_rfl) hcl (fun _ _ _ h => h) (Or.inl ⟨by rfl, ?ysa3⟩) rfl (fun hcl => ?rsa3)
      case ysa3 => (intro w' hSw; subst hSw; go_simp; try with_reducible rfl)
      (try simp only [Act.put, sL])
      refine wpAnyG_take (i := 4) (v := ?vsa4) rfl (by kernel_rfl) hcl (fun _ _ _ h => h) (Or.inl ⟨by rfl, ?ysa4⟩) rfl (fun hcl => ?rsa4)
      case ysa4 => (intro w' hSw; subst hSw; go_simp; try with_reducible rfl)
      (try simp only [Act.put, sL])
      refine wpAnyG_take (i := 5) (v := .int .i64 z) rfl (by kernel_rfl) hcl (fun _ _ _ h => h) (Or.inl ⟨by rfl, ?ysa5⟩) rfl (fun hcl => ?rsa5)
      case ysa5 => (intro w' hSw; subst hSw; go_simp; try with_reducible rfl)
      (try simp only [Act.put, sL])
      refine wpAnyG_take (i := 7) (v := ?vsa7) rfl (by kernel_rfl) hcl (fun _ _ _ h => h) (Or.inl ⟨by rfl, ?ysa7⟩) rfl (fun hcl => ?rsa7)
      case ysa7 => (intro w' hSw; subst hSw; go_simp; try with_reducible rfl)
      (try simp only [Act.put, sL])
      refine wpAnyG_take (i := 8) (v := ?vsa8) rfl (by kernel_rfl) hcl (fun _ _ _ h => h) (Or.inl ⟨by rfl, ?ysa8⟩) rfl (fun hcl => ?rsa8)
      case ysa8 => (intro w' hSw; subst hSw; go_simp; try with_reducible rfl)
      (try simp only [Act.put, sL])
      refine wpAnyG_take (i := 9) (v := ?vsa9) rfl (by kernel_rfl) hcl (fun _ _ _ h => h) (Or.inl ⟨by rfl, ?ysa9⟩) rfl (fun hcl => ?rsa9)
      case ysa9 => (intro w' hSw; subst hSw; go_simp; try with_reducible rfl)
      (try simp only [Act.put, sL])
      refine wpAnyG_take (i := 10) (v := .int .i64 z) rfl (by kernel_rfl) hcl (fun _ _ _ h => h) (Or.inl ⟨by rfl, ?ysa10⟩) rfl (fun hcl => ?rsa10)
      case ysa10 => (intro w' hSw; subst hSw; go_simp; try with_reducible rfl)
      (try simp only [Act.put, sL])
      refine wpAnyG_exec (i := 6) rfl (by kernel_rfl) hcl (fun K hK => ?_)
      (try simp only [Act.put, sL])
      go_simp
      refine (pulSign_any z _).mono ?_
      rintro e wc ⟨rfl, rfl⟩
      go_wp2_with fail
      refine hK.out _ _ (fun _ => rfl) (fun hcl => ?_)
      clear hK
      (try simp only [Act.put, sL])
      refine wpAnyG_take (i := 11) (v := .int .i64 (wrap64 (sg z * z))) rfl (by kernel_rfl) hcl (fun _ _ _ h => h) (Or.inl ⟨by rfl, ?ysa11⟩) rfl (fun hcl => ?rsa11)
      case ysa11 => (intro w' hSw; subst hSw; go_simp; rw [IntKind.wrap_i64]; simp only [wrap64])
      (try simp only [Act.put, sL])
      refine wpAnyG_take (i := 12) (v := .int .i64 (wrap64 (C + wrap64 (sg z * z)))) rfl (by kernel_rfl) hcl (fun _ _ _ h => h) (Or.inl ⟨by rfl, ?ysa12⟩) rfl (fun hcl => ?rsa12)
      case ysa12 => (intro w' hSw; subst hSw; go_simp; rw [IntKind.wrap_i64]; simp only [wrap64])
      (try simp only [Act.put, sL])
      refine wpAnyG_take (i := 13) (v := ?vsa13) rfl (by kernel_rfl) hcl (fun _ _ _ h => h) (Or.inl ⟨by rfl, ?ysa13⟩) rfl (fun hcl => ?rsa13)
      case ysa13 => (intro w' hSw; subst hSw; go_simp; try with_reducible rfl)
      (try simp only [Act.put, sL])
      refine wpAnyG_exec (i := 14) rfl (by kernel_rfl) hcl (fun K hK => ?_)
      (try simp only [Act.put, sL])
      go_simp
      go_wp2_with fail
      refine hK.out _ _ (fun h => by cases h) (fun hcl => ?_)
      clear hK
      (try simp only [Act.put, sL])
      refine wpAnyG_of_any _ _ _ _ (by rfl) ?_
      refine wpAny_done (by kernel_rfl) ?_ _
      have NM1 := hide (NM.out.keep (gw_start _))
      generalize (wy.setCell ⟨B7, 4, none⟩ (.int .i64 (wrap64 (C + wrap64 (sg z * z))))).drew = wz at *
      rw [← EC.out] at NM1
      clear NM EC c4 f4 cz hix g1 g2
      have BB := hide NM1.out.1
      go_wp2_with (first | refine wpList_load_arr rfl 28 _ rfl _ rfl _ BB.out _ Try.underlying28 rfl (by rw [hx]; exact size4) ?_)
      clear BB
      go_loopw [39] (fun i wr => ∃ u : Nat, i = .int .i64 u ∧ u ≤ 4 ∧ Hid (ScM w wr x B7 (x ++ [scC d x (m + 1), scE d r x m u]))) (fun i _ => 4 - (intOf i).toNat)
      case atStart => exact ⟨0, rfl, Nat.zero_le _, NM1.out⟩
      case round =>
        obtain ⟨u, rfl, hu, hM⟩ := hrel
        clear NM1
        by_cases hu4 : u < 4
        · have hix := IX.out u hu4
          have hPL2 := PL.out u hu4
          obtain ⟨g1, g2⟩ := GX.out u (by omega)
          have AT := hide (pulAt_any (u : Int) (nth x u) (by omega) (by omega) g1 g2 wr)
          rw [show (u : Int) + 4 * nth x u = ((psN x u : Nat) : Int) by unfold psN; omega] at AT
          obtain ⟨ad', c', e', h1, h2⟩ := DV.out wr hM.out.2.2.2.2
          simp only [Value.slice.injEq] at e'
          obtain ⟨e1, e2, rfl⟩ := e'
          obtain ⟨a', rfl, h3⟩ := h2 (by rw [HDL.out]; omega)
          obtain rfl : a = a' := by simpa using e1
          have cz := h3 P (by rw [HDL.out]; omega)
          have cy := h3 (psN x u) (by rw [HDL.out]; omega)
          rw [HZ.out] at cz
          have ct := (TB.out wr hM.out.2.2.2.2).cell (P * 40 + psN x u) (by rw [tbl_len]; omega)
          rw [tbl_at r P (psN x u) hPL hPL2] at ct
          have CC := CH.out (scC d x (m + 1)) (scE d r x m u) (scE d r x m (u + 1))
          have c5 := hM.out.2.2.1.cell 5 (by omega)
          rw [CC.2.2.2.1] at c5
          have f5 := hM.out.2.2.1.free 5
          have NM := hide (hM.out.set 5 (scE d r x m (u + 1)))
          rw [CC.2.1] at NM
          have ES := hide (show scE d r x m (u + 1) = scE d r x m u + sg z * sg (nth d (psN x u)) * enN r P (psN x u) by
            rw [scE_step]; unfold scT ssN; rw [HP.out, HZ.out])
          have b1 := scT_bd d r x m u
          rw [show scT d r x m u = sg z * sg (nth d (psN x u)) * enN r P (psN x u) by unfold scT ssN; rw [HP.out, HZ.out]] at b1
          have b2 := scE_bd d r x m (u + 1) (by omega) (by omega)
          rw [ES.out] at b2 NM
          have b3 : -1 ≤ sg z * sg (nth d (psN x u)) ∧ sg z * sg (nth d (psN x u)) ≤ 1 := by
            rcases sg_cases z with ⟨_, h⟩ | ⟨_, h⟩ <;> rcases sg_cases (nth d (psN x u)) with ⟨_, g⟩ | ⟨_, g⟩ <;> rw [h, g] <;> omega
          have i3 : (u : Int) < 4 := by omega
          have i4 : ((psN x u : Nat) : Int) < 40 := by omega
          clear e1 e2 h1 h2 h3 hM CC
          generalize scE d r x m u = E at *
          generalize enN r P (psN x u) = n at *
          generalize nth d (psN x u) = y at *
          generalize psN x u = Q at *
          generalize nth x u = ql at *
          have W1 := wrapI (sg z * sg y) (by omega) (by omega)
          have W2 := wrapI (sg z * sg y * n) (by omega) (by omega)
          have W3 := wrapI (E + sg z * sg y * n) (by omega) (by omega)
          go_wp2_with fail
          refine AT.out.mono ?_
          rintro e wy ⟨rfl, rfl⟩
          clear AT
          go_upto_region 11 with fail
          refine wp_region_G 23 (fun w' => w' = wy.drew) 24 (by rfl) #[false, false, false, false, false, false, false, false, false, false, false, false, false, false, false, false, false, false, false, false, false, false, false, false] (by rfl) (by kernel_rfl) (fun hcl => ?_)
          refine wpAnyG_take (i := 0) (v := ?vsb0) rfl (by kernel_rfl) hcl (fun _ _ _ h => h) (Or.inl ⟨by rfl, ?ysb0⟩) rfl (fun hcl => ?rsb0)
          case ysb0 => (intro w' hSw; subst hSw; go_simp; try with_reducible rfl)
          (try simp only [Act.put, sL])
          refine wpAnyG_take (i := 1) (v := .int .i64 E) rfl (by kernel_rfl) hcl (fun _ _ _ h => h) (Or.inl ⟨by rfl, ?ysb1⟩) rfl (fun hcl => ?rsb1)
          case ysb1 => (intro w' hSw; subst hSw; go_simp; try with_reducible rfl)
          (try simp only [Act.put, sL])
          refine wpAnyG_take (i := 2) (v := ?vsb2) rfl (by kernel_rfl) hcl (fun _ _ _ h => h) (Or.inl ⟨by rfl, ?ysb2⟩) rfl (fun hcl => ?rsb2)
          case ysb2 => (intro w' hSw; subst hSw; go_simp; try with_reducible rfl)
          (try simp only [Act.put, sL])
          refine wpAnyG_take (i := 3) (v := ?vsb3) rfl (by kernel_rfl) hcl (fun _ _ _ h => h) (Or.inl ⟨by rfl, ?ysb3⟩) rfl (fun hcl => ?rsb3)
          case ysb3 => (intro w' hSw; subst hSw; go_simp; try with_reducible rfl)
          (try simp only [Act.put, sL])
          refine wpAnyG_take (i := 4) (v := ?vsb4) rfl (by kernel_rfl) hcl (fun _ _ _ h => h) (Or.inl ⟨by rfl, ?ysb4⟩) rfl (fun hcl => ?rsb4)
          case ysb4 => (intro w' hSw; subst hSw; go_simp; try with_reducible rfl)
          (try simp only [Act.put, sL])
          refine wpAnyG_take (i := 5) (v := .int .i64 z) rfl (by kernel_rfl) hcl (fun _ _ _ h => h) (Or.inl ⟨by rfl, ?ysb5⟩) rfl (fun hcl => ?rsb5)
          case ysb5 => (intro w' hSw; subst hSw; go_simp; try with_reducible rfl)
          (try simp only [Act.put, sL])
          refine wpAnyG_take (i := 7) (v := ?vsb7) rfl (by kernel_rfl) hcl (fun _ _ _ h => h) (Or.inl ⟨by rfl, ?ysb7⟩) rfl (fun hcl => ?rsb7)
          case ysb7 => (intro w' hSw; subst hSw; go_simp; try with_reducible rfl)
          (try simp only [Act.put, sL])
          refine wpAnyG_take (i := 8) (v := ?vsb8) rfl (by kernel_rfl) hcl (fun _ _ _ h => h) (Or.inl ⟨by rfl, ?ysb8⟩) rfl (fun hcl => ?rsb8)
          case ysb8 => (intro w' hSw; subst hSw; go_simp; try with_reducible rfl)
          (try simp only [Act.put, sL])
          refine wpAnyG_take (i := 9) (v := ?vsb9) rfl (by kernel_rfl) hcl (fun _ _ _ h => h) (Or.inl ⟨by rfl, ?ysb9⟩) rfl (fun hcl => ?rsb9)
          case ysb9 => (intro w' hSw; subst hSw; go_simp; try with_reducible rfl)
          (try simp only [Act.put, sL])
          refine wpAnyG_take (i := 10) (v := .int .i64 y) rfl (by kernel_rfl) hcl (fun _ _ _ h => h) (Or.inl ⟨by rfl, ?ysb10⟩) rfl (fun hcl => ?rsb10)
          case ysb10 => (intro w' hSw; subst hSw; go_simp; try with_reducible rfl)
          (try simp only [Act.put, sL])
          refine wpAnyG_take (i := 13) (v := ?vsb13) rfl (by kernel_rfl) hcl (fun _ _ _ h => h) (Or.inl ⟨by rfl, ?ysb13⟩) rfl (fun hcl => ?rsb13)
          case ysb13 => (intro w' hSw; subst hSw; go_simp; try with_reducible rfl)
          (try simp only [Act.put, sL])
          refine wpAnyG_take (i := 14) (v := ?vsb14) rfl (by kernel_rfl) hcl (fun _ _ _ h => h) (Or.inl ⟨by rfl, ?ysb14⟩) rfl (fun hcl => ?rsb14)
          case ysb14 => (intro w' hSw; subst hSw; go_simp; try with_reducible rfl)
          (try simp only [Act.put, sL])
          refine wpAnyG_take (i := 15) (v := ?vsb15) rfl (by kernel_rfl) hcl (fun _ _ _ h => h) (Or.inl ⟨by rfl, ?ysb15⟩) rfl (fun hcl => ?rsb15)
          case ysb15 => (intro w' hSw; subst hSw; go_simp; try with_reducible rfl)
          (try simp only [Act.put, sL])
          refine wpAnyG_take (i := 16) (v := ?vsb16) rfl (by kernel_rfl) hcl (fun _ _ _ h => h) (Or.inl ⟨by rfl, ?ysb16⟩) rfl (fun hcl => ?rsb16)
          case ysb16 => (intro w' hSw; subst hSw; go_simp; try with_reducible rfl)
          (try simp only [Act.put, sL])
          refine wpAnyG_take (i := 17) (v := ?vsb17) rfl (by kernel_rfl) hcl (fun _ _ _ h => h) (Or.inl ⟨by rfl, ?ysb17⟩) rfl (fun hcl => ?rsb17)
          case ysb17 => (intro w' hSw; subst hSw; go_simp; try with_reducible rfl)
          (try simp only [Act.put, sL])
          refine wpAnyG_take (i := 18) (v := ?vsb18) rfl (by kernel_rfl) hcl (fun _ _ _ h => h) (Or.inl ⟨by rfl, ?ysb18⟩) rfl (fun hcl => ?rsb18)
          case ysb18 => (intro w' hSw; subst hSw; go_simp; try with_reducible rfl)
          (try simp only [Act.put, sL])
          refine wpAnyG_take (i := 19) (v := .int .i64 n) rfl (by kernel_rfl) hcl (fun _ _ _ h => h) (Or.inl ⟨by rfl, ?ysb19⟩) rfl (fun hcl => ?rsb19)
          case ysb19 => (intro w' hSw; subst hSw; go_simp; try with_reducible rfl)
          (try simp only [Act.put, sL])
          refine wpAnyG_exec (i := 6) rfl (by kernel_rfl) hcl (fun K hK => ?_)
          (try simp only [Act.put, sL])
          go_simp
          refine (pulSign_any z _).mono ?_
          rintro e wc ⟨rfl, rfl⟩
          go_wp2_with fail
          refine hK.out _ _ (fun _ => rfl) (fun hcl => ?_)
          clear hK
          (try simp only [Act.put, sL])
          refine wpAnyG_exec (i := 11) rfl (by kernel_rfl) hcl (fun K hK => ?_)
          (try simp only [Act.put, sL])
          go_simp
          refine (pulSign_any y _).mono ?_
          rintro e wc ⟨rfl, rfl⟩
          go_wp2_with fail
          refine hK.out _ _ (fun _ => rfl) (fun hcl => ?_)
          clear hK
          (try simp only [Act.put, sL])
          refine wpAnyG_take (i := 12) (v := .int .i64 (sg z * sg y)) rfl (by kernel_rfl) hcl (fun _ _ _ h => h) (Or.inl ⟨by rfl, ?ysb12⟩) rfl (fun hcl => ?rsb12)
          case ysb12 => (intro w' hSw; subst hSw; go_simp; try simp only [W1])
          (try simp only [Act.put, sL])
          refine wpAnyG_take (i := 20) (v := .int .i64 (sg z * sg y * n)) rfl (by kernel_rfl) hcl (fun _ _ _ h => h) (Or.inl ⟨by rfl, ?ysb20⟩) rfl (fun hcl => ?rsb20)
          case ysb20 => (intro w' hSw; subst hSw; go_simp; try simp only [W2])
          (try simp only [Act.put, sL])
          refine wpAnyG_take (i := 21) (v := .int .i64 (E + sg z * sg y * n)) rfl (by kernel_rfl) hcl (fun _ _ _ h => h) (Or.inl ⟨by rfl, ?ysb21⟩) rfl (fun hcl => ?rsb21)
          case ysb21 => (intro w' hSw; subst hSw; go_simp; try simp only [W3])
          (try simp only [Act.put, sL])
          refine wpAnyG_take (i := 22) (v := ?vsb22) rfl (by kernel_rfl) hcl (fun _ _ _ h => h) (Or.inl ⟨by rfl, ?ysb22⟩) rfl (fun hcl => ?rsb22)
          case ysb22 => (intro w' hSw; subst hSw; go_simp; try with_reducible rfl)
          (try simp only [Act.put, sL])
          refine wpAnyG_exec (i := 23) rfl (by kernel_rfl) hcl (fun K hK => ?_)
          (try simp only [Act.put, sL])
          go_simp
          go_wp2_with fail
          refine hK.out _ _ (fun h => by cases h) (fun hcl => ?_)
          clear hK
          (try simp only [Act.put, sL])
          refine wpAnyG_of_any _ _ _ _ (by rfl) ?_
          refine wpAny_done (by kernel_rfl) ?_ _
          have NM1 := hide (NM.out.keep (gw_start _))
          generalize (wy.setCell ⟨B7, 5, none⟩ (.int .i64 (E + sg z * sg y * n))).drew = wz at *
          rw [← ES.out] at NM1
          clear NM ES c5 f5 cz cy ct hix g1 g2 W1 W2 W3 b1 b2 b3
          go_wp2_with fail
          go_roundw
          case rel => exact ⟨u + 1, by go_num, by omega, NM1.out⟩
          case measure => simp [intOf]; omega
        · obtain rfl : u = 4 := by omega
          have NM := hM
          rw [scE_next] at NM
          clear hM
          rw [show ((4 : Nat) : Int) = 4 from rfl]
          go_wp2_with fail
          go_roundw
          case rel => exact ⟨m + 1, by go_num, by omega, NM.out⟩
          case measure => simp [intOf]; omega
    · obtain rfl : m = 4 := by omega
      have BA := hide hM.out.2.2.1
      have BZ := hide hM.out.2.1
      have GG := hide hM.out.2.2.2.2
      have L6 := (CH.out (scC d x 4) (scE d r x 4 0) 0).2.2.2.2
      rw [show scC d x 4 = cS d x from rfl, show scE d r x 4 0 = eS d r x from rfl] at BA L6
      clear hM
      generalize x ++ [cS d x, eS d r x] = X at *
      have HL6 := hide L6
      clear L6
      rw [show ((4 : Nat) : Int) = 4 from rfl]
      go_wp2_with (first | refine wpList_load_arr rfl 58 _ rfl _ rfl _ BA.out _ Try.underlying58 rfl (by rw [HL6.out]; exact sCho) ?_ | refine wpList_store_arr rfl 58 _ _ rfl _ (zeros 6) X rfl rfl BZ.out (by rw [HL6.out, zeros_len]) (by rw [zeros_len]; exact sCho) ?_)
      have PU := put_arr (rs' := X) BZ.out (by rw [HL6.out, zeros_len])
      have hlv := loadVar_arr PU.1 _ Try.underlying58 rfl (by rw [HL6.out]; exact sCho)
      have GF := hide (grown_own GG.out PU.2 (by omega))
      refine bodyPost_ret (v := .agg (arrI X)) ?_ rfl ⟨rfl, GF.out⟩
      simp [results, Try.results27, asAddr, Act.put, hlv]
end Go.Proofs.Ytekdgohomaeeeab

/- PulD -/
namespace Go.Proofs.Ytekdgohomaeeeab
open Go.RowKit
set_option linter.unusedVariables false
set_option linter.unusedSimpArgs false
set_option maxHeartbeats 1000000
structure Frm (base : Nat) (w w' : World) : Prop where
  os : w'.os = w.os
  tape : w'.tape = w.tape
  output : w'.output = w.output
  size : w.heap.size ≤ w'.heap.size
  block : ∀ k, base ≤ k → k < w.heap.size → w'.heap[k]? = w.heap[k]?
theorem Frm.trans {base : Nat} {a b c : World} (h : Frm base a b) (k : Frm base b c) : Frm base a c :=
  ⟨k.os.trans h.os, k.tape.trans h.tape, k.output.trans h.output, Nat.le_trans h.size k.size, fun i hi hs => (k.block i hi (Nat.lt_of_lt_of_le hs h.size)).trans (h.block i hi hs)⟩
theorem Frm.of {base : Nat} {a b : World} (h : a.grownBy b none) : Frm base a b := ⟨h.os, h.tape, h.output, h.size, fun i _ hs => h.block i hs (by simp)⟩
theorem Frm.more {base : Nat} {a b c : World} {r : Option Nat} (h : Frm base a b) (k : b.grownBy c r) (hr : ∀ i, r = some i → a.heap.size ≤ i) : Frm base a c :=
  ⟨k.os.trans h.os, k.tape.trans h.tape, k.output.trans h.output, Nat.le_trans h.size k.size, fun i hi hs => (k.block i (Nat.lt_of_lt_of_le hs h.size) (fun e => by have := hr i e.symm; omega)).trans (h.block i hi hs)⟩
theorem Blk.frm {base : Nat} {w w' : World} {b : Nat} {T : TypeId} {rs : List Int} (h : Blk w b T rs) (g : Frm base w w') (hb : base ≤ b) : Blk w' b T rs := (g.block b hb h.lt).trans h
theorem heap_grown {w w' : World} {b : Nat} {o : Obj} {r : Option Nat} (h : w.heap[b]? = some o) (g : w.grownBy w' r) (hb : some b ≠ r) : w'.heap[b]? = some o := (g.block b (lt_of_some h) hb).trans h
def Stab (base : Nat) (Inv : Nat → World → Prop) : Prop := ∀ m wr wr' r, Inv m wr → wr.grownBy wr' r → (∀ b, r = some b → base ≤ b) → Inv m wr'
def Vis (base n : Nat) (caps : Array Value) (Inv : Nat → World → Prop) (ix : Nat → List Int) (N : Nat) : Prop :=
  ∀ m wr, m < N → base ≤ wr.heap.size → Inv m wr → Calls Try.prog n (#[.agg (arrI (ix m))] ++ caps) wr fun e w' => e = .returned (.tuple #[]) ∧ Inv (m + 1) w' ∧ Frm base wr w'
set_option maxRecDepth 100000 in
theorem pulWalkTrack_any (n : Nat) (caps : Array Value) (hen : ∀ args u, (callFunc n args).run Try.prog u = .ok (.enter n args) u) (base : Nat) (Inv : Nat → World → Prop) (hst : Stab base Inv) (x : List Int) (hx : x.length = 4) (t : Nat) (ht : t < 4)
    (hV : Vis base n caps Inv (fun p => x.set t (p : Int)) 10) (w : World) (hb : base ≤ w.heap.size) (hI : Inv 0 w) :
    Calls Try.prog 23 #[.agg (arrI x), .int .i64 (t : Int), .func (.func n) #[] caps] w fun e w' => e = .returned (.tuple #[]) ∧ Inv 10 w' ∧ Frm base w w' := by
  have HST := hide hst
  have HV := hide hV
  have HB := hide hb
  have W0 := hide (show Blk (w.alloc (.cells (arrI x) 28)) w.heap.size 28 x ∧ Inv 0 (w.alloc (.cells (arrI x) 28)) ∧ Frm base w (w.alloc (.cells (arrI x) 28)) from ⟨Blk.new w _ _, hst 0 w _ none hI (grown_alloc _ _ none) (fun b e => by cases e), Frm.of (grown_alloc _ _ none)⟩)
  clear hst hV hb hI
  go_enter Try.func23, Try.ntmps23
  go_wp2_with fail
  generalize w.alloc (.cells (arrI x) 28) = W1 at *
  go_loopw [7] (fun i wr => ∃ (p : Nat) (y : List Int), i = .int .i64 p ∧ p ≤ 10 ∧ Hid (y.length = 4 ∧ ∀ z : Int, y.set t z = x.set t z) ∧ Hid (Blk wr w.heap.size 28 y ∧ Inv p wr ∧ Frm base w wr)) (fun i _ => 10 - (intOf i).toNat)
  case atStart => exact ⟨0, x, rfl, Nat.zero_le _, ⟨hx, fun _ => rfl⟩, W0.out⟩
  case round =>
    obtain ⟨p, y, rfl, hp, hy, hM⟩ := hrel
    clear W0
    by_cases hp10 : p < 10
    · have ct := hM.out.1.cell t (by have := hy.out.1; omega)
      have ft := hM.out.1.free t
      have gs := grown_setCell wr ⟨w.heap.size, t, none⟩ (.int .i64 (p : Int))
      have NM := hide (show Blk (wr.setCell ⟨w.heap.size, t, none⟩ (.int .i64 (p : Int))) w.heap.size 28 (x.set t (p : Int)) ∧ Inv p (wr.setCell ⟨w.heap.size, t, none⟩ (.int .i64 (p : Int))) ∧ Frm base w (wr.setCell ⟨w.heap.size, t, none⟩ (.int .i64 (p : Int))) from
        ⟨by have := hM.out.1.set t (p : Int); rw [hy.out.2] at this; exact this, HST.out p wr _ _ hM.out.2.1 gs (fun b e => by have := HB.out; cases e; exact this), hM.out.2.2.more gs (fun b e => by cases e; exact Nat.le_refl _)⟩)
      have NY := hide (show (x.set t (p : Int)).length = 4 ∧ ∀ z : Int, (x.set t (p : Int)).set t z = x.set t z from ⟨by simpa using hx, fun z => by rw [List.set_set]⟩)
      have i1 : (p : Int) < 10 := by omega
      have i2 : (t : Int) < 4 := by omega
      clear hy hM gs
      generalize nth y t = q at *
      go_upto_region 5 with fail
      generalize wr.setCell ⟨w.heap.size, t, none⟩ (.int .i64 (p : Int)) = W2 at *
      have BB := hide NM.out.1
      have V1 := hide (HV.out p W2 hp10 (Nat.le_trans HB.out NM.out.2.2.size) NM.out.2.1)
      go_wp2_with (first | refine wpList_load_arr rfl 28 _ rfl _ rfl _ BB.out _ Try.underlying28 rfl (by rw [NY.out.1]; exact size4) ?_)
      refine V1.out.mono ?_
      rintro e w3 ⟨rfl, j3, f3⟩
      have N3 := hide (show Blk w3 w.heap.size 28 (x.set t (p : Int)) ∧ Inv (p + 1) w3 ∧ Frm base w w3 from ⟨NM.out.1.frm f3 HB.out, j3, NM.out.2.2.trans f3⟩)
      clear V1 BB NM j3 f3
      go_wp2_with fail
      go_roundw
      case rel => exact ⟨p + 1, _, by go_num, by omega, NY.out, N3.out⟩
      case measure => simp [intOf]; omega
    · obtain rfl : p = 10 := by omega
      have F := hide hM.out.2
      clear hM hy HV
      rw [show ((10 : Nat) : Int) = 10 from rfl]
      go_wp2_with fail
      go_end0
      exact ⟨rfl, F.out⟩
end Go.Proofs.Ytekdgohomaeeeab

/- Better -/
namespace Go.Proofs.Ytekdgohomaeeeab
open Go.RowKit
set_option maxHeartbeats 1000000
def mulRen : Go.Shelf.Ren := ⟨fun _ => 43, fun n => if n = 46 then 65 else 67, fun n => n⟩
theorem mulLays : Go.Proofs.Lays.n264 Try.prog mulRen where
  mixed := by kernel_rfl
  f264 := by kernel_rfl
  t46 := by kernel_rfl
  a46 := fun _ => by kernel_rfl
  z46 := fun _ => by kernel_rfl
  v46 := fun _ => by kernel_rfl
  t53 := by kernel_rfl
  a53 := fun _ => by kernel_rfl
  z53 := fun _ => by kernel_rfl
  v53 := fun _ => by kernel_rfl
theorem mul64_nat (x y : Nat) (hx : x < 18446744073709551616) (hy : y < 18446744073709551616) (w : World) :
    Calls Try.prog 43 #[.int .u64 x, .int .u64 y] w fun e w' => e = .returned (.tuple #[.int .u64 ((x * y / 18446744073709551616 : Nat) : Int), .int .u64 ((x * y % 18446744073709551616 : Nat) : Int)]) ∧ w' = w :=
  Any.bits_Mul64 mulLays x y hx hy w
theorem mul64_any (x y : Int) (hx0 : 0 ≤ x) (hy0 : 0 ≤ y) (hx : x < 18446744073709551616) (hy : y < 18446744073709551616) (w : World) :
    Calls Try.prog 43 #[.int .u64 x, .int .u64 y] w fun e w' => ∃ h l : Int, 0 ≤ h ∧ h < 18446744073709551616 ∧ 0 ≤ l ∧ l < 18446744073709551616 ∧ Hid (h * 18446744073709551616 + l = x * y) ∧ e = .returned (.tuple #[.int .u64 h, .int .u64 l]) ∧ w' = w := by
  obtain ⟨x, rfl⟩ := Int.eq_ofNat_of_zero_le hx0
  obtain ⟨y, rfl⟩ := Int.eq_ofNat_of_zero_le hy0
  refine (mul64_nat x y (by omega) (by omega) w).mono fun e w' h => ?_
  have hm : x * y ≤ 18446744073709551615 * 18446744073709551615 := Nat.mul_le_mul (by omega) (by omega)
  have hc : (x : Int) * y = ((x * y : Nat) : Int) := by simp
  refine ⟨_, _, ?_, ?_, ?_, ?_, ?_, h.1, h.2⟩
  all_goals (try unfold Hid)
  all_goals (try rw [hc])
  all_goals (generalize x * y = z at *)
  all_goals omega
theorem add64_0 (x y : Int) (hx : 0 ≤ x) (hy : 0 ≤ y) (w : World) : (callFunc 44 #[.int .u64 x, .int .u64 y, .int .u64 0]).run Try.prog w =
    .ok (.value (.tuple #[.int .u64 ((x + y) % 18446744073709551616), .int .u64 ((x + y) / 18446744073709551616)])) w := by
  rw [run_callFunc_extern Try.func44 (by kernel_rfl) (by kernel_rfl) (by kernel_rfl) (e := add64Entry) (by kernel_rfl), run_add64 x y 0 hx hy (by omega) (by omega)]
  simp only [Result.andThen, Int.add_zero]
theorem square_math (u v h l c la f m cy mm : Int) (hu : 0 ≤ u) (hu' : u < 9223372036854775808) (hv : 0 ≤ v) (hv' : v < 9223372036854775808)
    (e1 : h * 18446744073709551616 + l = u * u) (e2 : c * 18446744073709551616 + la = l * v) (e3 : f * 18446744073709551616 + m = h * v)
    (l0 : 0 ≤ l) (l1 : l < 18446744073709551616) (hf : 0 ≤ f) (hm : 0 ≤ m) (hm' : m < 18446744073709551616) (hc : 0 ≤ c) (hc' : c < 18446744073709551616)
    (e4 : cy = (m + c) / 18446744073709551616) (e5 : mm = (m + c) % 18446744073709551616) :
    (f + cy) * 340282366920938463463374607431768211456 + mm * 18446744073709551616 + la = u * u * v ∧ 0 ≤ f + cy ∧ f + cy < 18446744073709551616 ∧ 0 ≤ mm ∧ mm < 18446744073709551616 := by
  have hv2 : u * u * v = (h * v) * 18446744073709551616 + l * v := by
    rw [← e1, Int.add_mul, Int.mul_right_comm]
  have hb : h ≤ 4611686018427387903 := by
    have : u * u ≤ 9223372036854775807 * 9223372036854775807 := Int.mul_le_mul (by omega) (by omega) hu (by omega)
    omega
  have hf2 : f < 18446744073709551616 - 1 := by
    have : h * v ≤ 4611686018427387903 * 9223372036854775807 := Int.mul_le_mul hb (by omega) hv (by omega)
    omega
  generalize u * u * v = R at *
  generalize h * v = S at *
  generalize l * v = T at *
  subst e4 e5
  refine ⟨by omega, by omega, by omega, by omega, by omega⟩
theorem square_any (x y : Int) (hx : x ≤ 9223372036854775807) (hy : 0 ≤ y) (hy' : y ≤ 9223372036854775807) (w : World) :
    Calls Try.prog 41 #[.int .i64 x, .int .i64 y] w fun e w' => ∃ p0 p1 p2 : Int, ∃ (o : Array Value) (t : TypeId), (0 ≤ p0 ∧ p0 < 18446744073709551616 ∧ 0 ≤ p1 ∧ p1 < 18446744073709551616 ∧ 0 ≤ p2 ∧ p2 < 18446744073709551616) ∧
      p0 * 340282366920938463463374607431768211456 + p1 * 18446744073709551616 + p2 = pos0 x * pos0 x * y ∧
      e = .returned (.agg #[.int .u64 p0, .int .u64 p1, .int .u64 p2]) ∧ w' = w.alloc (.cells o t) := by
  by_cases hn : x < 0
  · have hp : pos0 x = 0 := by unfold pos0; rw [if_pos hn]
    rw [hp]; clear hp
    go_enter Try.func41, Try.ntmps41
    go_wp2_with fail
    refine (mul64_any _ _ (by omega) (by omega) (by omega) (by omega) _).mono ?_
    rintro e w1 ⟨h, l, h0, h1, l0, l1, E1, rfl, rfl⟩
    go_wp2_with fail
    refine (mul64_any _ _ (by omega) (by omega) (by omega) (by omega) _).mono ?_
    rintro e w2 ⟨c, la, c0, c1, la0, la1, E2, rfl, rfl⟩
    go_wp2_with fail
    refine (mul64_any _ _ (by omega) (by omega) (by omega) (by omega) _).mono ?_
    rintro e w3 ⟨f, m, f0, f1, m0, m1, E3, rfl, rfl⟩
    obtain ⟨q1, q2, q3, q4, q5⟩ := square_math 0 y h l c la f m _ _ (by omega) (by omega) hy (by omega) E1.out E2.out E3.out l0 l1 f0 m0 m1 c0 c1 rfl rfl
    have Q1 : Hid _ := q1
    clear q1
    go_wp2_with (simp only [add64_0 m c m0 c0])
    refine bodyPost_ret (v := .agg #[.int .u64 (f + (m + c) / 18446744073709551616), .int .u64 ((m + c) % 18446744073709551616), .int .u64 la]) (by simp [results, Try.results41, go_sem]) rfl ?_
    exact ⟨_, _, _, _, _, ⟨q2, q3, q4, q5, la0, la1⟩, Q1.out, rfl, rfl⟩
  · have hp : pos0 x = x := by unfold pos0; rw [if_neg hn]
    rw [hp]; clear hp
    go_enter Try.func41, Try.ntmps41
    go_wp2_with fail
    refine (mul64_any _ _ (by omega) (by omega) (by omega) (by omega) _).mono ?_
    rintro e w1 ⟨h, l, h0, h1, l0, l1, E1, rfl, rfl⟩
    go_wp2_with fail
    refine (mul64_any _ _ (by omega) (by omega) (by omega) (by omega) _).mono ?_
    rintro e w2 ⟨c, la, c0, c1, la0, la1, E2, rfl, rfl⟩
    go_wp2_with fail
    refine (mul64_any _ _ (by omega) (by omega) (by omega) (by omega) _).mono ?_
    rintro e w3 ⟨f, m, f0, f1, m0, m1, E3, rfl, rfl⟩
    obtain ⟨q1, q2, q3, q4, q5⟩ := square_math x y h l c la f m _ _ (by omega) (by omega) hy (by omega) E1.out E2.out E3.out l0 l1 f0 m0 m1 c0 c1 rfl rfl
    have Q1 : Hid _ := q1
    clear q1
    go_wp2_with (simp only [add64_0 m c m0 c0])
    refine bodyPost_ret (v := .agg #[.int .u64 (f + (m + c) / 18446744073709551616), .int .u64 ((m + c) % 18446744073709551616), .int .u64 la]) (by simp [results, Try.results41, go_sem]) rfl ?_
    exact ⟨_, _, _, _, _, ⟨q2, q3, q4, q5, la0, la1⟩, Q1.out, rfl, rfl⟩
end Go.Proofs.Ytekdgohomaeeeab

/- BetterB -/
namespace Go.Proofs.Ytekdgohomaeeeab
open Go.RowKit
set_option maxHeartbeats 1000000
def num3 (a b c : Int) : Int := a * 340282366920938463463374607431768211456 + b * 18446744073709551616 + c
theorem above_math (p0 p1 p2 q0 q1 q2 : Int) (a1 : 0 ≤ p1) (a2 : p1 < 18446744073709551616) (a3 : 0 ≤ p2) (a4 : p2 < 18446744073709551616) (b1 : 0 ≤ q1) (b2 : q1 < 18446744073709551616) (b3 : 0 ≤ q2) (b4 : q2 < 18446744073709551616) :
    (p0 ≠ q0 → decide (q0 < p0) = decide (num3 q0 q1 q2 < num3 p0 p1 p2)) ∧ (p0 = q0 → p1 ≠ q1 → decide (q1 < p1) = decide (num3 q0 q1 q2 < num3 p0 p1 p2)) ∧
    (p0 = q0 → p1 = q1 → decide (q2 < p2) = decide (num3 q0 q1 q2 < num3 p0 p1 p2)) := by
  unfold num3
  refine ⟨fun h => ?_, fun h h' => ?_, fun h h' => ?_⟩ <;> (rw [decide_eq_decide]; omega)
end Go.Proofs.Ytekdgohomaeeeab

/- BtrG -/
namespace Go.Proofs.Ytekdgohomaeeeab
open Go.RowKit
set_option maxHeartbeats 1000000
theorem gb_drew {W w : World} (h : W.grownBy w none) : W.grownBy w.drew none := grown_drew h
theorem gb_alloc {W w : World} {o : Obj} (h : W.grownBy w none) : W.grownBy (w.alloc o) none := grown_none h (grown_alloc _ _ none)
theorem aboveG_any (p0 p1 p2 q0 q1 q2 : Int) (a1 : 0 ≤ p1) (a2 : p1 < 18446744073709551616) (a3 : 0 ≤ p2) (a4 : p2 < 18446744073709551616) (b1 : 0 ≤ q1) (b2 : q1 < 18446744073709551616) (b3 : 0 ≤ q2) (b4 : q2 < 18446744073709551616) (w : World) :
    Calls Try.prog 40 #[.agg #[.int .u64 p0, .int .u64 p1, .int .u64 p2], .agg #[.int .u64 q0, .int .u64 q1, .int .u64 q2]] w fun e w' => e = .returned (.bool (decide (num3 q0 q1 q2 < num3 p0 p1 p2))) ∧ w.grownBy w' none := by
  obtain ⟨f1, f2, f3⟩ := above_math p0 p1 p2 q0 q1 q2 a1 a2 a3 a4 b1 b2 b3 b4
  have F1 : Hid (p0 ≠ q0 → decide (q0 < p0) = decide (num3 q0 q1 q2 < num3 p0 p1 p2)) := f1
  have F2 : Hid (p0 = q0 → p1 ≠ q1 → decide (q1 < p1) = decide (num3 q0 q1 q2 < num3 p0 p1 p2)) := f2
  have F3 : Hid (p0 = q0 → p1 = q1 → decide (q2 < p2) = decide (num3 q0 q1 q2 < num3 p0 p1 p2)) := f3
  clear f1 f2 f3
  generalize decide (num3 q0 q1 q2 < num3 p0 p1 p2) = R at *
  have i0 : ∀ w, (Instr.index 68 (.agg #[.int .u64 p0, .int .u64 p1, .int .u64 p2]) (.int .i64 0)).run Try.prog w = .ok (.int .u64 p0) w := fun _ => by kernel_rfl
  have i1 : ∀ w, (Instr.index 68 (.agg #[.int .u64 p0, .int .u64 p1, .int .u64 p2]) (.int .i64 1)).run Try.prog w = .ok (.int .u64 p1) w := fun _ => by kernel_rfl
  have i2 : ∀ w, (Instr.index 68 (.agg #[.int .u64 p0, .int .u64 p1, .int .u64 p2]) (.int .i64 2)).run Try.prog w = .ok (.int .u64 p2) w := fun _ => by kernel_rfl
  go_enter Try.func40, Try.ntmps40
  go_wp2_with fail
  go_loop [8] (fun i => (i = .int .i64 0) ∨ (i = .int .i64 1 ∧ Hid (p0 = q0)) ∨ (i = .int .i64 2 ∧ Hid (p0 = q0) ∧ Hid (p1 = q1)) ∨ (i = .int .i64 3 ∧ Hid (p0 = q0) ∧ Hid (p1 = q1) ∧ Hid (p2 = q2))) (fun i => 3 - (intOf i).toNat)
  case atStart => exact Or.inl rfl
  case round =>
    rcases hrel with rfl | ⟨rfl, H0⟩ | ⟨rfl, H0, H1⟩ | ⟨rfl, H0, H1, H2⟩
    · by_cases h : p0 = q0
      · have hb : (p0 != q0) = false := by simp [h]
        have H : Hid (p0 = q0) := h
        clear h F1 F2 F3
        go_wp2_with fail
        go_round
        case rel => exact Or.inr (Or.inl ⟨rfl, H⟩)
        case measure => simp [intOf]
      · have hb : (p0 != q0) = true := by simp [h]
        have hr : Hid (decide (q0 < p0) = R) := F1.out h
        clear h F1 F2 F3
        go_wp2_with fail
        go_ret
        exact ⟨congrArg (fun b => Ending.returned (.bool b)) hr.out, by repeat (first | exact grown_refl _ _ | apply gb_drew | apply gb_alloc)⟩
    · by_cases h : p1 = q1
      · have hb : (p1 != q1) = false := by simp [h]
        have H : Hid (p1 = q1) := h
        clear h F1 F2 F3
        go_wp2_with fail
        go_round
        case rel => exact Or.inr (Or.inr (Or.inl ⟨rfl, H0, H⟩))
        case measure => simp [intOf]
      · have hb : (p1 != q1) = true := by simp [h]
        have hr : Hid (decide (q1 < p1) = R) := F2.out H0.out h
        clear h F1 F2 F3
        go_wp2_with fail
        go_ret
        exact ⟨congrArg (fun b => Ending.returned (.bool b)) hr.out, by repeat (first | exact grown_refl _ _ | apply gb_drew | apply gb_alloc)⟩
    · by_cases h : p2 = q2
      · have hb : (p2 != q2) = false := by simp [h]
        have H : Hid (p2 = q2) := h
        clear h F1 F2 F3
        go_wp2_with fail
        go_round
        case rel => exact Or.inr (Or.inr (Or.inr ⟨rfl, H0, H1, H⟩))
        case measure => simp [intOf]
      · have hb : (p2 != q2) = true := by simp [h]
        have hr : Hid (decide (q2 < p2) = R) := F3.out H0.out H1.out
        clear h F1 F2 F3
        go_wp2_with fail
        go_ret
        exact ⟨congrArg (fun b => Ending.returned (.bool b)) hr.out, by repeat (first | exact grown_refl _ _ | apply gb_drew | apply gb_alloc)⟩
    · have hr : R = false := by
        have := F3.out H0.out H1.out
        rw [H2.out] at this
        simpa using this.symm
      have HR : Hid (R = false) := hr
      clear hr F1 F2 F3
      go_wp2_with fail
      go_ret
      exact ⟨by rw [HR.out]; rfl, by repeat (first | exact grown_refl _ _ | apply gb_drew | apply gb_alloc)⟩
theorem betterG_any (c e d f : Int) (c1 : c ≤ 9223372036854775807) (e1 : e ≤ 9223372036854775807) (d1 : d ≤ 9223372036854775807) (f1 : f ≤ 9223372036854775807) (w : World) :
    Calls Try.prog 38 #[.int .i64 c, .int .i64 e, .int .i64 d, .int .i64 f] w fun r w' => r = .returned (.bool (btr c e d f)) ∧ w.grownBy w' none := by
  by_cases he : e ≤ 0
  · have hb : btr c e d f = false := by unfold btr; rw [if_pos he]
    rw [hb]; clear hb
    go_enter Try.func38, Try.ntmps38
    go_wp2_with fail
    go_ret
    exact ⟨rfl, grown_refl _ _⟩
  · by_cases hf : f ≤ 0
    · have hb : btr c e d f = true := by unfold btr; rw [if_neg he, if_pos hf]
      rw [hb]; clear hb
      go_enter Try.func38, Try.ntmps38
      go_wp2_with fail
      go_ret
      exact ⟨rfl, grown_refl _ _⟩
    · have hb : btr c e d f = decide (pos0 d * pos0 d * e < pos0 c * pos0 c * f) := by unfold btr; rw [if_neg he, if_neg hf]
      rw [hb]; clear hb
      go_enter Try.func38, Try.ntmps38
      go_wp2_with fail
      refine (square_any c f c1 (by omega) f1 _).mono ?_
      rintro r w1 ⟨p0, p1, p2, o1, t1, ⟨x1, x2, x3, x4, x5, x6⟩, E1, rfl, rfl⟩
      have G1 : Hid _ := E1
      clear E1
      go_wp2_with fail
      refine (square_any d e d1 (by omega) e1 _).mono ?_
      rintro r w2 ⟨q0, q1, q2, o2, t2, ⟨y1, y2, y3, y4, y5, y6⟩, E2, rfl, rfl⟩
      have G2 : Hid _ := E2
      clear E2
      go_wp2_with fail
      refine (aboveG_any p0 p1 p2 q0 q1 q2 x3 x4 x5 x6 y3 y4 y5 y6 _).mono ?_
      rintro r w3 ⟨rfl, G⟩
      go_wp2_with fail
      go_ret
      refine ⟨congrArg (fun b => Ending.returned (.bool b)) ?_, grown_none (gb_alloc (gb_alloc (grown_refl _ _))) G⟩
      rw [← G1.out, ← G2.out]
      rfl
end Go.Proofs.Ytekdgohomaeeeab
