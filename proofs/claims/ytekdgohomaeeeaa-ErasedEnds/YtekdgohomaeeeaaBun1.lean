/- Texts put together: Grow, BigMath, Math, Ints, Arrs, LpcMath, LpcS, LevMath, VBlk, DualMath, PowMath, GainMath, SynthMath, Btr, PitchMath, MemMath, Owns, RegA, EndMath, SynW, ConX, ConW, MemS, LpcA, Base, SynA, SynB, Order, SynC, Syn, BaseB, KeepL, HisL, OrderF, KeepM, MemEq, LConK, CnpS, CnpA, PitA, AppL, PartL, CnpB, GaiF, CnpC. -/
import Derived.Test.YtekdgohomaeeeaaProg
import Derived.WalkKit
import Derived.WalkSpells
import Derived.WalkLawsBesides
import Derived.RowKit3
import Derived.Laws.OwnMore
import Derived.Deep.MidRow
import Derived.Laws.AppendOwnNone
import Derived.OrdersHeld
import Derived.RegionTactic
import Derived.Deep.RegionHeld
import Derived.Deep.CutRange
import Derived.Laws.CopyOwn
import Derived.BigQuiet
import Derived.Deep.QuietTactic
import Derived.StillTail
import Derived.Laws.StructEq
import Derived.Deep.Cut
import Derived.OwnWalk
/- Grow -/
namespace Go.Proofs.Ytekdgohomaeeeaa
open Go.RowKit
set_option linter.unusedVariables false
theorem hide {p : Prop} (h : p) : Hid p := h
theorem lt_of_some {w : World} {b : Nat} {o : Obj} (h : w.heap[b]? = some o) : b < w.heap.size := by
  by_cases hb : b < w.heap.size
  · exact hb
  · rw [Array.getElem?_eq_none (by omega)] at h; cases h
theorem cell_of_heap {w : World} {b : Nat} {cs : Array Value} {t : TypeId} {f : Nat × Nat} (h : w.heap[b]? = some (.cells cs t f)) (i : Nat) : w.cell? ⟨b, i, none⟩ = cs[i]? := by
  simp [World.cell?, h]
theorem frozen_of_heap {w : World} {b : Nat} {cs : Array Value} {t : TypeId} (h : w.heap[b]? = some (.cells cs t (0, 0))) (i : Nat) : w.frozen? ⟨b, i, none⟩ = false := by
  simp [World.frozen?, h]
theorem grown_refl (w : World) (r : Option Nat) : w.grownBy w r := ⟨rfl, rfl, rfl, Nat.le_refl _, fun _ _ _ => rfl⟩
theorem grown_alloc (w : World) (o : Obj) (r : Option Nat) : w.grownBy (w.alloc o) r := ⟨rfl, rfl, rfl, by simp, fun k hk _ => Below.heap_alloc _ _ _ hk⟩
theorem grown_trans {a b c : World} {r s : Option Nat} (h : a.grownBy b r) (k : b.grownBy c s) (t : Option Nat) (hr : ∀ i, r = some i → i < a.heap.size → t = some i) (hs : ∀ i, s = some i → i < a.heap.size → t = some i) : a.grownBy c t :=
  ⟨k.os.trans h.os, k.tape.trans h.tape, k.output.trans h.output, Nat.le_trans h.size k.size, fun i hi ht => by
    rw [k.block i (Nat.lt_of_lt_of_le hi h.size) (fun e => ht ((hs i e.symm hi).symm)), h.block i hi (fun e => ht ((hr i e.symm hi).symm))]⟩
theorem grown_none {a b c : World} (h : a.grownBy b none) (k : b.grownBy c none) : a.grownBy c none := grown_trans h k none (fun i e => by cases e) (fun i e => by cases e)
theorem grown_setCell (w : World) (a : Addr) (v : Value) : w.grownBy (w.setCell a v) (some a.block) := ⟨rfl, rfl, rfl, by simp [World.setCell], fun k _ h => Below.heap_setCell _ _ _ _ (fun e => h (by rw [e]))⟩
theorem grown_drew {a b : World} {r : Option Nat} (h : a.grownBy b r) : a.grownBy b.drew r := ⟨h.os, h.tape, h.output, h.size, h.block⟩
theorem heap_new (w : World) (o : Obj) : (w.alloc o).heap[w.heap.size]? = some o := by
  show (w.heap.push o)[w.heap.size]? = _
  simp
theorem grown_own {a b c : World} {i : Nat} (h : a.grownBy b none) (k : b.grownBy c (some i)) (hi : a.heap.size ≤ i) : a.grownBy c none :=
  grown_trans h k none (fun i e _ => by cases e) (fun j e hj => by cases e; omega)
theorem below_of_grown {w w' : World} (h : w.grownBy w' none) : Below w.heap.size w w' := ⟨h.os, h.tape, h.output, h.size, fun k hk => h.block k hk (by simp)⟩
theorem grown_drewN' (w : World) (n : Nat) (r : Option Nat) : w.grownBy (w.drewN n) r := ⟨rfl, rfl, rfl, Nat.le_refl _, fun _ _ _ => rfl⟩
theorem grown_keep {w w' : World} (h : w.grownBy w' none) {a : Addr} {v : Value} (hc : w.cell? a = some v) : w'.cell? a = some v := by
  have hb : a.block < w.heap.size := by
    rcases Nat.lt_or_ge a.block w.heap.size with g | g
    · exact g
    · unfold World.cell? at hc
      rw [Array.getElem?_eq_none g] at hc
      simp at hc
  rw [World.cell?_of_block (w := w) (h.block a.block hb (by simp))]; exact hc
theorem sL {α : Type} : (∀ (l : List α) (i : Nat) (a : α), l.toArray.setIfInBounds i a = (l.set i a).toArray) ∧ (∀ (a b : α) (l : List α), (a :: l).set 0 b = b :: l) ∧ (∀ (a b : α) (l : List α) (n : Nat), (a :: l).set (n + 1) b = a :: l.set n b) ∧ (∀ (xs : List α) (i : Nat) (h : i < xs.toArray.size), xs.toArray[i] = xs[i]'(by simpa using h)) ∧ (∀ (a : α) (l : List α) (h : 0 < (a :: l).length), (a :: l)[0] = a) ∧ (∀ (a : α) (l : List α) (i : Nat) (h : i + 1 < (a :: l).length), (a :: l)[i + 1] = l[i]'(by simpa using h)) :=
  ⟨fun _ _ _ => List.setIfInBounds_toArray .., fun _ _ _ => List.set_cons_zero .., fun _ _ _ _ => List.set_cons_succ .., fun _ _ _ => List.getElem_toArray .., fun _ _ _ => List.getElem_cons_zero .., fun _ _ _ _ => List.getElem_cons_succ ..⟩
end Go.Proofs.Ytekdgohomaeeeaa

/- BigMath -/
namespace Go.Proofs.Ytekdgohomaeeeaa
def nth (l : List Int) (i : Nat) : Int := l.getD i 0
def P (k : Nat) : Int := 4294967296 ^ k
theorem getD_out (l : List Int) (k : Nat) (h : l.length ≤ k) : nth l k = 0 := by simp [nth, List.getD, List.getElem?_eq_none h]
end Go.Proofs.Ytekdgohomaeeeaa

/- Math -/
namespace Go.Proofs.Ytekdgohomaeeeaa
open Go.RowKit
def c16 (x : Int) : Int := if x < -32768 then -32768 else if 32767 < x then 32767 else x
def spotN (v n : Int) : Int := v % n
theorem c16_bd (x : Int) : -32768 ≤ c16 x ∧ c16 x ≤ 32767 := by unfold c16; split <;> (try split) <;> omega
theorem mul16_bd (a b : Int) (h1 : -32768 ≤ a) (h2 : a ≤ 32767) (h3 : -32768 ≤ b) (h4 : b ≤ 32767) : -1073709056 ≤ a * b ∧ a * b ≤ 1073741824 := by
  have e1 : 0 ≤ (32767 - a) * (b + 32768) := Int.mul_nonneg (by omega) (by omega)
  have e2 : 0 ≤ (a + 32768) * (32767 - b) := Int.mul_nonneg (by omega) (by omega)
  have e3 : 0 ≤ (a + 32768) * (b + 32768) := Int.mul_nonneg (by omega) (by omega)
  have e4 : 0 ≤ (32767 - a) * (32767 - b) := Int.mul_nonneg (by omega) (by omega)
  simp only [Int.sub_mul, Int.add_mul, Int.mul_add, Int.mul_sub] at e1 e2 e3 e4
  omega
end Go.Proofs.Ytekdgohomaeeeaa

/- Ints -/
namespace Go.Proofs.Ytekdgohomaeeeaa
open Go.RowKit
set_option linter.unusedVariables false
set_option linter.unusedSimpArgs false
set_option maxHeartbeats 1000000
def Ints (w : World) (v : Value) (l : List Int) : Prop :=
  ∃ (ad : Option Addr) (c : Nat), v = .slice ad l.length c ∧ l.length ≤ c ∧ (0 < l.length → ∃ a, ad = some a ∧ ∀ i, i < l.length → w.cell? (a.add i) = some (.int .i64 (nth l i)))
def rightB (l : List Int) : Bool := l.all fun x => decide (-32768 ≤ x) && decide (x ≤ 32767)
theorem rightB_iff (l : List Int) : rightB l = true ↔ ∀ i, i < l.length → -32768 ≤ nth l i ∧ nth l i ≤ 32767 := by
  unfold rightB
  rw [List.all_eq_true]
  constructor
  · intro h i hi
    have := h l[i] (List.getElem_mem hi)
    simp only [Bool.and_eq_true, decide_eq_true_eq] at this
    simpa [nth, List.getD, hi] using this
  · intro h x hx
    obtain ⟨i, hi, rfl⟩ := List.getElem_of_mem hx
    have := h i hi
    simp only [nth, List.getD, List.getElem?_eq_getElem hi, Option.getD_some] at this
    simp [this]
def arrI (l : List Int) : Array Value := (l.map (Value.int .i64)).toArray
theorem arrI_get (l : List Int) (i : Nat) (h : i < l.length) : (arrI l)[i]? = some (.int .i64 (nth l i)) := by
  simp [arrI, nth, List.getD, h]
theorem arrI_set (l : List Int) (k : Nat) (v : Int) : (arrI l).setIfInBounds k (.int .i64 v) = arrI (l.set k v) := by
  simp [arrI, List.map_set]
theorem infoI64 : (Try.prog.info? 3).map (fun i => (i.zero, i.size, i.bytes)) = some (some (.int .i64 0), 1, 8) := by kernel_rfl
theorem made_arrI (n : Nat) : madeCells #[.int .i64 0] n = arrI (List.replicate n 0) := by
  unfold arrI madeCells
  apply Array.ext
  · simp
  · intro i h1 h2
    simp [Nat.mod_one]
theorem make_int (z : Int) (h0 : 0 ≤ z) (h1 : z ≤ 35184372088832) (u : World) :
    (Instr.makeSlice 28 (.int .i64 z) (.int .i64 z)).run Try.prog u = .ok (.slice (some ⟨u.heap.size, 0, none⟩) z.toNat z.toNat) (u.alloc (.cells (arrI (List.replicate z.toNat 0)) 3)) := by
  obtain ⟨i0, hi, hz0, hz1, hz2⟩ := info_parts infoI64
  have h := run_make (P := Try.prog) u 28 3 i0 (.int .i64 0) Try.underlying28 hi hz0 .i64 .i64 z z h0 (Int.le_refl _) (by rw [hz2]; omega) (by omega)
  rw [← made_arrI]
  simpa [hz1, Value.cells] using h
theorem Ints_keep {w w' : World} {v : Value} {l : List Int} (h : Ints w v l) (g : w.grownBy w' none) : Ints w' v l := by
  obtain ⟨ad, c, rfl, hc, hcell⟩ := h
  refine ⟨ad, c, rfl, hc, fun h => ?_⟩
  obtain ⟨a, rfl, hv⟩ := hcell h
  exact ⟨a, rfl, fun i hi => grown_keep g (hv i hi)⟩
theorem Ints_of_owns {w : World} {base : Nat} {v : Value} {l : List Int} (h : w.ownsRow base 3 1 v l.length (l.map (Value.int .i64))) : Ints w v l := by
  obtain ⟨h1, h2⟩ := h
  rcases h2 with ⟨h2, h3⟩ | ⟨g, cap, cur, h2, _, h4, h5, _, h7, h8⟩
  · exact ⟨none, 0, by rw [h2, h3], by omega, fun h => by omega⟩
  · refine ⟨some ⟨g, 0, none⟩, cap, h2, h5, fun _ => ⟨_, rfl, fun i hi => ?_⟩⟩
    have e : (cur.toList.take (l.length * 1))[i]? = (l.map (Value.int .i64))[i]? := by rw [h8]
    rw [List.getElem?_take, if_pos (by omega), Array.getElem?_toList] at e
    have ea : (⟨g, 0, none⟩ : Addr).add i = ⟨g, i, none⟩ := by unfold Addr.add; split <;> simp_all
    rw [ea, cell_of_heap h4, e]
    simp [nth, List.getD, hi]
theorem heap_setCell {w : World} {b k : Nat} {cs : Array Value} {t : TypeId} (h : w.heap[b]? = some (.cells cs t (0, 0))) (v : Value) :
    (w.setCell ⟨b, k, none⟩ v).heap[b]? = some (.cells (cs.setIfInBounds k v) t (0, 0)) := by
  simp only [World.setCell, Array.getElem?_modify, h]
  simp
theorem wrapI (n : Int) (h0 : -9223372036854775808 ≤ n) (h1 : n ≤ 9223372036854775807) : IntKind.i64.wrap n = n := by
  show (if (true && decide (n % 18446744073709551616 ≥ 9223372036854775808)) = true then n % 18446744073709551616 - 18446744073709551616 else n % 18446744073709551616) = n
  split
  · rename_i hh
    simp at hh
    omega
  · rename_i hh
    simp at hh
    omega
def In64 (l : List Int) : Prop := ∀ i, -9223372036854775808 ≤ nth l i ∧ nth l i ≤ 9223372036854775807
end Go.Proofs.Ytekdgohomaeeeaa

/- Arrs -/
namespace Go.Proofs.Ytekdgohomaeeeaa
open Go.RowKit
set_option linter.unusedVariables false
set_option linter.unusedSimpArgs false
def Blk (w : World) (b : Nat) (T : TypeId) (rs : List Int) : Prop := w.heap[b]? = some (.cells (arrI rs) T (0, 0))
theorem Blk.cell {w : World} {b : Nat} {T : TypeId} {rs : List Int} (h : Blk w b T rs) (i : Nat) (hi : i < rs.length) : w.cell? ⟨b, i, none⟩ = some (.int .i64 (nth rs i)) := (cell_of_heap h i).trans (arrI_get rs i hi)
theorem Blk.free {w : World} {b : Nat} {T : TypeId} {rs : List Int} (h : Blk w b T rs) (i : Nat) : w.frozen? ⟨b, i, none⟩ = false := frozen_of_heap h i
theorem Blk.lt {w : World} {b : Nat} {T : TypeId} {rs : List Int} (h : Blk w b T rs) : b < w.heap.size := lt_of_some h
theorem Blk.keep {w w' : World} {b : Nat} {T : TypeId} {rs : List Int} (h : Blk w b T rs) (g : w.grownBy w' none) : Blk w' b T rs := (g.block _ (lt_of_some h) (by simp)).trans h
theorem Blk.keepBut {w w' : World} {b : Nat} {T : TypeId} {rs : List Int} {r : Nat} (h : Blk w b T rs) (g : w.grownBy w' (some r)) (hr : b ≠ r) : Blk w' b T rs := (g.block _ (lt_of_some h) (by simpa using hr)).trans h
theorem Blk.new (w : World) (T : TypeId) (rs : List Int) : Blk (w.alloc (.cells (arrI rs) T)) w.heap.size T rs := heap_new w _
theorem Blk.new1 (w : World) (o : Obj) (T : TypeId) (rs : List Int) : Blk ((w.alloc o).alloc (.cells (arrI rs) T)) (w.heap.size + 1) T rs := by simpa using Blk.new (w.alloc o) T rs
theorem Blk.set {w : World} {b : Nat} {T : TypeId} {rs : List Int} (h : Blk w b T rs) (k : Nat) (z : Int) : Blk (w.setCell ⟨b, k, none⟩ (.int .i64 z)) b T (rs.set k z) := by
  unfold Blk
  rw [heap_setCell h, arrI_set]
theorem Blk.range {w : World} {b : Nat} {T : TypeId} {rs : List Int} (h : Blk w b T rs) : w.rangeAt b 0 (rs.map (Value.int .i64)) := fun j v hv => by
  rw [Nat.zero_add, cell_of_heap h]
  simpa [arrI] using hv
theorem Blk.there {w : World} {b : Nat} {T : TypeId} {rs : List Int} (h : Blk w b T rs) : w.there b 0 rs.length := fun j hj => by
  rw [Nat.zero_add]
  exact ⟨by rw [h.cell j hj]; rfl, h.free j⟩
theorem loadVar_arr {w : World} {b : Nat} {T : TypeId} {rs : List Int} (h : Blk w b T rs) (d : TypeDesc) (hu : Try.prog.underlying T = some d) (hd : d.isRow = true) (hi : (Try.prog.info? T).map (·.size) = some rs.length) :
    Sem.run Try.prog (loadVar T ⟨b, 0, none⟩) w = .ok (.agg (arrI rs)) w :=
  run_loadVar_mid w b 0 T (rs.map (Value.int .i64)) d h.range hu hd (by simpa using hi)
def putArr (w : World) (b : Nat) (rs : List Int) : World := w.setCells b 0 (rs.map (Value.int .i64))
theorem ones_arrI (rs : List Int) : (arrI rs).all (·.oneCell') = true := by
  apply all_oneCell_toArray
  intro v hv
  obtain ⟨x, _, rfl⟩ := List.mem_map.1 hv
  rfl
theorem heap_setCells (b : Nat) (T : TypeId) : ∀ (vs : List Value) (o : Nat) (w : World) (cs : Array Value), w.heap[b]? = some (.cells cs T (0, 0)) → o + vs.length ≤ cs.size →
    ∃ cs', (w.setCells b o vs).heap[b]? = some (.cells cs' T (0, 0)) ∧ cs'.size = cs.size ∧ (∀ i, i < o → cs'[i]? = cs[i]?) ∧ (∀ i, i < vs.length → cs'[o + i]? = vs[i]?) ∧ w.grownBy (w.setCells b o vs) (some b)
  | [], o, w, cs, h, _ => ⟨cs, h, rfl, fun _ _ => rfl, fun i hi => by simp at hi, grown_refl w _⟩
  | v :: vs, o, w, cs, h, hl => by
    simp only [List.length_cons] at hl
    have h1 := heap_setCell (k := o) h v
    obtain ⟨cs', c1, c2, c3, c4, c5⟩ := heap_setCells b T vs (o + 1) (w.setCell ⟨b, o, none⟩ v) (cs.setIfInBounds o v) h1 (by simp; omega)
    refine ⟨cs', c1, by simpa using c2, fun i hi => ?_, fun i hi => ?_, grown_trans (grown_setCell w ⟨b, o, none⟩ v) c5 (some b) (fun i e _ => e) (fun i e _ => e)⟩
    · rw [c3 i (by omega)]
      simp [Array.getElem?_setIfInBounds, show ¬ o = i by omega]
    · match i, hi with
      | 0, _ =>
        rw [Nat.add_zero, c3 o (by omega)]
        simp [Array.getElem?_setIfInBounds, show o < cs.size by omega]
      | i + 1, hi =>
        have := c4 i (by simp at hi; omega)
        rw [show o + (i + 1) = o + 1 + i by omega, this]
        simp
theorem put_arr {w : World} {b : Nat} {T : TypeId} {rs rs' : List Int} (h : Blk w b T rs) (hl : rs'.length = rs.length) : Blk (putArr w b rs') b T rs' ∧ w.grownBy (putArr w b rs') (some b) := by
  obtain ⟨cs', c1, c2, _, c4, c5⟩ := heap_setCells b T (rs'.map (Value.int .i64)) 0 w (arrI rs) h (by simp [arrI, hl])
  refine ⟨?_, c5⟩
  unfold Blk putArr
  rw [c1]
  have : cs' = arrI rs' := by
    apply Array.ext_getElem?
    intro i
    by_cases hi : i < rs'.length
    · have := c4 i (by simpa using hi)
      rw [Nat.zero_add] at this
      rw [this]; simp [arrI]
    · rw [Array.getElem?_eq_none (by rw [c2]; simp [arrI]; omega), Array.getElem?_eq_none (by simp [arrI]; omega)]
  rw [this]
theorem wpList_load_arr {ops : Array Oper} {rest : List Oper} {op : Oper} {a : Act} {w : World} {Q : Exit → Act → World → Prop} (hgd : op.guard = none) (T : TypeId) (x : Operand) (ho : op.op = .load T x)
    (b : Nat) (hx : a.eval x = .pointer (some ⟨b, 0, none⟩)) (rs : List Int) (h : Blk w b T rs) (d : TypeDesc) (hu : Try.prog.underlying T = some d) (hd : d.isRow = true) (hi : (Try.prog.info? T).map (·.size) = some rs.length)
    (k : wpList Try.prog ops Q rest (a.put op.dst (.agg (arrI rs))) w) : wpList Try.prog ops Q (op :: rest) a w :=
  wpList_load_mid hgd T x ho b 0 hx (rs.map (Value.int .i64)) d h.range hu hd (by simpa using hi) k
theorem wpList_store_arr {ops : Array Oper} {rest : List Oper} {op : Oper} {a : Act} {w : World} {Q : Exit → Act → World → Prop} (hgd : op.guard = none) (T : TypeId) (x y : Operand) (ho : op.op = .store T x y)
    (b : Nat) (rs rs' : List Int) (hx : a.eval x = .pointer (some ⟨b, 0, none⟩)) (hy : a.eval y = .agg (arrI rs')) (h : Blk w b T rs) (hl : rs'.length = rs.length) (hi : (Try.prog.info? T).map (·.size) = some rs.length)
    (k : wpList Try.prog ops Q rest (a.put op.dst undef) (putArr w b rs')) : wpList Try.prog ops Q (op :: rest) a w :=
  wpList_store_mid hgd T x y ho b 0 (arrI rs') hx hy (by rw [show (arrI rs').size = rs.length by simp [arrI, hl]]; exact h.there) (by simpa [arrI, hl] using hi) (ones_arrI rs') (by simpa [putArr, arrI] using k)
def zeros (n : Nat) : List Int := List.replicate n 0
theorem zeros_len (n : Nat) : (zeros n).length = n := by simp [zeros]
theorem zeros_nth (n i : Nat) : nth (zeros n) i = 0 := by simp [zeros, nth, List.getD, List.getElem?_replicate]; split <;> rfl
theorem zero_arr {T : TypeId} {n : Nat} (hz : (Try.prog.info? T).bind (·.zero) = some (.agg (arrI (zeros n)))) (w : World) : Sem.run Try.prog (zeroValue T) w = .ok (.agg (arrI (zeros n))) w := by
  cases hq : Try.prog.info? T with
  | none => simp [hq] at hz
  | some i =>
    have hi : i.zero = some (.agg (arrI (zeros n))) := by simpa [hq] using hz
    simp [zeroValue, typeInfo, hq, hi]
theorem make_zeros (n : Nat) (h1 : n ≤ 35184372088832) (u : World) :
    (Instr.makeSlice 28 (.int .i64 n) (.int .i64 n)).run Try.prog u = .ok (.slice (some ⟨u.heap.size, 0, none⟩) n n) (u.alloc (.cells (arrI (zeros n)) 3)) := by
  have := make_int n (by omega) (by omega) u
  simpa [zeros] using this
theorem Ints_zeros (w : World) (n : Nat) : Ints (w.alloc (.cells (arrI (zeros n)) 3)) (.slice (some ⟨w.heap.size, 0, none⟩) n n) (zeros n) := by
  refine ⟨some ⟨w.heap.size, 0, none⟩, n, by rw [zeros_len], by rw [zeros_len]; exact Nat.le_refl _, fun _ => ⟨_, rfl, fun i hi => ?_⟩⟩
  rw [Addr.add_mid, Nat.zero_add]
  exact (Blk.new w 3 (zeros n)).cell i hi
end Go.Proofs.Ytekdgohomaeeeaa

/- LpcMath -/
namespace Go.Proofs.Ytekdgohomaeeeaa
open Go.RowKit
set_option linter.unusedVariables false
set_option linter.unusedSimpArgs false
def FillN (n : Nat) (f : Nat → Int) (k : Nat) (rs : List Int) : Prop := rs.length = n ∧ ∀ j, j < k → nth rs j = f j
theorem fillN_step {n : Nat} {f : Nat → Int} {k : Nat} {rs : List Int} (h : FillN n f k rs) (hk : k < n) : FillN n f (k + 1) (rs.set k (f k)) := by
  obtain ⟨h1, h2⟩ := h
  refine ⟨by simpa using h1, fun j hj => ?_⟩
  by_cases e : j = k
  · subst e
    simp [nth, List.getD, h1, hk]
  · have := h2 j (by omega)
    simpa [nth, List.getD, List.getElem?_set, Ne.symm e] using this
theorem fillN_all {n : Nat} {f : Nat → Int} {rs : List Int} (h : FillN n f n rs) : rs = (List.range n).map f := by
  apply List.ext_getElem
  · simp [h.1]
  · intro i h1 h2
    have := h.2 i (by have := h.1; omega)
    simpa [nth, List.getD, h1] using this
theorem fillN_start (n : Nat) (f : Nat → Int) : FillN n f 0 (zeros n) := ⟨zeros_len n, fun j hj => by omega⟩
end Go.Proofs.Ytekdgohomaeeeaa

/- LpcS -/
namespace Go.Proofs.Ytekdgohomaeeeaa
open Go.RowKit
set_option linter.unusedVariables false
set_option linter.unusedSimpArgs false
theorem size8' : (Try.prog.info? 22).map (·.size) = some 8 := by kernel_rfl
theorem z8' : arrI (zeros 8) = #[.int .i64 0, .int .i64 0, .int .i64 0, .int .i64 0, .int .i64 0, .int .i64 0, .int .i64 0, .int .i64 0] := rfl
theorem laid2 (w : World) (T1 T2 : TypeId) (a b : List Int) : Blk ((w.alloc (.cells (arrI a) T1)).alloc (.cells (arrI b) T2)) w.heap.size T1 a ∧ Blk ((w.alloc (.cells (arrI a) T1)).alloc (.cells (arrI b) T2)) (w.heap.size + 1) T2 b ∧ w.grownBy ((w.alloc (.cells (arrI a) T1)).alloc (.cells (arrI b) T2)) none :=
  ⟨(Blk.new w T1 a).keep (grown_alloc _ _ none), Blk.new1 w _ T2 b, grown_none (grown_alloc _ _ none) (grown_alloc _ _ none)⟩
def Mem2 (w wr : World) (T1 T2 : TypeId) (a b : List Int) : Prop := Blk wr w.heap.size T1 a ∧ Blk wr (w.heap.size + 1) T2 b ∧ w.grownBy wr none
def Mem3 (w wr : World) (T1 T2 T3 : TypeId) (a b c : List Int) : Prop := Blk wr w.heap.size T1 a ∧ Blk wr (w.heap.size + 1) T2 b ∧ Blk wr (w.heap.size + 1 + 1) T3 c ∧ w.grownBy wr none
theorem Mem2.keep {w wr wr' : World} {T1 T2 : TypeId} {a b : List Int} (h : Mem2 w wr T1 T2 a b) (g : wr.grownBy wr' none) : Mem2 w wr' T1 T2 a b := ⟨h.1.keep g, h.2.1.keep g, grown_none h.2.2 g⟩
theorem Mem3.keep {w wr wr' : World} {T1 T2 T3 : TypeId} {a b c : List Int} (h : Mem3 w wr T1 T2 T3 a b c) (g : wr.grownBy wr' none) : Mem3 w wr' T1 T2 T3 a b c := ⟨h.1.keep g, h.2.1.keep g, h.2.2.1.keep g, grown_none h.2.2.2 g⟩
theorem Mem2.set {w wr : World} {T1 T2 : TypeId} {a b : List Int} (h : Mem2 w wr T1 T2 a b) (k : Nat) (z : Int) : Mem2 w (wr.setCell ⟨w.heap.size, k, none⟩ (.int .i64 z)) T1 T2 (a.set k z) b :=
  ⟨h.1.set k z, h.2.1.keepBut (grown_setCell _ ⟨w.heap.size, k, none⟩ _) (by simp), grown_own h.2.2 (grown_setCell _ ⟨w.heap.size, k, none⟩ _) (by simp)⟩
theorem Mem3.set {w wr : World} {T1 T2 T3 : TypeId} {a b c : List Int} (h : Mem3 w wr T1 T2 T3 a b c) (k : Nat) (z : Int) : Mem3 w (wr.setCell ⟨w.heap.size, k, none⟩ (.int .i64 z)) T1 T2 T3 (a.set k z) b c :=
  ⟨h.1.set k z, h.2.1.keepBut (grown_setCell _ ⟨w.heap.size, k, none⟩ _) (by simp), h.2.2.1.keepBut (grown_setCell _ ⟨w.heap.size, k, none⟩ _) (by simp; omega), grown_own h.2.2.2 (grown_setCell _ ⟨w.heap.size, k, none⟩ _) (by simp)⟩
end Go.Proofs.Ytekdgohomaeeeaa

/- LevMath -/
namespace Go.Proofs.Ytekdgohomaeeeaa
open Go.RowKit
set_option linter.unusedVariables false
set_option linter.unusedSimpArgs false
def tab (n : Nat) (p : Nat → Int) : List Int := (List.range n).map p
theorem tab_len (n : Nat) (p : Nat → Int) : (tab n p).length = n := by simp [tab]
theorem tab_nth (n : Nat) (p : Nat → Int) (i : Nat) (h : i < n) : nth (tab n p) i = p i := by simp [tab, nth, List.getD, h]
theorem tab_ext {n : Nat} {p : Nat → Int} {l : List Int} (h1 : l.length = n) (h2 : ∀ i, i < n → nth l i = p i) : l = tab n p := fillN_all (n := n) ⟨h1, h2⟩
end Go.Proofs.Ytekdgohomaeeeaa

/- VBlk -/
namespace Go.Proofs.Ytekdgohomaeeeaa
open Go.RowKit
set_option linter.unusedVariables false
set_option linter.unusedSimpArgs false
def BlkV (w : World) (b : Nat) (T : TypeId) (cs : List Value) : Prop := w.heap[b]? = some (.cells cs.toArray T (0, 0))
theorem BlkV.cell {w : World} {b : Nat} {T : TypeId} {cs : List Value} (h : BlkV w b T cs) (i : Nat) : w.cell? ⟨b, i, none⟩ = cs[i]? := by rw [cell_of_heap h]; simp
theorem BlkV.free {w : World} {b : Nat} {T : TypeId} {cs : List Value} (h : BlkV w b T cs) (i : Nat) : w.frozen? ⟨b, i, none⟩ = false := frozen_of_heap h i
theorem BlkV.lt {w : World} {b : Nat} {T : TypeId} {cs : List Value} (h : BlkV w b T cs) : b < w.heap.size := lt_of_some h
theorem BlkV.keep {w w' : World} {b : Nat} {T : TypeId} {cs : List Value} (h : BlkV w b T cs) (g : w.grownBy w' none) : BlkV w' b T cs := (g.block _ (lt_of_some h) (by simp)).trans h
theorem BlkV.keepBut {w w' : World} {b : Nat} {T : TypeId} {cs : List Value} {r : Nat} (h : BlkV w b T cs) (g : w.grownBy w' (some r)) (hr : b ≠ r) : BlkV w' b T cs := (g.block _ (lt_of_some h) (by simpa using hr)).trans h
theorem BlkV.new (w : World) (T : TypeId) (cs : List Value) : BlkV (w.alloc (.cells cs.toArray T)) w.heap.size T cs := heap_new w _
theorem BlkV.set {w : World} {b : Nat} {T : TypeId} {cs : List Value} (h : BlkV w b T cs) (k : Nat) (v : Value) : BlkV (w.setCell ⟨b, k, none⟩ v) b T (cs.set k v) := by
  unfold BlkV
  rw [heap_setCell h]
  simp
theorem BlkV.range {w : World} {b : Nat} {T : TypeId} {cs : List Value} (h : BlkV w b T cs) (o n : Nat) : w.rangeAt b o ((cs.drop o).take n) := fun j v hv => by
  rw [h.cell]
  rw [List.getElem?_take] at hv
  split at hv
  · rw [List.getElem?_drop] at hv; exact hv
  · cases hv
theorem BlkV.there {w : World} {b : Nat} {T : TypeId} {cs : List Value} (h : BlkV w b T cs) (o n : Nat) (hn : o + n ≤ cs.length) : w.there b o n := fun j hj =>
  ⟨by rw [h.cell, List.getElem?_eq_getElem (by omega)]; rfl, h.free _⟩
def splV (cs : List Value) (o : Nat) (vs : List Value) : List Value := cs.take o ++ vs ++ cs.drop (o + vs.length)
theorem splV_all (cs vs : List Value) (h : vs.length = cs.length) : splV cs 0 vs = vs := by simp [splV, h]
theorem heap_setV (b : Nat) (T : TypeId) : ∀ (vs : List Value) (o : Nat) (w : World) (cs : List Value), BlkV w b T cs → o + vs.length ≤ cs.length → BlkV (w.setCells b o vs) b T (splV cs o vs) ∧ w.grownBy (w.setCells b o vs) (some b)
  | [], o, w, cs, h, _ => ⟨by show BlkV w b T (splV cs o []); unfold splV; simp; exact h, grown_refl w _⟩
  | z :: M, o, w, cs, h, hl => by
    simp only [List.length_cons] at hl
    have h1 := h.set o z
    obtain ⟨a1, a2⟩ := heap_setV b T M (o + 1) (w.setCell ⟨b, o, none⟩ z) (cs.set o z) h1 (by rw [List.length_set]; omega)
    refine ⟨?_, grown_trans (grown_setCell w ⟨b, o, none⟩ _) a2 (some b) (fun i e _ => e) (fun i e _ => e)⟩
    have e : splV (cs.set o z) (o + 1) M = splV cs o (z :: M) := by
      unfold splV
      rw [List.take_succ_eq_append_getElem (by rw [List.length_set]; omega)]
      simp [show o < cs.length by omega]
      rw [List.drop_set_of_lt (by omega), show o + 1 + M.length = o + (M.length + 1) by omega]
      rw [List.take_set_of_le (Nat.le_refl _)]
    rw [← e]
    exact a1
def putV (w : World) (b o : Nat) (vs : List Value) : World := w.setCells b o vs
theorem put_v {w : World} {b : Nat} {T : TypeId} {cs : List Value} (h : BlkV w b T cs) (o : Nat) (vs : List Value) (hl : o + vs.length ≤ cs.length) : BlkV (putV w b o vs) b T (splV cs o vs) ∧ w.grownBy (putV w b o vs) (some b) := heap_setV b T vs o w cs h hl
theorem wpList_load_v {ops : Array Oper} {rest : List Oper} {op : Oper} {a : Act} {w : World} {Q : Exit → Act → World → Prop} (hgd : op.guard = none) (T : TypeId) (x : Operand) (ho : op.op = .load T x)
    (b o n : Nat) (hx : a.eval x = .pointer (some ⟨b, o, none⟩)) (TB : TypeId) (cs : List Value) (h : BlkV w b TB cs) (d : TypeDesc) (hu : Try.prog.underlying T = some d) (hd : d.isRow = true) (hi : (Try.prog.info? T).map (·.size) = some n) (hn : o + n ≤ cs.length) (vs : List Value) (hvs : (cs.drop o).take n = vs)
    (k : wpList Try.prog ops Q rest (a.put op.dst (.agg vs.toArray)) w) : wpList Try.prog ops Q (op :: rest) a w := by
  subst hvs
  exact wpList_load_mid hgd T x ho b o hx _ d (h.range o n) hu hd (by rw [hi]; simp; omega) k
theorem yields_load_v {w : World} {b o n : Nat} {T TB : TypeId} {cs : List Value} {a : Act} {op : Oper} {x : Operand} (ho : op.op = .load T x) (hx : a.eval x = .pointer (some ⟨b, o, none⟩)) (h : BlkV w b TB cs) (d : TypeDesc) (hu : Try.prog.underlying T = some d) (hd : d.isRow = true) (hi : (Try.prog.info? T).map (·.size) = some n) (hn : o + n ≤ cs.length) (vs : List Value) (hvs : (cs.drop o).take n = vs) :
    (execOp a.eval op).run Try.prog w = .ok (.value (.agg vs.toArray)) w := by
  subst hvs
  have := run_loadAt_mid (P := Try.prog) w b o T _ d (h.range o n) hu hd (by rw [hi]; simp; omega)
  unfold execOp
  simp [ho, hx, this]
theorem loadVar_v {w : World} {b : Nat} {T : TypeId} {cs : List Value} (h : BlkV w b T cs) (d : TypeDesc) (hu : Try.prog.underlying T = some d) (hd : d.isRow = true) (hi : (Try.prog.info? T).map (·.size) = some cs.length) :
    Sem.run Try.prog (loadVar T ⟨b, 0, none⟩) w = .ok (.agg cs.toArray) w := by
  have := run_loadVar_mid (P := Try.prog) w b 0 T ((cs.drop 0).take cs.length) d (h.range 0 cs.length) hu hd (by rw [hi]; simp)
  simpa using this
theorem ones_v {vs : List Value} (h : ∀ v ∈ vs, v.oneCell' = true) : vs.toArray.all (·.oneCell') = true := all_oneCell_toArray h
theorem wpList_store_v {ops : Array Oper} {rest : List Oper} {op : Oper} {a : Act} {w : World} {Q : Exit → Act → World → Prop} (hgd : op.guard = none) (T : TypeId) (x y : Operand) (ho : op.op = .store T x y)
    (b o : Nat) (TB : TypeId) (cs vs : List Value) (hx : a.eval x = .pointer (some ⟨b, o, none⟩)) (hy : a.eval y = .agg vs.toArray) (h : BlkV w b TB cs) (hl : o + vs.length ≤ cs.length) (hi : (Try.prog.info? T).map (·.size) = some vs.length) (h1 : ∀ v ∈ vs, v.oneCell' = true)
    (k : wpList Try.prog ops Q rest (a.put op.dst undef) (putV w b o vs)) : wpList Try.prog ops Q (op :: rest) a w :=
  wpList_store_mid hgd T x y ho b o vs.toArray hx hy (by simpa using h.there o vs.length hl) (by simpa using hi) (ones_v h1) (by simpa [putV] using k)
theorem step_store_v {y : Nat → Option Bool} {op : Oper} {a : Act} {w : World} {K : Act → World → Prop} {Q : Exit → Act → World → Prop} {E : Prop} (hg : op.guard = none) (T : TypeId) (x z : Operand) (ho : op.op = .store T x z)
    (b o : Nat) (TB : TypeId) (cs vs : List Value) (hx : a.eval x = .pointer (some ⟨b, o, none⟩)) (hy : a.eval z = .agg vs.toArray) (h : BlkV w b TB cs) (hl : o + vs.length ≤ cs.length) (hi : (Try.prog.info? T).map (·.size) = some vs.length) (h1 : ∀ v ∈ vs, v.oneCell' = true)
    (k : K (a.put op.dst undef) (putV w b o vs)) : if Region.wanted op y = true then Oper.wp Try.prog op a w K Q else E := by
  have hw : Region.wanted op y = true := by simp [Region.wanted, hg]
  rw [if_pos hw]
  exact wp_store_mid T x z ho b o vs.toArray hx hy (by simpa using h.there o vs.length hl) (by simpa using hi) (ones_v h1) (by simpa [putV] using k)
def intsV (l : List Int) : List Value := l.map (Value.int .i64)
theorem intsV_one (l : List Int) : ∀ v ∈ intsV l, v.oneCell' = true := by
  intro v hv
  obtain ⟨x, _, rfl⟩ := List.mem_map.1 hv
  rfl
theorem intsV_len (l : List Int) : (intsV l).length = l.length := by simp [intsV]
def prt (l : List Int) (o n : Nat) : List Int := tab n (fun i => nth l (o + i))
theorem prt_len (l : List Int) (o n : Nat) : (prt l o n).length = n := tab_len _ _
theorem prt_nth (l : List Int) (o n i : Nat) (h : i < n) : nth (prt l o n) i = nth l (o + i) := tab_nth _ _ _ h
theorem prt_eq (l : List Int) (o n : Nat) (h : o + n ≤ l.length) : (l.drop o).take n = prt l o n := by
  refine tab_ext (by simp; omega) (fun i hi => ?_)
  simp [nth, List.getD, List.getElem?_take, List.getElem?_drop, hi]
def ovr (l : List Int) (o : Nat) (M : List Int) : List Int := tab l.length (fun i => if o ≤ i ∧ i < o + M.length then nth M (i - o) else nth l i)
theorem ovr_len (l : List Int) (o : Nat) (M : List Int) : (ovr l o M).length = l.length := tab_len _ _
theorem ovr_nth (l : List Int) (o : Nat) (M : List Int) (i : Nat) (h : i < l.length) : nth (ovr l o M) i = if o ≤ i ∧ i < o + M.length then nth M (i - o) else nth l i := tab_nth _ _ _ h
theorem ovr_eq (l : List Int) (o : Nat) (M : List Int) (h : o + M.length ≤ l.length) : l.take o ++ M ++ l.drop (o + M.length) = ovr l o M := by
  refine tab_ext (by simp; omega) (fun i hi => ?_)
  unfold nth List.getD
  by_cases h1 : i < o
  · rw [if_neg (by omega), List.getElem?_append_left (by simp; omega), List.getElem?_append_left (by simp; omega), List.getElem?_take, if_pos h1]
  · by_cases h2 : i < o + M.length
    · rw [if_pos (by omega), List.getElem?_append_left (by simp; omega), List.getElem?_append_right (by simp; omega)]
      congr 2
      simp; omega
    · rw [if_neg (by omega), List.getElem?_append_right (by simp; omega), List.getElem?_drop]
      congr 2
      simp; omega
def mixC (l : List Int) (z : List Value) : List Value := intsV l ++ z
theorem mixC_len (l : List Int) (z : List Value) : (mixC l z).length = l.length + z.length := by simp [mixC, intsV]
theorem mixC_get (l : List Int) (z : List Value) (i : Nat) (h : i < l.length) : (mixC l z)[i]? = some (.int .i64 (nth l i)) := by
  unfold mixC
  rw [List.getElem?_append_left (by rw [intsV_len]; exact h)]
  simp [intsV, nth, List.getD, h]
theorem mixC_set (l : List Int) (z : List Value) (i : Nat) (x : Int) (h : i < l.length) : (mixC l z).set i (.int .i64 x) = mixC (l.set i x) z := by
  unfold mixC intsV
  rw [List.set_append_left _ _ (by simpa using h), List.map_set]
theorem mixC_part (l : List Int) (z : List Value) (o n : Nat) (h : o + n ≤ l.length) : ((mixC l z).drop o).take n = intsV (prt l o n) := by
  rw [← prt_eq l o n h]
  unfold mixC intsV
  rw [List.drop_append_of_le_length (by simp; omega), List.take_append_of_le_length (by simp; omega), ← List.map_drop, ← List.map_take]
theorem mixC_spl (l : List Int) (z : List Value) (o : Nat) (M : List Int) (h : o + M.length ≤ l.length) : splV (mixC l z) o (intsV M) = mixC (ovr l o M) z := by
  rw [← ovr_eq l o M h]
  unfold splV mixC
  rw [intsV_len, List.take_append_of_le_length (by rw [intsV_len]; omega), List.drop_append_of_le_length (by rw [intsV_len]; exact h)]
  simp [intsV, List.map_take, List.map_drop]
theorem mixC_one (l : List Int) (z : List Value) (h : ∀ v ∈ z, v.oneCell' = true) : ∀ v ∈ mixC l z, v.oneCell' = true := by
  intro v hv
  rcases List.mem_append.1 hv with q | q
  · exact intsV_one l v q
  · exact h v q
theorem BlkV.ints {w : World} {b : Nat} {T : TypeId} {l : List Int} {z : List Value} (h : BlkV w b T (mixC l z)) (o n c : Nat) (hn : o + n ≤ l.length) (hc : n ≤ c) : Ints w (.slice (some ⟨b, o, none⟩) n c) (prt l o n) := by
  refine ⟨some ⟨b, o, none⟩, c, by rw [prt_len], by rw [prt_len]; exact hc, fun _ => ⟨_, rfl, fun i hi => ?_⟩⟩
  rw [prt_len] at hi
  rw [Addr.add_mid, h.cell, mixC_get _ _ _ (by omega), prt_nth _ _ _ _ hi]
end Go.Proofs.Ytekdgohomaeeeaa

/- DualMath -/
namespace Go.Proofs.Ytekdgohomaeeeaa

end Go.Proofs.Ytekdgohomaeeeaa

/- PowMath -/
namespace Go.Proofs.Ytekdgohomaeeeaa

end Go.Proofs.Ytekdgohomaeeeaa

/- GainMath -/
namespace Go.Proofs.Ytekdgohomaeeeaa
open Go.RowKit
set_option linter.unusedVariables false
def fdN (g : Int) : Nat → Int
  | 0 => if 32767 < g then 32767 else g
  | n + 1 => fdN g n * 26214 / 32768
def fdV (g k : Int) : Int := if g < 0 ∨ 6 ≤ k then 0 else fdN g k.toNat
theorem fdN_bd (g : Int) (h : 0 ≤ g) : ∀ n, 0 ≤ fdN g n ∧ fdN g n ≤ 32767
  | 0 => by show 0 ≤ (if 32767 < g then 32767 else g) ∧ (if 32767 < g then 32767 else g) ≤ 32767; split <;> omega
  | n + 1 => by
    have := fdN_bd g h n
    show 0 ≤ fdN g n * 26214 / 32768 ∧ fdN g n * 26214 / 32768 ≤ 32767
    omega
theorem fdV_bd (g k : Int) : 0 ≤ fdV g k ∧ fdV g k ≤ 32767 := by
  unfold fdV
  split
  · omega
  · exact fdN_bd g (by omega) _
theorem fdV6 (g : Int) : fdV g 6 = 0 := if_pos (.inr (Int.le_refl _))
def noS (s : Int) : Int := (s * 31821 + 13849) % 65536
def noZ (x : Int) : Int := if x < 0 then 0 else if 32767 < x then 32767 else x
def noX (s x : Int) : Int := (noS s - 32768) * noZ x / 32768
theorem noS_bd (s : Int) : 0 ≤ noS s ∧ noS s < 65536 := by unfold noS; omega
theorem noZ_bd (x : Int) : 0 ≤ noZ x ∧ noZ x ≤ 32767 := by unfold noZ; split <;> (try split) <;> omega
theorem noP_bd (s x : Int) : -1073709056 ≤ (noS s - 32768) * noZ x ∧ (noS s - 32768) * noZ x ≤ 1073676289 := by
  obtain ⟨a1, a2⟩ := noS_bd s
  obtain ⟨b1, b2⟩ := noZ_bd x
  generalize noZ x = z at *
  generalize noS s = t at *
  have p1 : 0 ≤ (t - 0) * z := Int.mul_nonneg (by omega) b1
  have p2 : 0 ≤ (65535 - t) * z := Int.mul_nonneg (by omega) b1
  rw [Int.sub_mul] at p1 p2 ⊢
  omega
theorem wrap_and16 (x y : Int) (h : x % 65536 = y % 65536) : bits .and .i64 x 65535 = y % 65536 := by
  show IntKind.i64.wrap ((BitVec.ofInt 64 x &&& BitVec.ofInt 64 65535).toNat : Int) = _
  rw [BitVec.toNat_and, BitVec.toNat_ofInt, show (BitVec.ofInt 64 65535).toNat = 2 ^ 16 - 1 by decide, Nat.and_two_pow_sub_one_eq_mod]
  have e : (((x % ((2 ^ 64 : Nat) : Int)).toNat % 2 ^ 16 : Nat) : Int) = y % 65536 := by omega
  rw [e]
  have b0 : 0 ≤ y % 65536 := by omega
  have b1 : y % 65536 < 65536 := by omega
  generalize y % 65536 = n at *
  have e : n % 2 ^ 64 = n := Int.emod_eq_of_lt (by omega) (by omega)
  simp only [IntKind.wrap, IntKind.bits, IntKind.signed, e]
  rw [if_neg (by simp; omega)]
end Go.Proofs.Ytekdgohomaeeeaa

/- SynthMath -/
namespace Go.Proofs.Ytekdgohomaeeeaa
open Go.RowKit
set_option linter.unusedVariables false
set_option linter.unusedSimpArgs false
def gsum (a h : List Int) : Nat → Int
  | 0 => 2048
  | i + 1 => gsum a h i + nth a (i + 1) * nth h i
def gs (a h : List Int) : Int := gsum a h 8 / 4096
end Go.Proofs.Ytekdgohomaeeeaa

/- Btr -/
namespace Go.Proofs.Ytekdgohomaeeeaa

end Go.Proofs.Ytekdgohomaeeeaa

/- PitchMath -/
namespace Go.Proofs.Ytekdgohomaeeeaa
open Go.RowKit
set_option linter.unusedVariables false
set_option linter.unusedSimpArgs false
def pasN (h : List Int) (lag i : Nat) : Int := nth h (80 - lag + i % lag)
def pasV (h : List Int) (lag : Nat) : List Int := tab 40 (pasN h lag)
def pasL (h : List Int) (lag : Int) : List Int := if 20 ≤ lag ∧ lag ≤ 79 then pasV h lag.toNat else []
def pasE (lag : Int) : Int := if 20 ≤ lag ∧ lag ≤ 79 then 0 else 2
theorem pasV_len (h : List Int) (lag : Nat) : (pasV h lag).length = 40 := tab_len _ _
theorem pasL_yes (h : List Int) (lag : Nat) (h1 : 20 ≤ lag) (h2 : lag ≤ 79) : pasL h lag = pasV h lag ∧ pasE lag = 0 :=
  ⟨by unfold pasL; rw [if_pos (by omega)]; rfl, by unfold pasE; rw [if_pos (by omega)]⟩
end Go.Proofs.Ytekdgohomaeeeaa

/- MemMath -/
namespace Go.Proofs.Ytekdgohomaeeeaa
open Go.RowKit
set_option linter.unusedVariables false
set_option linter.unusedSimpArgs false
def mlo (i : Nat) : Int := if i < 8 then -31000 else if i < 96 then -32768 else if i = 98 then 20 else 0
def mhi (i : Nat) : Int := if i < 8 then 31000 else if i < 97 then 32767 else if i = 97 then 18022 else if i = 98 then 79 else if i = 99 then 6 else 65535
def goodM (l : List Int) : Bool := (List.range 101).all fun i => decide (mlo i ≤ nth l i) && decide (nth l i ≤ mhi i)
theorem goodM_iff (l : List Int) : goodM l = true ↔ ∀ i, i < 101 → mlo i ≤ nth l i ∧ nth l i ≤ mhi i := by
  unfold goodM
  rw [List.all_eq_true]
  constructor
  · intro h i hi
    have := h i (List.mem_range.2 hi)
    simpa using this
  · intro h i hi
    have := h i (List.mem_range.1 hi)
    simpa using this
theorem rfl_at (i : Nat) (h : i < 8) : mlo i = -31000 ∧ mhi i = 31000 := ⟨if_pos h, if_pos h⟩
theorem smp_at (i : Nat) (h : 8 ≤ i) (h2 : i < 96) : mlo i = -32768 ∧ mhi i = 32767 := by
  unfold mlo mhi
  rw [if_neg (by omega), if_pos h2, if_neg (by omega), if_pos (by omega)]
  exact ⟨rfl, rfl⟩
def reflB (l : List Int) : Bool := (List.range 8).all fun i => decide (-31000 ≤ nth l i) && decide (nth l i ≤ 31000)
theorem reflB_iff (l : List Int) : reflB l = true ↔ ∀ i, i < 8 → -31000 ≤ nth l i ∧ nth l i ≤ 31000 := by
  unfold reflB
  rw [List.all_eq_true]
  constructor
  · intro h i hi
    have := h i (List.mem_range.2 hi)
    simpa using this
  · intro h i hi
    have := h i (List.mem_range.1 hi)
    simpa using this
theorem right_prt (l : List Int) (o n : Nat) : rightB (prt l o n) = true ↔ ∀ i, i < n → -32768 ≤ nth l (o + i) ∧ nth l (o + i) ≤ 32767 := by
  rw [rightB_iff, prt_len]
  constructor
  · intro h i hi; have := h i hi; rwa [prt_nth _ _ _ _ hi] at this
  · intro h i hi; rw [prt_nth _ _ _ _ hi]; exact h i hi
theorem goodM_parts (l : List Int) : goodM l = true ↔ reflB l = true ∧ rightB (prt l 8 8) = true ∧ rightB (prt l 16 80) = true ∧ (0 ≤ nth l 96 ∧ nth l 96 ≤ 32767) ∧ (0 ≤ nth l 97 ∧ nth l 97 ≤ 18022) ∧ (20 ≤ nth l 98 ∧ nth l 98 ≤ 79) ∧ (0 ≤ nth l 99 ∧ nth l 99 ≤ 6) ∧ (0 ≤ nth l 100 ∧ nth l 100 ≤ 65535) := by
  rw [goodM_iff, reflB_iff, right_prt, right_prt]
  constructor
  · intro h
    refine ⟨fun i hi => ?_, fun i hi => ?_, fun i hi => ?_, h 96 (by omega), h 97 (by omega), h 98 (by omega), h 99 (by omega), h 100 (by omega)⟩
    · have := h i (by omega); rw [(rfl_at i hi).1, (rfl_at i hi).2] at this; exact this
    · have := h (8 + i) (by omega); rw [(smp_at (8 + i) (by omega) (by omega)).1, (smp_at (8 + i) (by omega) (by omega)).2] at this; exact this
    · have := h (16 + i) (by omega); rw [(smp_at (16 + i) (by omega) (by omega)).1, (smp_at (16 + i) (by omega) (by omega)).2] at this; exact this
  · rintro ⟨h1, h2, h3, h4, h5, h6, h7, h8⟩ i hi
    by_cases e1 : i < 8
    · rw [(rfl_at i e1).1, (rfl_at i e1).2]; exact h1 i e1
    · by_cases e2 : i < 16
      · rw [(smp_at i (by omega) (by omega)).1, (smp_at i (by omega) (by omega)).2]
        have := h2 (i - 8) (by omega)
        rwa [show 8 + (i - 8) = i by omega] at this
      · by_cases e3 : i < 96
        · rw [(smp_at i (by omega) (by omega)).1, (smp_at i (by omega) (by omega)).2]
          have := h3 (i - 16) (by omega)
          rwa [show 16 + (i - 16) = i by omega] at this
        · obtain rfl | rfl | rfl | rfl | rfl : i = 96 ∨ i = 97 ∨ i = 98 ∨ i = 99 ∨ i = 100 := by omega
          · exact h4
          · exact h5
          · exact h6
          · exact h7
          · exact h8
def freL : List Int := ((zeros 101).set 98 20).set 100 21845
theorem freL_len : freL.length = 101 := by unfold freL; rw [List.length_set, List.length_set, zeros_len]
theorem freL_good : goodM freL = true := by decide +kernel
abbrev mxO (lag g : Int) (b : List Int) : Prop := b.length = 40 ∧ (20 ≤ lag ∧ lag ≤ 79) ∧ 0 ≤ g ∧ g ≤ 32767
def mxN (v : List Int) (g : Int) (b : List Int) (i : Nat) : Int := c16 ((c16 (nth v i) * g + 8192) / 16384 + c16 (nth b i))
def mxA (v : List Int) (g : Int) (b : List Int) : List Int := tab 40 (mxN v g b)
def mxL (h : List Int) (lag g : Int) (b : List Int) : List Int := if mxO lag g b then mxA (pasL h lag) g b else []
def mxE (lag g : Int) (b : List Int) : Int := if b.length = 40 then (if mxO lag g b then 0 else 2) else 1
theorem mxA_len (v : List Int) (g : Int) (b : List Int) : (mxA v g b).length = 40 := tab_len _ _
theorem mxA_nth (v : List Int) (g : Int) (b : List Int) (i : Nat) (h : i < 40) : nth (mxA v g b) i = mxN v g b i := tab_nth _ _ _ h
theorem mxL_yes {h : List Int} {lag g : Int} {b : List Int} (k : mxO lag g b) : mxL h lag g b = mxA (pasL h lag) g b ∧ mxE lag g b = 0 := ⟨if_pos k, by unfold mxE; rw [if_pos k.1, if_pos k]⟩
theorem mxL_size {h : List Int} {lag g : Int} {b : List Int} (k : b.length ≠ 40) : mxL h lag g b = [] ∧ mxE lag g b = 1 := ⟨if_neg (fun q => k q.1), if_neg k⟩
theorem mxL_range {h : List Int} {lag g : Int} {b : List Int} (k : b.length = 40) (q : ¬ mxO lag g b) : mxL h lag g b = [] ∧ mxE lag g b = 2 := ⟨if_neg q, by unfold mxE; rw [if_pos k, if_neg q]⟩
def kpN (h b : List Int) (i : Nat) : Int := if i < 40 then nth h (i + 40) else c16 (nth b (i - 40))
def kpA (h b : List Int) : List Int := tab 80 (kpN h b)
def kpL (h b : List Int) : List Int := if b.length = 40 then kpA h b else zeros 80
def kpE (b : List Int) : Int := if b.length = 40 then 0 else 1
theorem kpA_len (h b : List Int) : (kpA h b).length = 80 := tab_len _ _
theorem kpL_yes {h b : List Int} (k : b.length = 40) : kpL h b = kpA h b ∧ kpE b = 0 := ⟨if_pos k, if_pos k⟩
theorem kpL_no {h b : List Int} (k : b.length ≠ 40) : kpL h b = zeros 80 ∧ kpE b = 1 := ⟨if_neg k, if_neg k⟩
def sdN (s : Int) : Nat → Int
  | 0 => s
  | k + 1 => noS (sdN s k)
def nzN (s x : Int) (k : Nat) : Int := noX (sdN s k) x
def nzL (s x : Int) (n : Nat) : List Int := tab n (nzN s x)
theorem nzL_len (s x : Int) (n : Nat) : (nzL s x n).length = n := tab_len _ _
theorem nzL_nth (s x : Int) (n i : Nat) (h : i < n) : nth (nzL s x n) i = nzN s x i := tab_nth _ _ _ h
def erN (l : List Int) (half : Int) : Int := if half = 0 ∧ nth l 99 < 6 then nth l 99 + 1 else nth l 99
def erZ (l : List Int) (half : Int) : List Int := nzL (nth l 100) (fdV (nth l 96) (erN l half) / 4) 40
def erX (l : List Int) (half : Int) : List Int := mxA (pasL (prt l 16 80) (nth l 98)) (fdV (nth l 97) (erN l half)) (erZ l half)
def memT (l : List Int) (er sd : Int) (x : List Int) : List Int := ovr ((l.set 99 er).set 100 sd) 16 x
abbrev erO (l : List Int) (half : Int) : Prop := goodM l = true ∧ 0 ≤ half ∧ half ≤ 1
def erM (l : List Int) (half : Int) : List Int := if erO l half then memT l (erN l half) (sdN (nth l 100) 40) (kpA (prt l 16 80) (erX l half)) else zeros 101
def erS (l : List Int) (half : Int) (s : Bool) : Bool := if erO l half then s else false
def erL (l : List Int) (half : Int) : List Int := if erO l half then erX l half else []
def erE (l : List Int) (half : Int) : Int := if erO l half then 0 else 2
theorem erX_len (l : List Int) (half : Int) : (erX l half).length = 40 := mxA_len _ _ _
theorem erZ_len (l : List Int) (half : Int) : (erZ l half).length = 40 := nzL_len _ _ _
theorem er_yes {l : List Int} {half : Int} {s : Bool} (k : erO l half) : erM l half = memT l (erN l half) (sdN (nth l 100) 40) (kpA (prt l 16 80) (erX l half)) ∧ erS l half s = s ∧ erL l half = erX l half ∧ erE l half = 0 := ⟨if_pos k, if_pos k, if_pos k, if_pos k⟩
theorem er_no {l : List Int} {half : Int} {s : Bool} (k : ¬ erO l half) : erM l half = zeros 101 ∧ erS l half s = false ∧ erL l half = [] ∧ erE l half = 2 := ⟨if_neg k, if_neg k, if_neg k, if_neg k⟩
theorem memT_len (l : List Int) (er sd : Int) (x : List Int) : (memT l er sd x).length = l.length := by unfold memT; rw [ovr_len, List.length_set, List.length_set]
theorem setN (l : List Int) (k : Nat) (z : Int) (h : k < l.length) (i : Nat) : nth (l.set k z) i = if i = k then z else nth l i := by
  unfold nth
  by_cases e : i = k
  · subst e; simp [List.getD, h]
  · simp [List.getD, e, List.getElem?_set, Ne.symm e]
theorem memT_nth (l : List Int) (hl : l.length = 101) (er sd : Int) (x : List Int) (hx : x.length = 80) (i : Nat) (hi : i < 101) : nth (memT l er sd x) i = if 16 ≤ i ∧ i < 96 then nth x (i - 16) else if i = 100 then sd else if i = 99 then er else nth l i := by
  unfold memT
  rw [ovr_nth _ _ _ _ (by rw [List.length_set, List.length_set, hl]; exact hi), hx]
  by_cases h1 : 16 ≤ i ∧ i < 96
  · rw [if_pos (by omega), if_pos h1]
  · rw [if_neg (by omega), if_neg h1, setN _ _ _ (by rw [List.length_set]; omega), setN _ _ _ (by omega)]
theorem erN_bd (l : List Int) (half : Int) (hg : goodM l = true) : 0 ≤ erN l half ∧ erN l half ≤ 6 := by
  have h := (goodM_iff l).1 hg 99 (by omega)
  have h' : 0 ≤ nth l 99 ∧ nth l 99 ≤ 6 := h
  unfold erN
  split <;> omega
theorem good_64 {l : List Int} (hl : l.length = 101) (h : goodM l = true) : In64 l := fun i => by
  by_cases hi : i < 101
  · have := (goodM_iff l).1 h i hi
    have : -32768 ≤ mlo i ∧ mhi i ≤ 65535 := by unfold mlo mhi; split <;> (try split) <;> (try split) <;> (try split) <;> (try split) <;> omega
    omega
  · rw [getD_out _ i (by omega)]; omega
theorem er_mix (l : List Int) (half : Int) (hg : goodM l = true) : mxO (nth l 98) (fdV (nth l 97) (erN l half)) (erZ l half) :=
  ⟨erZ_len _ _, (goodM_iff l).1 hg 98 (by omega), fdV_bd _ _⟩
end Go.Proofs.Ytekdgohomaeeeaa

/- Owns -/
namespace Go.Proofs.Ytekdgohomaeeeaa
open Go.RowKit
set_option linter.unusedVariables false
set_option linter.unusedSimpArgs false
set_option maxHeartbeats 1000000
def Own (base : Nat) (w : World) (v : Value) (l : List Int) : Prop := w.ownsRow base 3 1 v l.length (l.map (Value.int .i64))
theorem Own.ints {base : Nat} {w : World} {v : Value} {l : List Int} (h : Own base w v l) : Ints w v l := Ints_of_owns h
theorem Own.keep {base : Nat} {w w' : World} {v : Value} {l : List Int} (h : Own base w v l) (g : w.grownBy w' none) : Own base w' v l :=
  h.kept g (by rcases v.ownBlock with _ | b <;> simp)
theorem Own.keepBut {base : Nat} {w w' : World} {v : Value} {l : List Int} {b : Nat} {cs : Array Value} {t : TypeId} {f : Nat × Nat} (h : Own base w v l) (g : w.grownBy w' (some b)) (hb : w.heap[b]? = some (.cells cs t f)) (ht : t ≠ 3) : Own base w' v l := by
  refine h.kept g ?_
  rcases h.2 with ⟨rfl, _⟩ | ⟨g', cap, cur, rfl, _, hg, _⟩
  · exact .inl rfl
  · right
    intro e
    simp [Value.ownBlock] at e
    subst e
    rw [hg] at hb
    simp at hb
    exact ht hb.2.1.symm
theorem Own.base {b b' : Nat} {w : World} {v : Value} {l : List Int} (h : Own b w v l) (hb : b' ≤ b) : Own b' w v l := by
  refine ⟨h.1, ?_⟩
  rcases h.2 with h | ⟨g, cap, cur, e, h1, h2⟩
  · exact .inl h
  · exact .inr ⟨g, cap, cur, e, by omega, h2⟩
theorem Own_nil (b : Nat) (w : World) : Own b w (.slice none 0 0) [] := World.ownsRow_nil _ _ _ _
theorem Own.lt {base : Nat} {w : World} {v : Value} {l : List Int} (h : Own base w v l) (g : Nat) (hg : v.ownBlock = some g) : base ≤ g ∧ g < w.heap.size := by
  rcases h.2 with ⟨rfl, _⟩ | ⟨g', cap, cur, rfl, h1, h2, _⟩
  · cases hg
  · simp [Value.ownBlock] at hg
    subst hg
    exact ⟨h1, lt_of_some h2⟩
theorem Own.apart {N : Nat} {w : World} {va vb : Value} {B : List Int} (hlt : ∀ g, va.ownBlock = some g → g < N) (hb : Own N w vb B) : va.ownBlock = none ∨ va.ownBlock ≠ vb.ownBlock := by
  rcases ea : va.ownBlock with _ | g
  · exact .inl rfl
  · right
    intro e
    have := (hb.lt g e.symm).1
    have := hlt g ea
    omega
theorem Own.form {base : Nat} {w : World} {v : Value} {l : List Int} (h : Own base w v l) (hl : 0 < l.length) : ∃ g cap, v = .slice (some ⟨g, 0, none⟩) l.length cap ∧ base ≤ g ∧ g < w.heap.size ∧ l.length ≤ cap := by
  rcases h.2 with ⟨_, h0⟩ | ⟨g, cap, cur, hv, hb, hg, hn, _⟩
  · omega
  · exact ⟨g, cap, hv, hb, lt_of_some hg, hn⟩
theorem Own.cell {base : Nat} {w : World} {g cap n : Nat} {l : List Int} (h : Own base w (.slice (some ⟨g, 0, none⟩) n cap) l) (hn : n = l.length) (j : Nat) (hj : j < l.length) : w.cell? ⟨g, j, none⟩ = some (.int .i64 (nth l j)) := by
  subst hn
  have := World.ownsRow.cellAt h j (by omega)
  rw [this]
  simp [nth, List.getD, hj]
theorem Own.free {base : Nat} {w : World} {g cap n : Nat} {l : List Int} (h : Own base w (.slice (some ⟨g, 0, none⟩) n cap) l) (hn : n = l.length) (j : Nat) : w.frozen? ⟨g, j, none⟩ = false := by
  subst hn
  exact World.ownsRow.frozenAt h j
theorem Own.set {base : Nat} {w : World} {g cap n : Nat} {l : List Int} (h : Own base w (.slice (some ⟨g, 0, none⟩) n cap) l) (hn : n = l.length) (j : Nat) (z : Int) : Own base (w.setCell ⟨g, j, none⟩ (.int .i64 z)) (.slice (some ⟨g, 0, none⟩) n cap) (l.set j z) ∧ w.grownBy (w.setCell ⟨g, j, none⟩ (.int .i64 z)) (some g) := by
  subst hn
  have := World.ownsRow.stored h j (.int .i64 z)
  refine ⟨?_, this.2⟩
  unfold Own
  rw [List.length_set, List.map_set]
  exact this.1
theorem Own.keepLt {base : Nat} {w w' : World} {v : Value} {l : List Int} {b : Nat} (h : Own base w v l) (g : w.grownBy w' (some b)) (hb : b < base) : Own base w' v l := by
  refine h.kept g ?_
  rcases e : v.ownBlock with _ | c
  · exact .inl rfl
  · right
    intro e'
    have := (h.lt c e).1
    cases e'
    omega
end Go.Proofs.Ytekdgohomaeeeaa

/- RegA -/
namespace Go.Proofs.Ytekdgohomaeeeaa
open Go.RowKit
set_option linter.unusedVariables false
def GrownW (w w' : World) : Prop := w.grownBy w' none
theorem gw_start (w : World) : GrownW w w.drew := grown_drew (grown_refl w none)
theorem gw_trans {w u u' : World} (h : GrownW w u) (g : u.grownBy u' none) : GrownW w u' := grown_none h g
end Go.Proofs.Ytekdgohomaeeeaa

/- EndMath -/
namespace Go.Proofs.Ytekdgohomaeeeaa
open Go.RowKit
set_option linter.unusedVariables false
set_option linter.unusedSimpArgs false
def Mem1 (w wr : World) (T : TypeId) (a : List Int) : Prop := Blk wr w.heap.size T a ∧ w.grownBy wr none
theorem Mem1.set {w wr : World} {T : TypeId} {a : List Int} (h : Mem1 w wr T a) (k : Nat) (z : Int) : Mem1 w (wr.setCell ⟨w.heap.size, k, none⟩ (.int .i64 z)) T (a.set k z) :=
  ⟨h.1.set k z, grown_own h.2 (grown_setCell _ ⟨w.heap.size, k, none⟩ _) (by simp)⟩
def PartN (n : Nat) (f : Int → Int) (a : List Int) (k : Nat) (rs : List Int) : Prop := FillN n (fun i => f (nth a i)) k rs ∧ ∀ j, k ≤ j → nth rs j = nth a j
theorem partN_step {n : Nat} {f : Int → Int} {a : List Int} {k : Nat} {rs : List Int} (h : PartN n f a k rs) (hk : k < n) : PartN n f a (k + 1) (rs.set k (f (nth a k))) := by
  refine ⟨fillN_step h.1 hk, fun j hj => ?_⟩
  rw [← h.2 j (by omega)]
  simp [nth, List.getD, List.getElem?_set, show ¬ k = j by omega]
end Go.Proofs.Ytekdgohomaeeeaa

/- SynW -/
namespace Go.Proofs.Ytekdgohomaeeeaa
open Go.RowKit
set_option linter.unusedVariables false
set_option linter.unusedSimpArgs false
def ListE (w : World) (L : List Int) (en : Int) (e : Ending) (w' : World) : Prop := ∃ v', e = .returned (.tuple #[v', .int .i64 en]) ∧ Own w.heap.size w' v' L ∧ w.grownBy w' none
end Go.Proofs.Ytekdgohomaeeeaa

/- ConX -/
namespace Go.Proofs.Ytekdgohomaeeeaa
open Go.RowKit
set_option linter.unusedVariables false
set_option linter.unusedSimpArgs false
theorem size80c : (Try.prog.info? 23).map (·.size) = some 80 := by kernel_rfl
theorem z80 : (Try.prog.info? 23).bind (·.zero) = some (.agg (arrI (zeros 80))) := by kernel_rfl
theorem Ints_cell {w : World} {ad : Option Addr} {n c : Nat} {l : List Int} (h : Ints w (.slice ad n c) l) (k : Nat) (hk : k < l.length) : ∃ a, ad = some a ∧ w.cell? (a.add k) = some (.int .i64 (nth l k)) := by
  obtain ⟨ad', c', e, _, h2⟩ := h
  simp only [Value.slice.injEq] at e
  obtain ⟨rfl, e2, rfl⟩ := e
  obtain ⟨a, rfl, h3⟩ := h2 (by omega)
  exact ⟨a, rfl, h3 k hk⟩
def AnsC (w : World) (v : Value) (e : Ending) (w' : World) : Prop := e = .returned v ∧ w.grownBy w' none
def KepE (w : World) (m : List Int) (en : Int) (e : Ending) (w' : World) : Prop := e = .returned (.tuple #[.agg (arrI m), .int .i64 en]) ∧ w.grownBy w' none
def In1 (x : Int) : Prop := -9223372036854775808 ≤ x ∧ x ≤ 9223372036854775807
end Go.Proofs.Ytekdgohomaeeeaa

/- ConW -/
namespace Go.Proofs.Ytekdgohomaeeeaa
open Go.RowKit
set_option linter.unusedVariables false
set_option linter.unusedSimpArgs false
def memC (l : List Int) (s : Bool) : List Value := mixC l [.bool s]
def memV (l : List Int) (s : Bool) : Value := .agg (memC l s).toArray
theorem memC_len {l : List Int} (h : l.length = 101) (s : Bool) : (memC l s).length = 102 := by unfold memC; rw [mixC_len, h]; rfl
theorem memC_one (l : List Int) (s : Bool) : ∀ v ∈ memC l s, v.oneCell' = true := mixC_one _ _ (by intro v hv; simp at hv; subst hv; rfl)
theorem zMem : (Try.prog.info? 25).bind (·.zero) = some (memV (zeros 101) false) := by kernel_rfl
theorem size102 : (Try.prog.info? 25).map (·.size) = some 102 := by kernel_rfl
theorem size8 : (Try.prog.info? 22).map (·.size) = some 8 := by kernel_rfl
theorem zero_mem (w : World) : Sem.run Try.prog (zeroValue 25) w = .ok (memV (zeros 101) false) w := by
  have hz := zMem
  cases hq : Try.prog.info? 25 with
  | none => simp [hq] at hz
  | some i =>
    have hi : i.zero = some (memV (zeros 101) false) := by simpa [hq] using hz
    simp [zeroValue, typeInfo, hq, hi]
def BlkM (w : World) (b : Nat) (l : List Int) (s : Bool) : Prop := BlkV w b 25 (memC l s)
theorem BlkM.cell {w : World} {b : Nat} {l : List Int} {s : Bool} (h : BlkM w b l s) (i : Nat) (hi : i < l.length) : w.cell? ⟨b, i, none⟩ = some (.int .i64 (nth l i)) := (BlkV.cell h i).trans (mixC_get _ _ _ hi)
theorem BlkM.free {w : World} {b : Nat} {l : List Int} {s : Bool} (h : BlkM w b l s) (i : Nat) : w.frozen? ⟨b, i, none⟩ = false := BlkV.free h i
theorem BlkM.keep {w w' : World} {b : Nat} {l : List Int} {s : Bool} (h : BlkM w b l s) (g : w.grownBy w' none) : BlkM w' b l s := BlkV.keep h g
theorem BlkM.keepBut {w w' : World} {b : Nat} {l : List Int} {s : Bool} {r : Nat} (h : BlkM w b l s) (g : w.grownBy w' (some r)) (hr : b ≠ r) : BlkM w' b l s := BlkV.keepBut h g hr
theorem BlkM.lt {w : World} {b : Nat} {l : List Int} {s : Bool} (h : BlkM w b l s) : b < w.heap.size := BlkV.lt h
theorem BlkM.new (w : World) (l : List Int) (s : Bool) : BlkM (w.alloc (.cells (memC l s).toArray 25)) w.heap.size l s := BlkV.new w _ _
theorem BlkM.set {w : World} {b : Nat} {l : List Int} {s : Bool} (h : BlkM w b l s) (k : Nat) (z : Int) (hk : k < l.length) : BlkM (w.setCell ⟨b, k, none⟩ (.int .i64 z)) b (l.set k z) s := by
  have := BlkV.set h k (.int .i64 z)
  unfold memC at this
  rw [mixC_set _ _ _ _ hk] at this
  exact this
theorem BlkM.put {w : World} {b : Nat} {l : List Int} {s : Bool} (h : BlkM w b l s) (o : Nat) (M : List Int) (hl : o + M.length ≤ l.length) : BlkM (putV w b o (intsV M)) b (ovr l o M) s ∧ w.grownBy (putV w b o (intsV M)) (some b) := by
  have := put_v h o (intsV M) (by rw [intsV_len]; unfold memC; rw [mixC_len]; omega)
  unfold memC at this
  rw [mixC_spl _ _ _ _ hl] at this
  exact this
theorem BlkM.putAll {w : World} {b : Nat} {l m : List Int} {s t : Bool} (h : BlkM w b l s) (hl : l.length = 101) (hm : m.length = 101) : BlkM (putV w b 0 (memC m t)) b m t ∧ w.grownBy (putV w b 0 (memC m t)) (some b) := by
  have := put_v h 0 (memC m t) (by rw [memC_len hm, memC_len hl]; omega)
  rw [splV_all _ _ (by rw [memC_len hm, memC_len hl])] at this
  exact this
theorem BlkM.part {l : List Int} (s : Bool) (o n : Nat) (h : o + n ≤ l.length) : ((memC l s).drop o).take n = intsV (prt l o n) := mixC_part _ _ _ _ h
theorem BlkM.all {l : List Int} (s : Bool) (h : l.length = 101) : ((memC l s).drop 0).take 102 = memC l s := by rw [List.drop_zero, List.take_of_length_le (by rw [memC_len h]; omega)]
theorem BlkM.ints {w : World} {b : Nat} {l : List Int} {s : Bool} (h : BlkM w b l s) (o n c : Nat) (hn : o + n ≤ l.length) (hc : n ≤ c) : Ints w (.slice (some ⟨b, o, none⟩) n c) (prt l o n) := BlkV.ints h o n c hn hc
def MemE (w : World) (m : List Int) (s : Bool) (L : List Int) (en : Int) (e : Ending) (w' : World) : Prop := ∃ v', e = .returned (.tuple #[memV m s, v', .int .i64 en]) ∧ Own w.heap.size w' v' L ∧ w.grownBy w' none
def CGd (f : Nat) (w : World) : Prop := ∀ (l : List Int) (s : Bool), l.length = 101 → In64 l → ∀ wr, w.grownBy wr none → Calls Try.prog f #[memV l s] wr (AnsC wr (.bool (goodM l)))
def CFr (f : Nat) (w : World) : Prop := ∀ wr, w.grownBy wr none → Calls Try.prog f #[] wr (AnsC wr (memV freL false))
def CEr (f : Nat) (w : World) : Prop := ∀ (l : List Int) (s : Bool) (half : Int), l.length = 101 → In64 l → In1 half → ∀ wr, w.grownBy wr none → Calls Try.prog f #[memV l s, .int .i64 half] wr (MemE wr (erM l half) (erS l half s) (erL l half) (erE l half))
theorem freL_64 : In64 freL := good_64 freL_len freL_good
end Go.Proofs.Ytekdgohomaeeeaa

/- MemS -/
namespace Go.Proofs.Ytekdgohomaeeeaa
open Go.RowKit
set_option linter.unusedVariables false
set_option linter.unusedSimpArgs false
def MmS (w : World) (l : List Int) (s : Bool) (wr : World) : Prop := BlkM wr w.heap.size l s ∧ BlkM wr (w.heap.size + 1) (zeros 101) false ∧ w.grownBy wr none
theorem MmS.new (w : World) (l : List Int) (s : Bool) : MmS w l s ((w.alloc (.cells (memC l s).toArray 25)).alloc (.cells (memC (zeros 101) false).toArray 25)) := by
  refine ⟨(BlkM.new w l s).keep (grown_alloc _ _ none), ?_, grown_none (grown_alloc _ _ none) (grown_alloc _ _ none)⟩
  have := BlkM.new (w.alloc (.cells (memC l s).toArray 25)) (zeros 101) false
  simpa using this
theorem MmS.keep {w : World} {l : List Int} {s : Bool} {wr wr' : World} (h : MmS w l s wr) (g : wr.grownBy wr' none) : MmS w l s wr' := ⟨h.1.keep g, h.2.1.keep g, grown_none h.2.2 g⟩
theorem MmS.set {w : World} {l : List Int} {s : Bool} {wr : World} (h : MmS w l s wr) (k : Nat) (z : Int) (hk : k < l.length) : MmS w (l.set k z) s (wr.setCell ⟨w.heap.size, k, none⟩ (.int .i64 z)) :=
  ⟨h.1.set k z hk, h.2.1.keepBut (grown_setCell wr ⟨w.heap.size, k, none⟩ _) (by simp), grown_own h.2.2 (grown_setCell wr ⟨w.heap.size, k, none⟩ _) (Nat.le_refl _)⟩
theorem MmS.put {w : World} {l : List Int} {s : Bool} {wr : World} (h : MmS w l s wr) (o : Nat) (M : List Int) (hl : o + M.length ≤ l.length) : MmS w (ovr l o M) s (putV wr w.heap.size o (intsV M)) := by
  have := h.1.put o M hl
  exact ⟨this.1, h.2.1.keepBut this.2 (by omega), grown_own h.2.2 this.2 (Nat.le_refl _)⟩
theorem MmS.fin {w : World} {l : List Int} {s : Bool} {wr : World} (h : MmS w l s wr) (m : List Int) (t : Bool) (hm : m.length = 101) : BlkM (putV wr (w.heap.size + 1) 0 (memC m t)) (w.heap.size + 1) m t ∧ w.grownBy (putV wr (w.heap.size + 1) 0 (memC m t)) none := by
  have := h.2.1.putAll (m := m) (t := t) (zeros_len 101) hm
  exact ⟨this.1, grown_own h.2.2 this.2 (by omega)⟩
theorem set_self (l : List Int) (k : Nat) (h : k < l.length) : l.set k (nth l k) = l := by
  apply List.ext_getElem?
  intro i
  rw [List.getElem?_set]
  by_cases e : k = i
  · subst e; simp [h, nth, List.getD]
  · simp [e]
theorem prt_set (l : List Int) (k : Nat) (z : Int) (o n : Nat) (hk : k < l.length) (h : k < o ∨ o + n ≤ k) : prt (l.set k z) o n = prt l o n := by
  refine tab_ext (prt_len _ _ _) (fun i hi => ?_)
  rw [prt_nth _ _ _ _ hi, setN _ _ _ hk, if_neg (by omega)]
end Go.Proofs.Ytekdgohomaeeeaa

/- LpcA -/
namespace Go.Proofs.Ytekdgohomaeeeaa
open Go.RowKit
set_option linter.unusedVariables false
set_option linter.unusedSimpArgs false
set_option maxHeartbeats 1000000
def Ans (w : World) (r : Value) (e : Ending) (w' : World) : Prop := e = .returned r ∧ w' = w
def AnsG (w : World) (r : Value) (e : Ending) (w' : World) : Prop := e = .returned r ∧ w.grownBy w' none
end Go.Proofs.Ytekdgohomaeeeaa

/- Base -/
namespace Go.Proofs.Ytekdgohomaeeeaa

end Go.Proofs.Ytekdgohomaeeeaa

/- SynA -/
namespace Go.Proofs.Ytekdgohomaeeeaa

end Go.Proofs.Ytekdgohomaeeeaa

/- SynB -/
namespace Go.Proofs.Ytekdgohomaeeeaa

end Go.Proofs.Ytekdgohomaeeeaa

/- Order -/
namespace Go.Proofs.Ytekdgohomaeeeaa
set_option linter.unusedVariables false
section
variable {P : Program} {ops : Array Oper} {Q : Exit → Act → World → Prop} {md : Region.Mode} {S : World → Prop} {g : Nat}
def Closed (md : Region.Mode) (ops : Array Oper) (listed : Array Bool) : Prop :=
  ∀ j oj, ops[j]? = some oj → listed.getD j false = true → ∀ e ∈ oj.after, Region.binds md e = true → listed.getD e.on false = true
theorem getD_set_inv {listed : Array Bool} {i j : Nat} (h : (listed.setIfInBounds i true).getD j false = true) : j = i ∨ listed.getD j false = true := by
  by_cases hij : i = j
  · exact Or.inl hij.symm
  · rw [getD_set_ne false hij] at h; exact Or.inr h
theorem Closed.set {listed : Array Bool} {i : Nat} (h : Closed md ops listed) (hi : i ∈ Region.ready md ops listed) : Closed md ops (listed.setIfInBounds i true) := by
  intro j oj hj hl e he hb
  apply getD_set_true
  rcases getD_set_inv hl with rfl | hl
  · obtain ⟨_, o, ho, hall⟩ := mem_ready.1 hi
    rw [hj] at ho; cases ho
    exact hall e he hb
  · exact h j oj hj hl e he hb
theorem Closed.zero (n : Nat) : Closed md ops (Array.replicate n false) := fun j oj _ hl => by rw [getD_replicate_false] at hl; cases hl
def anc (md : Region.Mode) (ops : Array Oper) (i : Nat) : Nat → Nat → Bool
  | 0, _ => false
  | f + 1, j => Region.waitsFor md ops j i || (List.range ops.size).any fun n => Region.waitsFor md ops j n && anc md ops i f n
theorem anc_spec {i : Nat} {listed : Array Bool} (hc : Closed md ops listed) (hi : listed.getD i false = false) : ∀ (f j : Nat), anc md ops i f j = true → listed.getD j false = false ∧ j ∉ Region.ready md ops listed
  | 0, j, h => by cases h
  | f + 1, j, h => by
    have key : ∀ n, Region.waitsFor md ops j n = true → listed.getD n false = false → listed.getD j false = false ∧ j ∉ Region.ready md ops listed := by
      intro n hw hn
      obtain ⟨oj, hj, e, he, hb, hon⟩ := Region.waitsFor_spec hw
      refine ⟨?_, ?_⟩
      · cases hl : listed.getD j false
        · rfl
        · have := hc j oj hj hl e he hb; rw [hon, hn] at this; cases this
      · intro hr
        obtain ⟨_, o, ho, hall⟩ := mem_ready.1 hr
        rw [hj] at ho; cases ho
        have := hall e he hb; rw [hon, hn] at this; cases this
    simp only [anc, Bool.or_eq_true, List.any_eq_true, List.mem_range, Bool.and_eq_true] at h
    rcases h with h | ⟨n, _, h1, h2⟩
    · exact key i h hi
    · exact key n h1 (anc_spec hc hi f n h2).1
def wpAnyG (P : Program) (md : Region.Mode) (ops : Array Oper) (Q : Exit → Act → World → Prop) (S : World → Prop) (g : Nat) : Nat → Array Bool → Act → World → Prop
  | 0, listed, a, w => Region.ready md ops listed = [] ∧ Q .normal a w
  | fuel + 1, listed, a, w =>
    (Region.ready md ops listed = [] → Q .normal a w) ∧
    ∀ i ∈ Region.ready md ops listed, wpOp P ops Q i (fun a' w' => ((listed.setIfInBounds i true).getD g false = false → S w') ∧ wpAnyG P md ops Q S g fuel (listed.setIfInBounds i true) a' w') a w
theorem wpAny_of_G : ∀ (fuel : Nat) (listed : Array Bool) (a : Act) (w : World), wpAnyG P md ops Q S g fuel listed a w → wpAny P md ops Q fuel listed a w
  | 0, _, _, _, h => h
  | fuel + 1, _, _, _, h => ⟨h.1, fun i hi => wpOp_mono (fun a' w' h' => wpAny_of_G fuel _ a' w' h'.2) (h.2 i hi)⟩
theorem wpAnyG_of_any : ∀ (fuel : Nat) (listed : Array Bool) (a : Act) (w : World), listed.getD g false = true → wpAny P md ops Q fuel listed a w → wpAnyG P md ops Q S g fuel listed a w
  | 0, _, _, _, _, h => h
  | fuel + 1, listed, _, _, hg, h => ⟨h.1, fun i hi => wpOp_mono (fun a' w' h' => ⟨fun e => (by rw [getD_set_true hg] at e; cases e), wpAnyG_of_any fuel _ a' w' (getD_set_true hg) h'⟩) (h.2 i hi)⟩
def Alone (md : Region.Mode) (ops : Array Oper) (i : Nat) (oi : Oper) (listed : Array Bool) : Prop :=
  ∀ j oj, ops[j]? = some oj → j ≠ i → listed.getD j true = false → (∀ e ∈ oj.after, Region.binds md e = true → e.on ≠ i) → oi.apart ops oj = true
theorem Alone.more {i j : Nat} {oi : Oper} {listed : Array Bool} (h : Alone md ops i oi listed) : Alone md ops i oi (listed.setIfInBounds j true) := by
  intro k ok hk hki hun
  have hl : listed.getD k true = false := by
    rcases Nat.decEq j k with hjk | rfl
    · rwa [getD_set_ne true hjk] at hun
    · rcases Nat.lt_or_ge j listed.size with hs | hs
      · simp [hs] at hun
      · simp [hs] at hun
  exact h k ok hk hki hl
theorem ready_free {i j : Nat} {oj : Oper} {listed : Array Bool} (hiun : listed.getD i false = false) (hj : j ∈ Region.ready md ops listed) (hoj : ops[j]? = some oj) : ∀ e ∈ oj.after, Region.binds md e = true → e.on ≠ i := by
  obtain ⟨_, o, ho, hall⟩ := mem_ready.1 hj
  obtain rfl : o = oj := Option.some.inj (ho.symm.trans hoj)
  rintro e he hb rfl
  exact Bool.noConfusion (hiun.symm.trans (hall e he hb))
theorem wpAnyG_first {i f : Nat} {oi : Oper} {v : Value} (hi : ops[i]? = some oi) (hsel : ∀ (j : Nat) (o : Oper) cs b, ops[j]? = some o → o.op ≠ .select cs b)
    (hQ : ∀ c a w, Q (.panic c) (a.put oi.dst v) w → Q (.panic c) a w) (hanc : anc md ops i f g = true) (hgi : g ≠ i) (fuel : Nat) :
    ∀ (listed : Array Bool) (a : Act) (w : World), Closed md ops listed → Alone md ops i oi listed →
      i ∈ Region.ready md ops listed → YieldsIf P ops S oi v a → S w →
      wpAnyG P md ops Q S g fuel (listed.setIfInBounds i true) (a.put oi.dst v) w → wpAnyG P md ops Q S g (fuel + 1) listed a w := by
  induction fuel with
  | zero =>
    intro listed a w _ _ hr hy hS H
    constructor
    · intro h0; rw [h0] at hr; cases hr
    · intro j hj
      rcases Nat.decEq j i with hji | rfl
      · have hnone := ready_mono hj hji
        rw [H.1] at hnone; cases hnone
      · exact hy.wpOp hi hS ⟨fun _ => hS, H⟩
  | succ fuel ih =>
    intro listed a w hcl hal hr hy hS H
    have hiun := getD_both (mem_ready.1 hr).1
    obtain ⟨hgun, hgr⟩ := anc_spec hcl hiun f g hanc
    constructor
    · intro h0; rw [h0] at hr; cases hr
    · intro j hj
      rcases Nat.decEq j i with hji | rfl
      · obtain ⟨hjun, oj, hoj, -⟩ := mem_ready.1 hj
        have hjg : j ≠ g := by rintro rfl; exact hgr hj
        have hgl : ((listed.setIfInBounds i true).setIfInBounds j true).getD g false = false := by
          rw [getD_set_ne false hjg, getD_set_ne false (Ne.symm hgi)]; exact hgun
        have step := wpOp_putIf hoj (hal j oj hoj hji hjun (ready_free hiun hj hoj)) (fun cs b => hsel i oi cs b hi) (fun cs b => hsel j oj cs b hoj) hQ hy (H.2 j (ready_mono hj hji))
        refine wpOp_mono (fun a' w' k => ?_) step
        obtain ⟨ky, ks, kw⟩ := k
        rw [Array.setIfInBounds_comm _ _ (Ne.symm hji)] at kw
        exact ⟨fun _ => ks hgl, ih _ a' w' (hcl.set hj) hal.more (ready_mono hr (Ne.symm hji)) ky (ks hgl) kw⟩
      · exact hy.wpOp hi hS ⟨fun _ => hS, H⟩
theorem wpAnyG_take {i : Nat} {oi : Oper} {v : Value} {fuel : Nat} {listed : Array Bool} {a : Act} {w : World} (hi : ops[i]? = some oi)
    (hst : (Region.noSelect ops && Region.free md ops listed i && (Region.ready md ops listed).contains i && anc md ops i ops.size g && g != i) = true)
    (hcl : Closed md ops listed)
    (hQ : ∀ c a w, Q (.panic c) (a.put oi.dst v) w → Q (.panic c) a w) (hy : YieldsIf P ops S oi v a) (hS : S w)
    (h : Closed md ops (listed.setIfInBounds i true) → wpAnyG P md ops Q S g fuel (listed.setIfInBounds i true) (a.put oi.dst v) w) : wpAnyG P md ops Q S g (fuel + 1) listed a w := by
  simp only [Bool.and_eq_true, bne_iff_ne] at hst
  obtain ⟨⟨⟨⟨h1, h2⟩, h3⟩, h4⟩, h5⟩ := hst
  have h3' : i ∈ Region.ready md ops listed := by simpa using h3
  exact wpAnyG_first hi (Region.noSelect_spec h1) hQ h4 h5 fuel listed a w hcl (Region.free_spec hi h2) h3' hy hS (h (hcl.set h3'))
theorem wpAnyG_exec {i : Nat} {o : Oper} {fuel : Nat} {listed : Array Bool} {a : Act} {w : World} (ho : ops[i]? = some o) (hr : Region.ready md ops listed = [i]) (hcl : Closed md ops listed)
    (h : ∀ K' : Act → World → Prop, Shut (∀ a w, ((listed.setIfInBounds i true).getD g false = false → S w) → (Closed md ops (listed.setIfInBounds i true) → wpAnyG P md ops Q S g fuel (listed.setIfInBounds i true) a w) → K' a w) → if Region.wanted o (yielded ops a.tmps) = true then Oper.wp P o a w K' Q else K' (a.put o.dst undef) w) :
    wpAnyG P md ops Q S g (fuel + 1) listed a w := by
  refine ⟨fun h0 => (by rw [hr] at h0; cases h0), fun j hj => ?_⟩
  rw [hr] at hj
  have : j = i := by simpa using hj
  subst this
  exact wpOp_step ho (fun K' hK => h K' (fun a w hS hW => hK a w ⟨hS, hW (hcl.set (by rw [hr]; simp))⟩))
theorem wp_region_G {id : Nat} {a : Act} {w : World} (g : Nat) (S : World → Prop) (n : Nat) (hn : ops.size = n) (L : Array Bool) (hL : Array.replicate n false = L) (hm : P.follows .mixedOrders = true) (h : Closed .any ops L → wpAnyG P .any ops Q S g n L a w.drew) : (Code.region id ops true).wp P Q a w := by
  subst hn hL
  exact wp_region_any hm (wpAny_of_G _ _ _ _ (h (Closed.zero _)))
end
end Go.Proofs.Ytekdgohomaeeeaa

/- SynC -/
namespace Go.Proofs.Ytekdgohomaeeeaa

end Go.Proofs.Ytekdgohomaeeeaa

/- Syn -/
namespace Go.Proofs.Ytekdgohomaeeeaa

end Go.Proofs.Ytekdgohomaeeeaa

/- BaseB -/
namespace Go.Proofs.Ytekdgohomaeeeaa
open Go.RowKit
set_option maxHeartbeats 400000
theorem spot_any (v n : Int) (hn : 0 < n) (hn' : n ≤ 4611686018427387904) (w : World) :
    Calls Try.prog 24 #[.int .i64 v, .int .i64 n] w fun e w' => e = .returned (.int .i64 (spotN v n)) ∧ w' = w := by
  have m1 := Int.tmod_lt_of_pos v hn
  have m2 : -n < v.tmod n := by
    have := Int.tmod_lt_of_pos (-v) hn
    rw [Int.neg_tmod] at this; omega
  have e : spotN v n = if v.tmod n < 0 then v.tmod n + n else v.tmod n := by
    unfold spotN
    rw [Int.emod_eq_tmod]
    have hd : 0 ≤ v → 0 ≤ v.tmod n := fun h => Int.tmod_nonneg n h
    have hd' : v < 0 → v.tmod n ≤ 0 := fun h => by
      have := Int.tmod_nonneg n (a := -v) (by omega)
      rw [Int.neg_tmod] at this; omega
    have hdv : n ∣ v ↔ v.tmod n = 0 := Int.dvd_iff_tmod_eq_zero
    have hab : (n.natAbs : Int) = n := by omega
    split <;> split <;> omega
  by_cases h : v.tmod n < 0
  · rw [if_pos h] at e
    rw [e]; clear e
    go_enter Try.func24, Try.ntmps24
    go_wp2
    go_ret
    exact ⟨rfl, rfl⟩
  · rw [if_neg h] at e
    rw [e]; clear e
    go_enter Try.func24, Try.ntmps24
    go_wp2
    go_ret
    exact ⟨rfl, rfl⟩
theorem s16_any (v : Int) (w : World) :
    Calls Try.prog 51 #[.int .i64 v] w fun e w' => e = .returned (.int .i64 (spotN v 65536 - 32768)) ∧ w' = w := by
  have h1 : 0 ≤ spotN v 65536 := by unfold spotN; omega
  have h2 : spotN v 65536 < 65536 := by unfold spotN; omega
  go_enter Try.func51, Try.ntmps51
  go_wp2_with (first | (go_at_call 24; refine (spot_any _ _ (by omega) (by omega) _).mono ?_; rintro e w' ⟨rfl, rfl⟩))
  go_ret
  exact ⟨rfl, rfl⟩
end Go.Proofs.Ytekdgohomaeeeaa

/- KeepL -/
namespace Go.Proofs.Ytekdgohomaeeeaa
open Go.RowKit
set_option linter.unusedVariables false
set_option linter.unusedSimpArgs false
set_option maxHeartbeats 1000000
theorem list_sameK (a b : List Int) (hl : a.length = b.length) (h : ∀ j, j < b.length → nth a j = nth b j) : decide (a = b) = true := by
  apply decide_eq_true
  apply List.ext_getElem hl
  intro i h1 h2
  have := h i h2
  simpa [nth, List.getD, h1, h2] using this
theorem keepSame_any (va vb : Value) (a b : List Int) (w : World) (ha : Ints w va a) (hb : Ints w vb b) (la : a.length ≤ 1000000000000000000) (lb : b.length ≤ 1000000000000000000) :
    Calls Try.prog 26 #[va, vb] w fun e w' => e = .returned (.bool (decide (a = b))) ∧ ∃ n, w' = w.drewN n := by
  obtain ⟨ada, ca, rfl, hca, hva⟩ := ha
  obtain ⟨adb, cb, rfl, hcb, hvb⟩ := hb
  by_cases hl : a.length = b.length
  · have FY := hide (list_sameK a b hl)
    have FN := hide (fun k (h : nth a k ≠ nth b k) => (show decide (a = b) = false from decide_eq_false (fun e => h (by rw [e]))))
    generalize decide (a = b) = d at *
    go_enter Try.func26, Try.ntmps26
    go_wp2_with fail
    go_loopw [5] (fun i wr => ∃ k n : Nat, i = .int .i64 k ∧ k ≤ b.length ∧ Hid (∀ j, j < k → nth a j = nth b j) ∧ wr = w.drewN n) (fun i _ => b.length - (intOf i).toNat)
    case atStart => exact ⟨0, 0, rfl, Nat.zero_le _, fun j hj => by omega, rfl⟩
    case round =>
      obtain ⟨k, n, rfl, hk, hE, rfl⟩ := hrel
      by_cases hkl : k < b.length
      · obtain ⟨a0, rfl, hva'⟩ := hva (by omega)
        obtain ⟨b0, rfl, hvb'⟩ := hvb (by omega)
        have ck := hva' k (by omega)
        have dk := hvb' k hkl
        have GK := hide (fun (e : nth a k = nth b k) => (show ∀ j, j < k + 1 → nth a j = nth b j from fun j hj => by
          rcases Nat.lt_or_ge j k with g | g
          · exact hE.out j g
          · obtain rfl : j = k := by omega
            exact e))
        have NK := hide (FN.out k)
        clear hva hvb hva' hvb' FY FN hE
        generalize nth a k = x at *
        generalize nth b k = y at *
        by_cases hxy : x = y
        · have hb1 : (x == y) = true := by simp [hxy]
          have G := hide (GK.out hxy)
          clear GK NK hxy
          go_wp2_with fail
          go_quiet (fail)
          go_wp2_with fail
          go_roundw
          case rel => exact ⟨k + 1, _, by go_num, by omega, G.out, rfl⟩
          case measure => simp [intOf]; omega
        · have hb1 : (x == y) = false := beq_eq_false_iff_ne.2 hxy
          have D := hide (NK.out hxy)
          clear GK NK hxy
          go_wp2_with fail
          go_quiet (fail)
          go_wp2_with fail
          rw [World.drewN_drewN]
          go_ret
          exact ⟨by rw [D.out]; rfl, _, rfl⟩
      · obtain rfl : k = b.length := by omega
        have D := hide (FY.out hE.out)
        clear hva hvb FY FN hE
        go_wp2_with fail
        go_ret
        exact ⟨by rw [D.out]; rfl, _, rfl⟩
  · have hb0 : ((a.length : Int) == (b.length : Int)) = false := beq_eq_false_iff_ne.2 (by omega)
    have hne : decide (a = b) = false := decide_eq_false (fun e => hl (by rw [e]))
    rw [hne]
    clear hva hvb hne
    go_enter Try.func26, Try.ntmps26
    go_wp2_with fail
    go_ret
    exact ⟨rfl, 0, rfl⟩
def pastN (x : Int) : Int := spotN x 65536 - 32768
def pastL (p : List Int) : List Int := tab 8 (fun i => pastN (nth p i))
theorem pastL_len (p : List Int) : (pastL p).length = 8 := tab_len _ _
set_option maxRecDepth 100000 in
theorem past_any (a : List Int) (ha : a.length = 8) (w : World) :
    Calls Try.prog 42 #[.agg (arrI a)] w (AnsG w (.agg (arrI (pastL a)))) := by
  have L0 := hide (laid2 w 22 22 a (zeros 8))
  rw [z8'] at L0
  go_enter Try.func42, Try.ntmps42
  go_wp2_with fail
  have M0 := hide (show Mem2 w _ 22 22 a (zeros 8) from L0.out)
  clear L0
  generalize (w.alloc (.cells (arrI a) 22)).alloc _ = W0 at *
  go_loopw [4] (fun i wr => ∃ (m : Nat) (rs : List Int), i = .int .i64 m ∧ m ≤ 8 ∧ Hid (PartN 8 pastN a m rs) ∧ Hid (Mem2 w wr 22 22 rs (zeros 8))) (fun i _ => 8 - (intOf i).toNat)
  case atStart => exact ⟨0, a, rfl, Nat.zero_le _, ⟨⟨ha, fun j hj => by omega⟩, fun j hj => rfl⟩, M0.out⟩
  case round =>
    obtain ⟨m, rs, rfl, hm, hF, hM⟩ := hrel
    clear M0
    by_cases hmK : m < 8
    · have hlen : rs.length = 8 := hF.out.1.1
      have cd := hM.out.1.cell m (by omega)
      have fd := hM.out.1.free m
      rw [hF.out.2 m (Nat.le_refl _)] at cd
      have NF := hide (partN_step hF.out hmK)
      have NM := hide (hM.out.set m (pastN (nth a m)))
      have SP := hide (s16_any (nth a m))
      have h1 : 0 ≤ spotN (nth a m) 65536 := by unfold spotN; omega
      have h2 : spotN (nth a m) 65536 < 65536 := by unfold spotN; omega
      rw [show pastN (nth a m) = spotN (nth a m) 65536 - 32768 from rfl] at NM NF
      clear hF hM
      generalize spotN (nth a m) 65536 = q at *
      generalize nth a m = x at *
      have i1 : (m : Int) < 8 := by omega
      go_wp2_with fail
      refine (SP.out _).mono ?_
      rintro e w1 ⟨rfl, rfl⟩
      clear SP
      go_wp2_with fail
      go_roundw
      case rel => exact ⟨m + 1, _, by go_num, by omega, NF.out, NM.out⟩
      case measure => simp [intOf]; omega
    · obtain rfl : m = 8 := by omega
      have hlen : rs.length = 8 := hF.out.1.1
      have EL := hide (show pastL a = rs from (fillN_all hF.out.1).symm)
      have BA := hide hM.out.1
      have BB := hide hM.out.2.1
      have GM := hide hM.out.2.2
      clear hF hM
      go_wp2_with (first | refine wpList_load_arr rfl 22 _ rfl _ rfl _ BA.out _ Try.underlying22 rfl (by rw [hlen]; exact size8') ?_ | refine wpList_store_arr rfl 22 _ _ rfl _ (zeros 8) rs rfl rfl BB.out (by rw [hlen, zeros_len]) (by rw [zeros_len]; exact size8') ?_)
      have PU := put_arr (rs' := rs) BB.out (by rw [hlen, zeros_len])
      have hlv := loadVar_arr PU.1 _ Try.underlying22 rfl (by rw [hlen]; exact size8')
      have GF := hide (grown_own GM.out PU.2 (by omega))
      refine bodyPost_ret (v := .agg (arrI rs)) ?_ rfl ?_
      · simp [results, Try.results42, asAddr, Act.put, hlv]
      · rw [EL.out]; exact ⟨rfl, GF.out⟩
end Go.Proofs.Ytekdgohomaeeeaa

/- HisL -/
namespace Go.Proofs.Ytekdgohomaeeeaa
open Go.RowKit
set_option linter.unusedVariables false
set_option linter.unusedSimpArgs false
set_option maxHeartbeats 1000000
theorem size80i : (Try.prog.info? 23).map (·.size) = some 80 := by kernel_rfl
def hisL (h : List Int) : List Int := tab 80 (fun i => spotN (nth h i) 65536 - 32768)
theorem hisL_len (h : List Int) : (hisL h).length = 80 := tab_len _ _
set_option maxRecDepth 100000 in
theorem history_any (h : List Int) (hh : h.length = 80) (w : World) : Calls Try.prog 43 #[.agg (arrI h)] w (AnsG w (.agg (arrI (hisL h)))) := by
  have L0 := hide (laid2 w 23 23 h (zeros 80))
  have hz := zero_arr (T := 23) (n := 80) (by kernel_rfl)
  have SS := hide (fun x w' => s16_any x w')
  go_enter Try.func43, Try.ntmps43
  go_wp2_with fail
  have M0 := hide (show Mem2 w _ 23 23 h (zeros 80) from L0.out)
  clear L0 hz
  generalize (w.alloc (.cells (arrI h) 23)).alloc _ = W0 at *
  go_loopw [4] (fun i wr => ∃ (m : Nat) (rs : List Int), i = .int .i64 m ∧ m ≤ 80 ∧ Hid (PartN 80 (fun x => spotN x 65536 - 32768) h m rs) ∧ Hid (Mem2 w wr 23 23 rs (zeros 80))) (fun i _ => 80 - (intOf i).toNat)
  case atStart => exact ⟨0, h, rfl, Nat.zero_le _, ⟨⟨hh, fun j hj => by omega⟩, fun j hj => rfl⟩, M0.out⟩
  case round =>
    obtain ⟨m, rs, rfl, hm, hF, hM⟩ := hrel
    clear M0
    by_cases hm80 : m < 80
    · have hlen : rs.length = 80 := hF.out.1.1
      have cd := hM.out.1.cell m (by omega)
      have fd := hM.out.1.free m
      rw [hF.out.2 m (Nat.le_refl _)] at cd
      have NF := hide (partN_step hF.out hm80)
      have NM := hide (hM.out.set m (spotN (nth h m) 65536 - 32768))
      have S1 := hide (SS.out (nth h m))
      clear hF hM SS
      generalize spotN (nth h m) 65536 - 32768 = z at *
      generalize nth h m = x at *
      have i1 : (m : Int) < 80 := by omega
      go_wp2_with fail
      refine (S1.out _).mono ?_
      rintro e w1 ⟨rfl, rfl⟩
      clear S1
      go_wp2_with fail
      go_roundw
      case rel => exact ⟨m + 1, _, by go_num, by omega, NF.out, NM.out⟩
      case measure => simp [intOf]; omega
    · obtain rfl : m = 80 := by omega
      have hlen : rs.length = 80 := hF.out.1.1
      have EL := hide (show hisL h = rs from (fillN_all hF.out.1).symm)
      have BA := hide hM.out.1
      have BB := hide hM.out.2.1
      have GM := hide hM.out.2.2
      clear hF hM SS
      go_wp2_with (first | refine wpList_load_arr rfl 23 _ rfl _ rfl _ BA.out _ Try.underlying23 rfl (by rw [hlen]; exact size80i) ?_ | refine wpList_store_arr rfl 23 _ _ rfl _ (zeros 80) rs rfl rfl BB.out (by rw [hlen, zeros_len]) (by rw [zeros_len]; exact size80i) ?_)
      have PU := put_arr (rs' := rs) BB.out (by rw [hlen, zeros_len])
      have hlv := loadVar_arr PU.1 _ Try.underlying23 rfl (by rw [hlen]; exact size80i)
      have GF := hide (grown_own GM.out PU.2 (by omega))
      refine bodyPost_ret (v := .agg (arrI rs)) ?_ rfl ?_
      · simp [results, Try.results43, asAddr, Act.put, hlv]
      · rw [EL.out]; exact ⟨rfl, GF.out⟩
end Go.Proofs.Ytekdgohomaeeeaa

/- OrderF -/
namespace Go.Proofs.Ytekdgohomaeeeaa
set_option linter.unusedVariables false
section
variable {P : Program} {ops : Array Oper} {Q : Exit → Act → World → Prop} {md : Region.Mode} {S : World → Prop} {g : Nat}
theorem wpAnyG_still {i : Nat} {oi : Oper} {v : Value} (hi : ops[i]? = some oi) (hsel : ∀ (j : Nat) (o : Oper) cs b, ops[j]? = some o → o.op ≠ .select cs b)
    (hQ : ∀ c a w, Q (.panic c) (a.put oi.dst v) w → Q (.panic c) a w) (hgi : g ≠ i) (fuel : Nat) :
    ∀ (listed : Array Bool) (a : Act) (w : World), Alone md ops i oi listed → i ∈ Region.ready md ops listed → YieldsIf P ops (fun _ => True) oi v a → (listed.getD g false = false → S w) →
      wpAnyG P md ops Q S g fuel (listed.setIfInBounds i true) (a.put oi.dst v) w → wpAnyG P md ops Q S g (fuel + 1) listed a w := by
  have here : ∀ (listed : Array Bool) (w : World), (listed.getD g false = false → S w) → ((listed.setIfInBounds i true).getD g false = false → S w) := fun listed w h e => h (by rw [getD_set_ne false (Ne.symm hgi)] at e; exact e)
  induction fuel with
  | zero =>
    intro listed a w _ hr hy hS H
    constructor
    · intro h0; rw [h0] at hr; cases hr
    · intro j hj
      rcases Nat.decEq j i with hji | rfl
      · have hnone := ready_mono hj hji
        rw [H.1] at hnone; cases hnone
      · exact hy.wpOp hi trivial ⟨here _ _ hS, H⟩
  | succ fuel ih =>
    intro listed a w hal hr hy hS H
    have hiun := getD_both (mem_ready.1 hr).1
    constructor
    · intro h0; rw [h0] at hr; cases hr
    · intro j hj
      rcases Nat.decEq j i with hji | rfl
      · obtain ⟨hjun, oj, hoj, -⟩ := mem_ready.1 hj
        have step := wpOp_putIf hoj (hal j oj hoj hji hjun (ready_free hiun hj hoj)) (fun cs b => hsel i oi cs b hi) (fun cs b => hsel j oj cs b hoj) hQ hy (H.2 j (ready_mono hj hji))
        refine wpOp_mono (fun a' w' k => ?_) step
        obtain ⟨ky, ks, kw⟩ := k
        rw [Array.setIfInBounds_comm _ _ (Ne.symm hji)] at kw ks
        have ks' : (listed.setIfInBounds j true).getD g false = false → S w' := fun e => ks (by rw [getD_set_ne false (Ne.symm hgi)]; exact e)
        exact ⟨ks', ih _ a' w' hal.more (ready_mono hr (Ne.symm hji)) ky ks' kw⟩
      · exact hy.wpOp hi trivial ⟨here _ _ hS, H⟩
theorem wpAnyG_takeF {i : Nat} {oi : Oper} {v : Value} {fuel : Nat} {listed : Array Bool} {a : Act} {w : World} (hi : ops[i]? = some oi)
    (hst : (Region.noSelect ops && Region.free md ops listed i && (Region.ready md ops listed).contains i && g != i) = true)
    (hcl : Closed md ops listed)
    (hQ : ∀ c a w, Q (.panic c) (a.put oi.dst v) w → Q (.panic c) a w) (hy : YieldsIf P ops (fun _ => True) oi v a) (hS : S w)
    (h : Closed md ops (listed.setIfInBounds i true) → wpAnyG P md ops Q S g fuel (listed.setIfInBounds i true) (a.put oi.dst v) w) : wpAnyG P md ops Q S g (fuel + 1) listed a w := by
  simp only [Bool.and_eq_true, bne_iff_ne] at hst
  obtain ⟨⟨⟨h1, h2⟩, h3⟩, h5⟩ := hst
  have h3' : i ∈ Region.ready md ops listed := by simpa using h3
  exact wpAnyG_still hi (Region.noSelect_spec h1) hQ h5 fuel listed a w (Region.free_spec hi h2) h3' hy (fun _ => hS) (h (hcl.set h3'))
end
end Go.Proofs.Ytekdgohomaeeeaa

/- KeepM -/
namespace Go.Proofs.Ytekdgohomaeeeaa
open Go.RowKit
set_option linter.unusedVariables false
set_option linter.unusedSimpArgs false
set_option maxHeartbeats 2000000
def memN (l : List Int) (i : Nat) : Int :=
  if i < 8 then spotN (nth l i) 62001 - 31000 else if i < 96 then spotN (nth l i) 65536 - 32768 else if i = 96 then spotN (nth l 96) 32768 else if i = 97 then spotN (nth l 97) 18023 else if i = 98 then 20 + spotN (nth l 98) 60 else if i = 99 then spotN (nth l 99) 7 else spotN (nth l 100) 65536
def memL (l : List Int) : List Int := tab 101 (memN l)
theorem memL_len (l : List Int) : (memL l).length = 101 := tab_len _ _
theorem memL_nth (l : List Int) (i : Nat) (h : i < 101) : nth (memL l) i = memN l i := tab_nth _ _ _ h
theorem memL_good (l : List Int) : goodM (memL l) = true := by
  rw [goodM_iff]
  intro i hi
  rw [memL_nth l i hi]
  unfold memN mlo mhi spotN
  by_cases h1 : i < 8
  · rw [if_pos h1, if_pos h1, if_pos h1]; omega
  · rw [if_neg h1, if_neg h1, if_neg h1]
    by_cases h2 : i < 96
    · rw [if_pos h2, if_pos h2, if_pos (by omega)]; omega
    · rw [if_neg h2, if_neg h2]
      obtain rfl | rfl | rfl | rfl | rfl : i = 96 ∨ i = 97 ∨ i = 98 ∨ i = 99 ∨ i = 100 := by omega
      · simp; omega
      · simp; omega
      · simp; omega
      · simp; omega
      · simp; omega
def RfP (l : List Int) (m : Nat) (rs : List Int) : Prop := rs.length = 101 ∧ (∀ i, i < m → nth rs i = spotN (nth l i) 62001 - 31000) ∧ ∀ i, m ≤ i → nth rs i = nth l i
theorem rfP_step {l : List Int} {m : Nat} {rs : List Int} (h : RfP l m rs) (hm : m < 8) : RfP l (m + 1) (rs.set m (spotN (nth l m) 62001 - 31000)) := by
  refine ⟨by rw [List.length_set]; exact h.1, fun i hi => ?_, fun i hi => ?_⟩
  · rw [setN _ _ _ (by rw [h.1]; omega)]
    by_cases e : i = m
    · rw [if_pos e, e]
    · rw [if_neg e]; exact h.2.1 i (by omega)
  · rw [setN _ _ _ (by rw [h.1]; omega), if_neg (by omega)]; exact h.2.2 i (by omega)
theorem memL_of {l rs : List Int} (h : RfP l 8 rs) : (((((ovr (ovr rs 8 (pastL (prt l 8 8))) 16 (hisL (prt l 16 80))).set 96 (spotN (nth l 96) 32768)).set 97 (spotN (nth l 97) 18023)).set 98 (20 + spotN (nth l 98) 60)).set 99 (spotN (nth l 99) 7)).set 100 (spotN (nth l 100) 65536) = memL l := by
  have hl := h.1
  have l1 : (ovr rs 8 (pastL (prt l 8 8))).length = 101 := by rw [ovr_len]; exact hl
  have l2 : (ovr (ovr rs 8 (pastL (prt l 8 8))) 16 (hisL (prt l 16 80))).length = 101 := by rw [ovr_len]; exact l1
  refine tab_ext (by simp only [List.length_set]; exact l2) (fun i hi => ?_)
  rw [setN _ _ _ (by simp only [List.length_set]; omega), setN _ _ _ (by simp only [List.length_set]; omega), setN _ _ _ (by simp only [List.length_set]; omega), setN _ _ _ (by simp only [List.length_set]; omega), setN _ _ _ (by omega)]
  rw [ovr_nth _ _ _ _ (by omega), ovr_nth _ _ _ _ (by omega), hisL_len, pastL_len]
  unfold memN
  by_cases h1 : i < 8
  · rw [if_neg (by omega), if_neg (by omega), if_neg (by omega), if_neg (by omega), if_neg (by omega), if_neg (by omega), if_neg (by omega), if_pos h1]; exact h.2.1 i h1
  · rw [if_neg h1]
    by_cases h2 : i < 16
    · rw [if_neg (by omega), if_neg (by omega), if_neg (by omega), if_neg (by omega), if_neg (by omega), if_neg (by omega), if_pos (by omega), if_pos (by omega)]
      unfold pastL
      rw [tab_nth _ _ _ (by omega), prt_nth _ _ _ _ (by omega), show 8 + (i - 8) = i by omega]
      rfl
    · by_cases h3 : i < 96
      · rw [if_neg (by omega), if_neg (by omega), if_neg (by omega), if_neg (by omega), if_neg (by omega), if_pos (by omega), if_pos h3]
        unfold hisL
        rw [tab_nth _ _ _ (by omega), prt_nth _ _ _ _ (by omega), show 16 + (i - 16) = i by omega]
      · rw [if_neg h3]
        obtain rfl | rfl | rfl | rfl | rfl : i = 96 ∨ i = 97 ∨ i = 98 ∨ i = 99 ∨ i = 100 := by omega
        · rfl
        · rfl
        · rfl
        · rfl
        · rfl
set_option maxRecDepth 100000 in
theorem memory_any (l : List Int) (s : Bool) (hl : l.length = 101) (w : World) : Calls Try.prog 23 #[memV l s] w (AnsC w (memV (memL l) s)) := by
  have M0 := hide (MmS.new w l s)
  have R0 := hide (show RfP l 0 l from ⟨hl, fun i hi => by omega, fun i _ => rfl⟩)
  have SP := hide (fun x n (h1 : 0 < n) (h2 : n ≤ 4611686018427387904) w' => spot_any x n h1 h2 w')
  have hz := zero_mem
  have ZL := hide (memC_len (zeros_len 101) false)
  have F := hide (show ∀ w', w.grownBy w' none → AnsC w (memV (memL l) s) (.returned (memV (memL l) s)) w' from fun w' q => ⟨rfl, q⟩)
  generalize AnsC w (memV (memL l) s) = T at *
  unfold memV at hz F ⊢
  go_enter Try.func23, Try.ntmps23
  go_upto_region 1 with fail
  generalize (w.alloc (.cells (memC l s).toArray 25)).alloc (.cells (memC (zeros 101) false).toArray 25) = W0 at *
  clear hz
  go_wp2_with fail
  go_loopw [4] (fun i wr => ∃ (m : Nat) (rs : List Int), i = .int .i64 (m : Int) ∧ m ≤ 8 ∧ Hid (RfP l m rs) ∧ Hid (MmS w rs s wr)) (fun i _ => 8 - (intOf i).toNat)
  case atStart => exact ⟨0, l, rfl, Nat.zero_le _, R0.out, M0.out⟩
  case round =>
    obtain ⟨m, R, rfl, hm, hR, hM⟩ := hrel
    clear M0 R0
    by_cases hm8 : m < 8
    · have i1 : (m : Int) < 8 := by omega
      have cd := hM.out.1.cell m (by rw [hR.out.1]; omega)
      have fd := hM.out.1.free m
      rw [hR.out.2.2 m (Nat.le_refl _)] at cd
      have NR := hide (rfP_step hR.out hm8)
      have NM := hide (hM.out.set m (spotN (nth l m) 62001 - 31000) (by rw [hR.out.1]; omega))
      have S1 := hide (SP.out (nth l m) 62001 (by omega) (by omega))
      have sb : 0 ≤ spotN (nth l m) 62001 ∧ spotN (nth l m) 62001 < 62001 := by unfold spotN; omega
      clear hR hM SP
      generalize spotN (nth l m) 62001 = z at *
      generalize nth l m = x at *
      go_wp2_with fail
      refine (S1.out _).mono ?_
      rintro e w1 ⟨rfl, rfl⟩
      clear S1
      go_wp2_with fail
      go_roundw
      case rel => exact ⟨m + 1, _, by go_num, by omega, NR.out, NM.out⟩
      case measure => first | (simp [intOf]; done) | (simp [intOf]; omega)
    · obtain rfl : m = 8 := by omega
      rw [show ((8 : Nat) : Int) = 8 from rfl]
      have LL := hide hR.out.1
      have EQ := hide (memL_of hR.out)
      have E8 := hide (show prt R 8 8 = prt l 8 8 from tab_ext (prt_len _ _ _) (fun i hi => by rw [prt_nth _ _ _ _ hi]; exact hR.out.2.2 _ (by omega)))
      have E16 := hide (show prt R 16 80 = prt l 16 80 from tab_ext (prt_len _ _ _) (fun i hi => by rw [prt_nth _ _ _ _ hi]; exact hR.out.2.2 _ (by omega)))
      have EI := hide (fun i (h : 8 ≤ i) => hR.out.2.2 i h)
      have PA := hide (fun w' => past_any (prt R 8 8) (prt_len _ _ _) w')
      have HI := hide (fun w' => history_any (prt R 16 80) (prt_len _ _ _) w')
      rw [E8.out] at PA
      rw [E16.out] at HI
      have PLL := hide (pastL_len (prt l 8 8))
      have HLL := hide (hisL_len (prt l 16 80))
      have MM := hide hM.out
      clear hR hM
      go_upto_region 6 with fail
      generalize pastL (prt l 8 8) = PL at *
      generalize hisL (prt l 16 80) = HL at *
      obtain ⟨W1, hW1⟩ : ∃ W1, wr = W1 := ⟨_, rfl⟩
      rw [show W1 = wr from hW1.symm] at *
      clear hW1 W1
      refine wp_region_G 7 (fun u => BlkM u w.heap.size R s ∧ wr.grownBy u none) 10 (by rfl) #[false, false, false, false, false, false, false, false, false, false] (by rfl) (by kernel_rfl) (fun hcl => ?_)
      have hHeld := (show BlkM wr.drew w.heap.size R s ∧ wr.grownBy wr.drew none from ⟨MM.out.1.keep (gw_start _), gw_start _⟩)
      refine wpAnyG_take (i := 0) (v := ?vma0) rfl (by kernel_rfl) hcl (fun _ _ _ h => h) (Or.inl ⟨by rfl, ?yma0⟩) hHeld (fun hcl => ?rma0)
      case yma0 => (intro w' hSw; (try dsimp only at hSw); go_simp; (try with_reducible rfl))
      (try simp only [Act.put, sL])
      refine wpAnyG_take (i := 1) (v := .agg (arrI (prt l 8 8))) rfl (by kernel_rfl) hcl (fun _ _ _ h => h) (Or.inl ⟨by rfl, ?yma1⟩) hHeld (fun hcl => ?rma1)
      case yma1 => (intro w' hSw; (try dsimp only at hSw); exact yields_load_v rfl rfl hSw.1 _ Try.underlying22 rfl size8 (by rw [memC_len LL.out]; omega) (intsV (prt l 8 8)) (by rw [BlkM.part s 8 8 (by rw [LL.out]; omega), E8.out]))
      (try simp only [Act.put, sL])
      refine wpAnyG_take (i := 3) (v := ?vma3) rfl (by kernel_rfl) hcl (fun _ _ _ h => h) (Or.inl ⟨by rfl, ?yma3⟩) hHeld (fun hcl => ?rma3)
      case yma3 => (intro w' hSw; (try dsimp only at hSw); go_simp; (try with_reducible rfl))
      (try simp only [Act.put, sL])
      refine wpAnyG_take (i := 4) (v := .agg (arrI (prt l 16 80))) rfl (by kernel_rfl) hcl (fun _ _ _ h => h) (Or.inl ⟨by rfl, ?yma4⟩) hHeld (fun hcl => ?rma4)
      case yma4 => (intro w' hSw; (try dsimp only at hSw); exact yields_load_v rfl rfl hSw.1 _ Try.underlying23 rfl size80c (by rw [memC_len LL.out]; omega) (intsV (prt l 16 80)) (by rw [BlkM.part s 16 80 (by rw [LL.out]; omega), E16.out]))
      (try simp only [Act.put, sL])
      refine wpAnyG_exec (i := 2) rfl (by kernel_rfl) hcl (fun K hK => ?_)
      (try simp only [Act.put, sL])
      go_simp
      refine (PA.out _).mono ?_
      rintro e w1 ⟨rfl, g1⟩
      go_wp2_with fail
      have hNew := (show BlkM w1 w.heap.size R s ∧ wr.grownBy w1 none from ⟨hHeld.1.keep g1, grown_none hHeld.2 g1⟩)
      refine hK.out _ _ (fun _ => hNew) (fun hcl => ?_)
      clear hK
      replace hHeld := hNew
      clear hNew
      (try simp only [Act.put, sL])
      refine wpAnyG_take (i := 6) (v := ?vma6) rfl (by kernel_rfl) hcl (fun _ _ _ h => h) (Or.inl ⟨by rfl, ?yma6⟩) hHeld (fun hcl => ?rma6)
      case yma6 => (intro w' hSw; (try dsimp only at hSw); go_simp; (try with_reducible rfl))
      (try simp only [Act.put, sL])
      refine wpAnyG_exec (i := 5) rfl (by kernel_rfl) hcl (fun K hK => ?_)
      (try simp only [Act.put, sL])
      go_simp
      refine (HI.out _).mono ?_
      rintro e w2 ⟨rfl, g2⟩
      go_wp2_with fail
      have hNew := (show BlkM w2 w.heap.size R s ∧ wr.grownBy w2 none from ⟨hHeld.1.keep g2, grown_none hHeld.2 g2⟩)
      refine hK.out _ _ (fun _ => hNew) (fun hcl => ?_)
      clear hK
      replace hHeld := hNew
      clear hNew
      (try simp only [Act.put, sL])
      refine wpAnyG_exec (i := 7) rfl (by kernel_rfl) hcl (fun K hK => ?_)
      (try simp only [Act.put, sL])
      have M2 := hide (MM.out.keep hHeld.2)
      have P2 := hide (M2.out.put 8 PL (by rw [PLL.out, LL.out]; omega))
      refine step_store_v rfl 22 _ _ rfl w.heap.size 8 25 (memC R s) (intsV PL) rfl rfl M2.out.1 (by rw [intsV_len, PLL.out, memC_len LL.out]; omega) (by rw [intsV_len, PLL.out]; exact size8) (intsV_one _) ?_
      refine hK.out _ _ (fun h => by cases h) (fun hcl => ?_)
      clear hK hHeld
      (try simp only [Act.put, sL])
      clear M2 g1 g2
      generalize putV w2 w.heap.size 8 (intsV PL) = W3 at *
      have LL2 := hide (show (ovr R 8 PL).length = 101 by rw [ovr_len]; exact LL.out)
      refine wpAnyG_of_any _ _ _ _ (by rfl) ?_
      refine wpAny_take (i := 8) (v := ?vma8) rfl (by kernel_rfl) (by kernel_rfl) (by kernel_rfl) (fun _ _ _ h => h) (Or.inl ⟨by rfl, ?yma8⟩) ?rma8
      case yma8 => (intro w'; go_simp; (try with_reducible rfl))
      (try simp only [Act.put, sL])
      refine wpAny_ready (rs := [9]) (by kernel_rfl) (by simp) (AllReady.cons rfl (fun K hK => ?_) AllReady.nil)
      (try simp only [Act.put, sL])
      have HK := hide hK
      clear hK
      have P3 := hide (P2.out.put 16 HL (by rw [HLL.out, LL2.out]; omega))
      refine step_store_v rfl 23 _ _ rfl w.heap.size 16 25 (memC (ovr R 8 PL) s) (intsV HL) rfl rfl P2.out.1 (by rw [intsV_len, HLL.out, memC_len LL2.out]; omega) (by rw [intsV_len, HLL.out]; exact size80c) (intsV_one _) ?_
      refine HK.out _ _ ?_
      clear HK
      (try simp only [Act.put, sL])
      clear P2
      generalize putV W3 w.heap.size 16 (intsV HL) = W4 at *
      refine wpAny_done (by kernel_rfl) ?_ _
      have LQ := hide (show (ovr (ovr R 8 PL) 16 HL).length = 101 by rw [ovr_len]; exact LL2.out)
      have EJ := hide (show ∀ i, 96 ≤ i → i < 101 → nth (ovr (ovr R 8 PL) 16 HL) i = nth l i from fun i h h2 => by rw [ovr_nth _ _ _ _ (by rw [LL2.out]; exact h2), HLL.out, if_neg (by omega), ovr_nth _ _ _ _ (by rw [LL.out]; exact h2), PLL.out, if_neg (by omega)]; exact EI.out i (by omega))
      clear PA HI MM E8 E16 EI LL LL2 PLL HLL
      generalize ovr (ovr R 8 PL) 16 HL = Q at *
      have d1 : 0 ≤ spotN (nth l 98) 60 ∧ spotN (nth l 98) 60 < 60 := by unfold spotN; omega
      have S96 := hide (SP.out (nth l 96) 32768 (by omega) (by omega))
      have S97 := hide (SP.out (nth l 97) 18023 (by omega) (by omega))
      have S98 := hide (SP.out (nth l 98) 60 (by omega) (by omega))
      have S99 := hide (SP.out (nth l 99) 7 (by omega) (by omega))
      have S100 := hide (SP.out (nth l 100) 65536 (by omega) (by omega))
      go_upto_region 7 with fail
      generalize hwy : W4 = wy at *
      clear hwy
      have c96 := P3.out.1.cell 96 (by rw [LQ.out]; omega)
      have c97 := P3.out.1.cell 97 (by rw [LQ.out]; omega)
      have c98 := P3.out.1.cell 98 (by rw [LQ.out]; omega)
      rw [EJ.out 96 (by omega) (by omega)] at c96
      rw [EJ.out 97 (by omega) (by omega)] at c97
      rw [EJ.out 98 (by omega) (by omega)] at c98
      have E99 := hide (EJ.out 99 (by omega) (by omega))
      have E100 := hide (EJ.out 100 (by omega) (by omega))
      have MD := hide (P3.out.keep (gw_start _))
      have L0 := hide LQ.out
      clear P3 EJ SP
      generalize spotN (nth l 96) 32768 = z96 at *
      generalize spotN (nth l 97) 18023 = z97 at *
      generalize spotN (nth l 98) 60 = z98 at *
      generalize spotN (nth l 99) 7 = z99 at *
      generalize spotN (nth l 100) 65536 = z100 at *
      generalize nth l 96 = x96 at *
      generalize nth l 97 = x97 at *
      generalize nth l 98 = x98 at *
      generalize nth l 99 = x99 at *
      generalize nth l 100 = x100 at *
      have W98 := wrapI (20 + z98) (by omega) (by omega)
      have EQ5 := hide (show (((Q.set 96 z96).set 97 z97).set 98 (20 + z98)).length = 101 ∧ nth (((Q.set 96 z96).set 97 z97).set 98 (20 + z98)) 99 = x99 ∧ nth (((Q.set 96 z96).set 97 z97).set 98 (20 + z98)) 100 = x100 from ⟨by simp only [List.length_set]; exact LQ.out, by
        rw [setN _ _ _ (by simp only [List.length_set]; rw [LQ.out]; omega), setN _ _ _ (by simp only [List.length_set]; rw [LQ.out]; omega), setN _ _ _ (by rw [LQ.out]; omega)]; exact E99.out, by
        rw [setN _ _ _ (by simp only [List.length_set]; rw [LQ.out]; omega), setN _ _ _ (by simp only [List.length_set]; rw [LQ.out]; omega), setN _ _ _ (by rw [LQ.out]; omega)]; exact E100.out⟩)
      clear E99 E100 LQ
      refine wp_region_G 11 (fun w' => w' = wy.drew) 16 (by rfl) #[false, false, false, false, false, false, false, false, false, false, false, false, false, false, false, false] (by rfl) (by kernel_rfl) (fun hcl => ?_)
      have hHeld := (rfl : wy.drew = wy.drew)
      refine wpAnyG_take (i := 0) (v := ?vmb0) rfl (by kernel_rfl) hcl (fun _ _ _ h => h) (Or.inl ⟨by rfl, ?ymb0⟩) hHeld (fun hcl => ?rmb0)
      case ymb0 => (intro w' hSw; (try dsimp only at hSw); go_simp; (try with_reducible rfl))
      (try simp only [Act.put, sL])
      refine wpAnyG_take (i := 1) (v := .int .i64 x96) rfl (by kernel_rfl) hcl (fun _ _ _ h => h) (Or.inl ⟨by rfl, ?ymb1⟩) hHeld (fun hcl => ?rmb1)
      case ymb1 => (intro w' hSw; (try dsimp only at hSw); have cc : wy.drew.cell? ⟨w.heap.size, 96, none⟩ = some (.int .i64 x96) := c96; subst hSw; go_simp; (try with_reducible rfl))
      (try simp only [Act.put, sL])
      refine wpAnyG_take (i := 3) (v := ?vmb3) rfl (by kernel_rfl) hcl (fun _ _ _ h => h) (Or.inl ⟨by rfl, ?ymb3⟩) hHeld (fun hcl => ?rmb3)
      case ymb3 => (intro w' hSw; (try dsimp only at hSw); go_simp; (try with_reducible rfl))
      (try simp only [Act.put, sL])
      refine wpAnyG_take (i := 4) (v := .int .i64 x97) rfl (by kernel_rfl) hcl (fun _ _ _ h => h) (Or.inl ⟨by rfl, ?ymb4⟩) hHeld (fun hcl => ?rmb4)
      case ymb4 => (intro w' hSw; (try dsimp only at hSw); have cc : wy.drew.cell? ⟨w.heap.size, 97, none⟩ = some (.int .i64 x97) := c97; subst hSw; go_simp; (try with_reducible rfl))
      (try simp only [Act.put, sL])
      refine wpAnyG_take (i := 6) (v := ?vmb6) rfl (by kernel_rfl) hcl (fun _ _ _ h => h) (Or.inl ⟨by rfl, ?ymb6⟩) hHeld (fun hcl => ?rmb6)
      case ymb6 => (intro w' hSw; (try dsimp only at hSw); go_simp; (try with_reducible rfl))
      (try simp only [Act.put, sL])
      refine wpAnyG_take (i := 7) (v := .int .i64 x98) rfl (by kernel_rfl) hcl (fun _ _ _ h => h) (Or.inl ⟨by rfl, ?ymb7⟩) hHeld (fun hcl => ?rmb7)
      case ymb7 => (intro w' hSw; (try dsimp only at hSw); have cc : wy.drew.cell? ⟨w.heap.size, 98, none⟩ = some (.int .i64 x98) := c98; subst hSw; go_simp; (try with_reducible rfl))
      (try simp only [Act.put, sL])
      refine wpAnyG_exec (i := 2) rfl (by kernel_rfl) hcl (fun K hK => ?_)
      (try simp only [Act.put, sL])
      go_simp
      refine (S96.out _).mono ?_
      rintro e w1 ⟨rfl, rfl⟩
      go_wp2_with fail
      have hNew := (rfl : wy.drew = wy.drew)
      refine hK.out _ _ (fun _ => hNew) (fun hcl => ?_)
      clear hK
      replace hHeld := hNew
      clear hNew
      (try simp only [Act.put, sL])
      refine wpAnyG_take (i := 10) (v := ?vmb10) rfl (by kernel_rfl) hcl (fun _ _ _ h => h) (Or.inl ⟨by rfl, ?ymb10⟩) hHeld (fun hcl => ?rmb10)
      case ymb10 => (intro w' hSw; (try dsimp only at hSw); go_simp; (try with_reducible rfl))
      (try simp only [Act.put, sL])
      refine wpAnyG_exec (i := 5) rfl (by kernel_rfl) hcl (fun K hK => ?_)
      (try simp only [Act.put, sL])
      go_simp
      refine (S97.out _).mono ?_
      rintro e w1 ⟨rfl, rfl⟩
      go_wp2_with fail
      have hNew := (rfl : wy.drew = wy.drew)
      refine hK.out _ _ (fun _ => hNew) (fun hcl => ?_)
      clear hK
      replace hHeld := hNew
      clear hNew
      (try simp only [Act.put, sL])
      refine wpAnyG_exec (i := 8) rfl (by kernel_rfl) hcl (fun K hK => ?_)
      (try simp only [Act.put, sL])
      go_simp
      refine (S98.out _).mono ?_
      rintro e w1 ⟨rfl, rfl⟩
      go_wp2_with fail
      have hNew := (rfl : wy.drew = wy.drew)
      refine hK.out _ _ (fun _ => hNew) (fun hcl => ?_)
      clear hK
      replace hHeld := hNew
      clear hNew
      (try simp only [Act.put, sL])
      refine wpAnyG_takeF (i := 9) (v := .int .i64 (20 + z98)) rfl (by kernel_rfl) hcl (fun _ _ _ h => h) (Or.inl ⟨by rfl, ?ymb9⟩) hHeld (fun hcl => ?rmb9)
      case ymb9 => (intro w' _; go_simp; (try simp only [W98]))
      (try simp only [Act.put, sL])
      refine wpAnyG_exec (i := 11) rfl (by kernel_rfl) hcl (fun K hK => ?_)
      (try simp only [Act.put, sL])
      have ck := MD.out.1.cell 96 (by rw [L0.out]; omega)
      have fk := MD.out.1.free 96
      have N1 := hide (MD.out.set 96 z96 (by rw [L0.out]; omega))
      go_simp
      go_wp2_with fail
      refine hK.out _ _ (fun h => by cases h) (fun hcl => ?_)
      clear hK hHeld
      (try simp only [Act.put, sL])
      clear ck fk MD c96 c97 c98
      replace N1 := hide (show MmS w (Q.set 96 z96) s (wy.setCell ⟨w.heap.size, 96, none⟩ (.int .i64 z96)).drew from N1.out)
      generalize (wy.setCell ⟨w.heap.size, 96, none⟩ (.int .i64 z96)).drew = V1 at *
      have L1 := hide (show (Q.set 96 z96).length = 101 by rw [List.length_set]; exact L0.out)
      generalize Q.set 96 z96 = Q1 at *
      refine wpAnyG_of_any _ _ _ _ (by rfl) ?_
      refine wpAny_take (i := 12) (v := ?vmb12) rfl (by kernel_rfl) (by kernel_rfl) (by kernel_rfl) (fun _ _ _ h => h) (Or.inl ⟨by rfl, ?ymb12⟩) ?rmb12
      case ymb12 => (intro w'; go_simp; (try with_reducible rfl))
      (try simp only [Act.put, sL])
      refine wpAny_ready (rs := [13]) (by kernel_rfl) (by simp) (AllReady.cons rfl (fun K hK => ?_) AllReady.nil)
      (try simp only [Act.put, sL])
      have HK := hide hK
      clear hK
      have ck := N1.out.1.cell 97 (by rw [L1.out]; omega)
      have fk := N1.out.1.free 97
      have N2 := hide (N1.out.set 97 z97 (by rw [L1.out]; omega))
      go_simp
      go_wp2_with fail
      refine HK.out _ _ ?_
      clear HK
      (try simp only [Act.put, sL])
      clear ck fk N1
      generalize V1.setCell ⟨w.heap.size, 97, none⟩ (.int .i64 z97) = V2 at *
      have L2 := hide (show (Q1.set 97 z97).length = 101 by rw [List.length_set]; exact L1.out)
      generalize Q1.set 97 z97 = Q2 at *
      refine wpAny_take (i := 14) (v := ?vmb14) rfl (by kernel_rfl) (by kernel_rfl) (by kernel_rfl) (fun _ _ _ h => h) (Or.inl ⟨by rfl, ?ymb14⟩) ?rmb14
      case ymb14 => (intro w'; go_simp; (try with_reducible rfl))
      (try simp only [Act.put, sL])
      refine wpAny_ready (rs := [15]) (by kernel_rfl) (by simp) (AllReady.cons rfl (fun K hK => ?_) AllReady.nil)
      (try simp only [Act.put, sL])
      have HK := hide hK
      clear hK
      have ck := N2.out.1.cell 98 (by rw [L2.out]; omega)
      have fk := N2.out.1.free 98
      have N3 := hide (N2.out.set 98 (20 + z98) (by rw [L2.out]; omega))
      go_simp
      go_wp2_with fail
      refine HK.out _ _ ?_
      clear HK
      (try simp only [Act.put, sL])
      clear ck fk N2
      generalize V2.setCell ⟨w.heap.size, 98, none⟩ (.int .i64 (20 + z98)) = V3 at *
      refine wpAny_done (by kernel_rfl) ?_ _
      obtain ⟨q1, q2, q3⟩ := EQ5.out
      have LQ := hide q1
      have E99 := hide q2
      have E100 := hide q3
      clear q1 q2 q3 EQ5 L0 L1 L2 S96 S97 S98
      generalize Q2.set 98 (20 + z98) = Q at *
      go_upto_region 8 with fail
      generalize hwy : V3 = wy at *
      clear hwy
      have c99 := N3.out.1.cell 99 (by rw [LQ.out]; omega)
      have c100 := N3.out.1.cell 100 (by rw [LQ.out]; omega)
      rw [E99.out] at c99
      rw [E100.out] at c100
      have MD := hide (N3.out.keep (gw_start _))
      have L0 := hide LQ.out
      clear N3 E99 E100
      refine wp_region_G 7 (fun w' => w' = wy.drew) 10 (by rfl) #[false, false, false, false, false, false, false, false, false, false] (by rfl) (by kernel_rfl) (fun hcl => ?_)
      have hHeld := (rfl : wy.drew = wy.drew)
      refine wpAnyG_take (i := 0) (v := ?vmc0) rfl (by kernel_rfl) hcl (fun _ _ _ h => h) (Or.inl ⟨by rfl, ?ymc0⟩) hHeld (fun hcl => ?rmc0)
      case ymc0 => (intro w' hSw; (try dsimp only at hSw); go_simp; (try with_reducible rfl))
      (try simp only [Act.put, sL])
      refine wpAnyG_take (i := 1) (v := .int .i64 x99) rfl (by kernel_rfl) hcl (fun _ _ _ h => h) (Or.inl ⟨by rfl, ?ymc1⟩) hHeld (fun hcl => ?rmc1)
      case ymc1 => (intro w' hSw; (try dsimp only at hSw); have cc : wy.drew.cell? ⟨w.heap.size, 99, none⟩ = some (.int .i64 x99) := c99; subst hSw; go_simp; (try with_reducible rfl))
      (try simp only [Act.put, sL])
      refine wpAnyG_take (i := 3) (v := ?vmc3) rfl (by kernel_rfl) hcl (fun _ _ _ h => h) (Or.inl ⟨by rfl, ?ymc3⟩) hHeld (fun hcl => ?rmc3)
      case ymc3 => (intro w' hSw; (try dsimp only at hSw); go_simp; (try with_reducible rfl))
      (try simp only [Act.put, sL])
      refine wpAnyG_take (i := 4) (v := .int .i64 x100) rfl (by kernel_rfl) hcl (fun _ _ _ h => h) (Or.inl ⟨by rfl, ?ymc4⟩) hHeld (fun hcl => ?rmc4)
      case ymc4 => (intro w' hSw; (try dsimp only at hSw); have cc : wy.drew.cell? ⟨w.heap.size, 100, none⟩ = some (.int .i64 x100) := c100; subst hSw; go_simp; (try with_reducible rfl))
      (try simp only [Act.put, sL])
      refine wpAnyG_exec (i := 2) rfl (by kernel_rfl) hcl (fun K hK => ?_)
      (try simp only [Act.put, sL])
      go_simp
      refine (S99.out _).mono ?_
      rintro e w1 ⟨rfl, rfl⟩
      go_wp2_with fail
      have hNew := (rfl : wy.drew = wy.drew)
      refine hK.out _ _ (fun _ => hNew) (fun hcl => ?_)
      clear hK
      replace hHeld := hNew
      clear hNew
      (try simp only [Act.put, sL])
      refine wpAnyG_take (i := 6) (v := ?vmc6) rfl (by kernel_rfl) hcl (fun _ _ _ h => h) (Or.inl ⟨by rfl, ?ymc6⟩) hHeld (fun hcl => ?rmc6)
      case ymc6 => (intro w' hSw; (try dsimp only at hSw); go_simp; (try with_reducible rfl))
      (try simp only [Act.put, sL])
      refine wpAnyG_exec (i := 5) rfl (by kernel_rfl) hcl (fun K hK => ?_)
      (try simp only [Act.put, sL])
      go_simp
      refine (S100.out _).mono ?_
      rintro e w1 ⟨rfl, rfl⟩
      go_wp2_with fail
      have hNew := (rfl : wy.drew = wy.drew)
      refine hK.out _ _ (fun _ => hNew) (fun hcl => ?_)
      clear hK
      replace hHeld := hNew
      clear hNew
      (try simp only [Act.put, sL])
      refine wpAnyG_exec (i := 7) rfl (by kernel_rfl) hcl (fun K hK => ?_)
      (try simp only [Act.put, sL])
      have ck := MD.out.1.cell 99 (by rw [L0.out]; omega)
      have fk := MD.out.1.free 99
      have N1 := hide (MD.out.set 99 z99 (by rw [L0.out]; omega))
      go_simp
      go_wp2_with fail
      refine hK.out _ _ (fun h => by cases h) (fun hcl => ?_)
      clear hK hHeld
      (try simp only [Act.put, sL])
      clear ck fk MD c99 c100
      replace N1 := hide (show MmS w (Q.set 99 z99) s (wy.setCell ⟨w.heap.size, 99, none⟩ (.int .i64 z99)).drew from N1.out)
      generalize (wy.setCell ⟨w.heap.size, 99, none⟩ (.int .i64 z99)).drew = V1 at *
      have L1 := hide (show (Q.set 99 z99).length = 101 by rw [List.length_set]; exact L0.out)
      generalize Q.set 99 z99 = Q1 at *
      refine wpAnyG_of_any _ _ _ _ (by rfl) ?_
      refine wpAny_take (i := 8) (v := ?vmc8) rfl (by kernel_rfl) (by kernel_rfl) (by kernel_rfl) (fun _ _ _ h => h) (Or.inl ⟨by rfl, ?ymc8⟩) ?rmc8
      case ymc8 => (intro w'; go_simp; (try with_reducible rfl))
      (try simp only [Act.put, sL])
      refine wpAny_ready (rs := [9]) (by kernel_rfl) (by simp) (AllReady.cons rfl (fun K hK => ?_) AllReady.nil)
      (try simp only [Act.put, sL])
      have HK := hide hK
      clear hK
      have ck := N1.out.1.cell 100 (by rw [L1.out]; omega)
      have fk := N1.out.1.free 100
      have N2 := hide (N1.out.set 100 z100 (by rw [L1.out]; omega))
      go_simp
      go_wp2_with fail
      refine HK.out _ _ ?_
      clear HK
      (try simp only [Act.put, sL])
      clear ck fk N1
      generalize V1.setCell ⟨w.heap.size, 100, none⟩ (.int .i64 z100) = V2 at *
      refine wpAny_done (by kernel_rfl) ?_ _
      have NE := hide (show MmS w (memL l) s V2 from by rw [← EQ.out]; exact N2.out)
      clear S99 S100 L0 L1 N2 EQ
      have LM := hide (memL_len l)
      generalize memL l = Y at *
      have CM := hide (memC_len LM.out s)
      have AM := hide (BlkM.all s LM.out)
      have OM := hide (memC_one Y s)
      have PB := hide (NE.out.fin Y s LM.out)
      have FF := hide (F.out _ PB.out.2)
      clear F
      go_wp2_with (first | refine wpList_load_v rfl 25 _ rfl w.heap.size 0 102 rfl 25 (memC Y s) NE.out.1 _ Try.underlying25 rfl size102 (by rw [CM.out]; omega) _ AM.out ?_ | refine wpList_store_v rfl 25 _ _ rfl (w.heap.size + 1) 0 25 (memC (zeros 101) false) (memC Y s) rfl rfl NE.out.2.1 (by rw [ZL.out, CM.out]; omega) (by rw [CM.out]; exact size102) OM.out ?_)
      have hlv := loadVar_v PB.out.1 _ Try.underlying25 rfl (by rw [CM.out]; exact size102)
      refine bodyPost_ret (v := .agg (memC Y s).toArray) ?_ rfl FF.out
      simp [results, Try.results23, asAddr, Act.put, hlv]
end Go.Proofs.Ytekdgohomaeeeaa

/- MemEq -/
namespace Go.Proofs.Ytekdgohomaeeeaa
set_option maxRecDepth 100000
open Go.RowKit
set_option linter.unusedVariables false
set_option linter.unusedSimpArgs false
set_option maxHeartbeats 4000000
theorem fresh_mem (w : World) (m : List Int) (t : Bool) (hm : m.length = 101) : BlkM (w.alloc (.cells (memC (zeros 101) false).toArray 25)) w.heap.size (zeros 101) false ∧ BlkM (putV (w.alloc (.cells (memC (zeros 101) false).toArray 25)) w.heap.size 0 (memC m t)) w.heap.size m t ∧ w.grownBy (putV (w.alloc (.cells (memC (zeros 101) false).toArray 25)) w.heap.size 0 (memC m t)) none := by
  have B := BlkM.new w (zeros 101) false
  have P := B.putAll (m := m) (t := t) (zeros_len 101) hm
  exact ⟨B, P.1, grown_own (grown_alloc _ _ none) P.2 (Nat.le_refl _)⟩
theorem erM_len (l : List Int) (half : Int) (hl : l.length = 101) : (erM l half).length = 101 := by
  unfold erM
  split
  · rw [memT_len]; exact hl
  · exact zeros_len _
theorem fresh_er : (erL freL 0).length = 40 := by
  have k : erO freL 0 := ⟨freL_good, by omega, by omega⟩
  rw [(er_yes (s := false) k).2.2.1, erX_len]
end Go.Proofs.Ytekdgohomaeeeaa

/- LConK -/
namespace Go.Proofs.Ytekdgohomaeeeaa
open Go.RowKit
set_option linter.unusedVariables false
set_option linter.unusedSimpArgs false
set_option maxHeartbeats 2000000
theorem fresh_erO : erO freL 0 := ⟨freL_good, by omega, by omega⟩
theorem fresh_one : nth (erM freL 0) 99 = 1 := by
  rw [(er_yes (s := true) fresh_erO).1, memT_nth _ freL_len _ _ _ (kpA_len _ _) 99 (by omega)]
  decide +kernel
theorem nz_zero (s : Int) : nzL s 0 40 = zeros 40 := by
  have h := tab_ext (l := nzL s 0 40) (p := fun _ => (0 : Int)) (nzL_len _ _ _) (fun i hi => by
    rw [nzL_nth _ _ _ _ hi]
    unfold nzN noX noZ
    simp)
  have h2 := tab_ext (l := zeros 40) (p := fun _ => (0 : Int)) (zeros_len _) (fun i _ => zeros_nth _ _)
  rw [h, ← h2]
theorem mx_nought (v : List Int) : mxA v 0 (zeros 40) = zeros 40 := by
  have h := tab_ext (l := mxA v 0 (zeros 40)) (p := fun _ => (0 : Int)) (mxA_len _ _ _) (fun i hi => by
    rw [mxA_nth _ _ _ _ hi]
    unfold mxN
    rw [zeros_nth, Int.mul_zero]
    decide)
  have h2 := tab_ext (l := zeros 40) (p := fun _ => (0 : Int)) (zeros_len _) (fun i _ => zeros_nth _ _)
  rw [h, ← h2]
theorem er_six (l : List Int) (half : Int) (h : erN l half = 6) : erX l half = zeros 40 := by
  unfold erX erZ
  rw [h, fdV6, fdV6, show (0 : Int) / 4 = 0 from rfl, nz_zero, mx_nought]
theorem set_good99 (l : List Int) (hl : l.length = 101) (hg : goodM l = true) (e : Int) (h0 : 0 ≤ e) (h6 : e ≤ 6) : goodM (l.set 99 e) = true := by
  rw [goodM_iff]
  intro i hi
  rw [setN _ _ _ (by omega)]
  by_cases k : i = 99
  · rw [if_pos k, k]; exact ⟨h0, h6⟩
  · rw [if_neg k]; exact (goodM_iff l).1 hg i hi
set_option maxRecDepth 100000 in
theorem lost_any (w : World) (pf : CFr 11 w) (pe : CEr 19 w) (pg : CGd 9 w) (wr : World) (g : w.grownBy wr none) : Calls Try.prog 25 #[] wr (AnsC wr (.bool true)) := by
  have A := hide (fun w' (k : wr.grownBy w' none) => pf w' (grown_none g k))
  have B := hide (fun w' (k : wr.grownBy w' none) => pe freL false 0 freL_len freL_64 ⟨by omega, by omega⟩ w' (grown_none g k))
  have C := hide (fun w' (k : wr.grownBy w' none) => pg freL false freL_len freL_64 w' (grown_none g k))
  rw [freL_good] at C
  rw [(er_yes (s := false) fresh_erO).2.2.2] at B
  have F40 := hide fresh_er
  have ML := hide (erM_len freL 0 freL_len)
  have E1 := hide fresh_one
  have ZL := hide (memC_len (zeros_len 101) false)
  have hz := zero_mem
  have F := hide (show ∀ w', wr.grownBy w' none → AnsC wr (.bool true) (.returned (.bool true)) w' from fun w' q => ⟨rfl, q⟩)
  generalize AnsC wr (.bool true) = T at *
  clear pf pe pg g
  unfold memV at A B C hz
  generalize erM freL 0 = m at *
  generalize erS freL 0 false = s2 at *
  generalize erL freL 0 = L at *
  go_enter Try.func25, Try.ntmps25
  go_wp2_with fail
  refine (A.out wr (grown_refl _ _)).mono ?_
  rintro e W1 ⟨rfl, g1⟩
  have G1 := hide g1
  clear g1
  go_wp2_with fail
  refine (B.out W1 G1.out).mono ?_
  rintro e W2 ⟨v2, rfl, o2, g2⟩
  unfold memV
  have FB := hide (fresh_mem W2 m s2 ML.out)
  obtain ⟨bg, bc, rfl, _⟩ := o2.form (by rw [F40.out]; omega)
  rw [F40.out]
  have G3 := hide (grown_none G1.out (grown_none g2 FB.out.2.2))
  clear o2 g2 G1 B
  go_upto_region 2 with (refine wpList_store_v rfl 25 _ _ rfl W2.heap.size 0 25 (memC (zeros 101) false) (memC m s2) rfl rfl FB.out.1 (by rw [ZL.out, memC_len ML.out]; omega) (by rw [memC_len ML.out]; exact size102) (memC_one _ _) ?_)
  (try simp only [Act.put])
  have V := hide FB.out.2.1
  clear FB
  generalize putV (W2.alloc (.cells (memC (zeros 101) false).toArray 25)) W2.heap.size 0 (memC m s2) = W3 at *
  generalize W2.heap.size = bm at *
  have c99 := V.out.cell 99 (by rw [ML.out]; omega)
  rw [E1.out] at c99
  clear V hz
  go_wp2_with fail
  refine (A.out W3 G3.out).mono ?_
  rintro e W4 ⟨rfl, g4⟩
  have G4 := hide (grown_none G3.out g4)
  clear g4 G3 A
  go_wp2_with fail
  refine (C.out W4 G4.out).mono ?_
  rintro e W5 ⟨rfl, g5⟩
  have FF := hide (F.out _ (grown_none G4.out g5))
  clear g5 G4 C F c99
  go_wp2_with fail
  exact FF.out
set_option maxRecDepth 100000 in
theorem law_erasedEnds (w : World) (pf : CFr 11 w) (pe : CEr 19 w) (pg : CGd 9 w) (l : List Int) (s : Bool) (hl : l.length = 101) (h64 : In64 l) :
    Calls Try.prog 8 #[memV l s] w fun e w' => e = .returned (.bool true) ∧ Below w.heap.size w w' := by
  have LO := hide (fun wr g => lost_any w pf pe pg wr g)
  have M0 := hide (BlkM.new w l s)
  have G0 := hide (grown_alloc w (.cells (memC l s).toArray 25) none)
  have HL := hide hl
  have ME := hide (fun wr => memory_any l s hl wr)
  have LY := hide (memL_len l)
  have hx0 := (goodM_iff (memL l)).1 (memL_good l) 99 (by omega)
  have hx : 0 ≤ nth (memL l) 99 ∧ nth (memL l) 99 ≤ 6 := hx0
  have sb : 0 ≤ spotN (nth (memL l) 99) 2 ∧ spotN (nth (memL l) 99) 2 < 2 := by unfold spotN; omega
  have SP := hide (fun wr => spot_any (nth (memL l) 99) 2 (by omega) (by omega) wr)
  have GX := hide (set_good99 (memL l) (memL_len l) (memL_good l) (5 + spotN (nth (memL l) 99) 2) (by omega) (by omega))
  have LX := hide (show ((memL l).set 99 (5 + spotN (nth (memL l) 99) 2)).length = 101 by rw [List.length_set]; exact memL_len l)
  have NX := hide (show nth ((memL l).set 99 (5 + spotN (nth (memL l) 99) 2)) 99 = 5 + spotN (nth (memL l) 99) 2 by rw [setN _ _ _ (by rw [memL_len]; omega), if_pos rfl])
  have ZL := hide (memC_len (zeros_len 101) false)
  have hz := zero_mem
  have hmk := make_zeros 40 (by omega)
  rw [show ((40 : Nat) : Int) = 40 from rfl] at hmk
  unfold memV at ME hz ⊢
  generalize memL l = Y at *
  generalize spotN (nth Y 99) 2 = z at *
  have ER := hide (show erN (Y.set 99 (5 + z)) 0 = 6 by unfold erN; rw [NX.out]; split <;> omega)
  have OK : erO (Y.set 99 (5 + z)) 0 := ⟨GX.out, by omega, by omega⟩
  have PE := hide (fun wr (g : w.grownBy wr none) => pe (Y.set 99 (5 + z)) s 0 LX.out (good_64 LX.out GX.out) ⟨by omega, by omega⟩ wr g)
  rw [(er_yes (s := s) OK).2.2.1, (er_yes (s := s) OK).2.2.2, er_six _ _ ER.out] at PE
  have ML := hide (erM_len (Y.set 99 (5 + z)) 0 LX.out)
  have N6 := hide (show nth (erM (Y.set 99 (5 + z)) 0) 99 = 6 by rw [(er_yes (s := s) OK).1, memT_nth _ LX.out _ _ _ (kpA_len _ _) 99 (by omega), if_neg (by omega), if_neg (by omega), if_pos rfl]; exact ER.out)
  clear pf pe pg hl h64 hx0 OK
  unfold memV at PE
  generalize erM (Y.set 99 (5 + z)) 0 = m at *
  generalize erS (Y.set 99 (5 + z)) 0 s = s2 at *
  go_enter Try.func8, Try.ntmps8
  go_upto_region 1 with fail
  generalize w.alloc (.cells (memC l s).toArray 25) = W0 at *
  go_wp2_with (refine wpList_load_v rfl 25 _ rfl w.heap.size 0 102 rfl 25 (memC l s) M0.out _ Try.underlying25 rfl size102 (by rw [memC_len HL.out]; omega) _ (BlkM.all s HL.out) ?_)
  refine (ME.out W0).mono ?_
  rintro e W1 ⟨rfl, g1⟩
  have M1 := hide (M0.out.keep g1)
  have G1 := hide (grown_none G0.out g1)
  have PU := hide (M1.out.putAll (m := Y) (t := s) HL.out LY.out)
  have G2 := hide (grown_own G1.out PU.out.2 (Nat.le_refl _))
  clear g1 M0 G0 ME
  go_upto_region 2 with (refine wpList_store_v rfl 25 _ _ rfl w.heap.size 0 25 (memC l s) (memC Y s) rfl rfl M1.out (by rw [memC_len HL.out, memC_len LY.out]; omega) (by rw [memC_len LY.out]; exact size102) (memC_one _ _) ?_)
  (try simp only [Act.put])
  have M2 := hide PU.out.1
  clear PU M1 G1
  generalize putV W1 w.heap.size 0 (memC Y s) = W2 at *
  have c99 := M2.out.cell 99 (by rw [LY.out]; omega)
  have f99 := M2.out.free 99
  have M3 := hide (M2.out.set 99 (5 + z) (by rw [LY.out]; omega))
  have G3 := hide (grown_own G2.out (grown_setCell W2 ⟨w.heap.size, 99, none⟩ (.int .i64 (5 + z))) (Nat.le_refl _))
  clear M2 G2
  generalize nth Y 99 = x at *
  go_wp2_with fail
  refine (SP.out W2).mono ?_
  rintro e W2' ⟨rfl, rfl⟩
  clear SP
  go_upto_region 3 with fail
  clear c99 f99
  generalize W2'.setCell ⟨w.heap.size, 99, none⟩ (.int .i64 (5 + z)) = W3 at *
  generalize Y.set 99 (5 + z) = X at *
  go_wp2_with (refine wpList_load_v rfl 25 _ rfl w.heap.size 0 102 rfl 25 (memC X s) M3.out _ Try.underlying25 rfl size102 (by rw [memC_len LX.out]; omega) _ (BlkM.all s LX.out) ?_)
  refine (PE.out W3 G3.out).mono ?_
  rintro e W4 ⟨v4, rfl, o4, g4⟩
  unfold memV
  have FB := hide (fresh_mem W4 m s2 ML.out)
  have G5 := hide (grown_none G3.out (grown_none g4 FB.out.2.2))
  have O5 := hide (o4.keep FB.out.2.2)
  clear o4 g4 G3 M3 PE
  go_upto_region 4 with (refine wpList_store_v rfl 25 _ _ rfl W4.heap.size 0 25 (memC (zeros 101) false) (memC m s2) rfl rfl FB.out.1 (by rw [ZL.out, memC_len ML.out]; omega) (by rw [memC_len ML.out]; exact size102) (memC_one _ _) ?_)
  (try simp only [Act.put])
  have V := hide FB.out.2.1
  clear FB hz
  generalize putV (W4.alloc (.cells (memC (zeros 101) false).toArray 25)) W4.heap.size 0 (memC m s2) = W5 at *
  generalize W4.heap.size = b3 at *
  go_wp2_with fail
  refine (LO.out W5 G5.out).mono ?_
  rintro e W6 ⟨rfl, g6⟩
  have c99 := (V.out.keep g6).cell 99 (by rw [ML.out]; omega)
  rw [N6.out] at c99
  have G6 := hide (grown_none G5.out g6)
  have ga := grown_alloc W6 (.cells (arrI (zeros 40)) 3) none
  have O6 := hide ((O5.out.keep g6).keep ga)
  have IZ := hide (Ints_zeros W6 40)
  have G7 := hide (grown_none G6.out ga)
  clear g6 V G5 G6 O5 LO ga
  go_wp2_with fail
  clear c99 hmk
  generalize W6.alloc (.cells (arrI (zeros 40)) 3) = W7 at *
  generalize W6.heap.size = bz at *
  have SM := hide (keepSame_any v4 _ (zeros 40) (zeros 40) W7 O6.out.ints IZ.out (by rw [zeros_len]; omega) (by rw [zeros_len]; omega))
  rw [show decide (zeros 40 = zeros 40) = true from decide_eq_true rfl] at SM
  refine SM.out.mono ?_
  rintro e W8 ⟨rfl, n, rfl⟩
  have GF := hide (grown_none G7.out (grown_drewN' W7 n none))
  clear SM O6 IZ G7
  go_wp2_with fail
  go_ret
  exact ⟨rfl, below_of_grown GF.out⟩
def EgS (w : World) (Y N Q : List Int) (s s5 s8 : Bool) (b5 b8 : Nat) (v6 v9 : Value) (X Z : List Int) (wr : World) : Prop :=
  BlkM wr w.heap.size Y s ∧ BlkM wr b5 N s5 ∧ BlkM wr b8 Q s8 ∧ Own w.heap.size wr v6 X ∧ Own w.heap.size wr v9 Z ∧ w.grownBy wr none
theorem EgS.keep {w : World} {Y N Q : List Int} {s s5 s8 : Bool} {b5 b8 : Nat} {v6 v9 : Value} {X Z : List Int} {wr wr' : World} (h : EgS w Y N Q s s5 s8 b5 b8 v6 v9 X Z wr) (g : wr.grownBy wr' none) : EgS w Y N Q s s5 s8 b5 b8 v6 v9 X Z wr' :=
  ⟨h.1.keep g, h.2.1.keep g, h.2.2.1.keep g, h.2.2.2.1.keep g, h.2.2.2.2.1.keep g, grown_none h.2.2.2.2.2 g⟩
end Go.Proofs.Ytekdgohomaeeeaa

/- CnpS -/
namespace Go.Proofs.Ytekdgohomaeeeaa
open Go.RowKit
set_option linter.unusedVariables false
set_option linter.unusedSimpArgs false
set_option maxHeartbeats 2000000
theorem conWithin_any (x a b : Int) (w : World) : Calls Try.prog 28 #[.int .i64 x, .int .i64 a, .int .i64 b] w (Ans w (.bool (decide (a ≤ x ∧ x ≤ b)))) := by
  by_cases h1 : a ≤ x
  · by_cases h2 : x ≤ b
    · rw [decide_eq_true (show a ≤ x ∧ x ≤ b from ⟨h1, h2⟩)]
      go_enter Try.func28, Try.ntmps28
      go_wp2_with fail
      go_ret
      exact ⟨rfl, rfl⟩
    · rw [decide_eq_false (show ¬ (a ≤ x ∧ x ≤ b) from fun h => h2 h.2)]
      go_enter Try.func28, Try.ntmps28
      go_wp2_with fail
      go_ret
      exact ⟨rfl, rfl⟩
  · rw [decide_eq_false (show ¬ (a ≤ x ∧ x ≤ b) from fun h => h1 h.1)]
    go_enter Try.func28, Try.ntmps28
    go_wp2_with fail
    go_ret
    exact ⟨rfl, rfl⟩
theorem conStopped_any (x : Int) (w : World) : Calls Try.prog 32 #[.int .i64 x] w (Ans w (.int .i64 (c16 x))) := by
  have F := hide (show ∀ z, z = c16 x → Ans w (.int .i64 (c16 x)) (.returned (.int .i64 z)) w from fun z hz => ⟨by rw [hz], rfl⟩)
  generalize Ans w (.int .i64 (c16 x)) = T at *
  go_enter Try.func32, Try.ntmps32
  go_wp2_with fail
  all_goals (refine F.out _ ?_; unfold c16; (repeat' split) <;> omega)
theorem conScaled_any (x g : Int) (h1 : -4611686018427387904 ≤ x * g) (h2 : x * g ≤ 4611686018427387904) (w : World) : Calls Try.prog 33 #[.int .i64 x, .int .i64 g] w (Ans w (.int .i64 ((x * g + 8192) / 16384))) := by
  have F := hide (show Ans w (.int .i64 ((x * g + 8192) / 16384)) (.returned (.int .i64 ((x * g + 8192) / 16384))) w from ⟨rfl, rfl⟩)
  generalize Ans w (.int .i64 ((x * g + 8192) / 16384)) = T at *
  go_enter Try.func33, Try.ntmps33
  go_wp2_with fail
  exact F.out
end Go.Proofs.Ytekdgohomaeeeaa

/- CnpA -/
namespace Go.Proofs.Ytekdgohomaeeeaa
open Go.RowKit
set_option linter.unusedVariables false
set_option linter.unusedSimpArgs false
set_option maxHeartbeats 2000000
def betB (lo hi : Int) (l : List Int) : Bool := l.all fun x => decide (lo ≤ x) && decide (x ≤ hi)
theorem betB_iff (lo hi : Int) (l : List Int) : betB lo hi l = true ↔ ∀ i, i < l.length → lo ≤ nth l i ∧ nth l i ≤ hi := by
  unfold betB
  rw [List.all_eq_true]
  constructor
  · intro h i hi'
    have := h l[i] (List.getElem_mem hi')
    simpa [nth, List.getD, hi'] using this
  · intro h x hx
    obtain ⟨i, hi', rfl⟩ := List.getElem_of_mem hx
    have := h i hi'
    simpa [nth, List.getD, hi'] using this
theorem betB_refl (l : List Int) : betB (-31000) 31000 (prt l 0 8) = true ↔ reflB l = true := by
  rw [betB_iff, reflB_iff, prt_len]
  constructor
  · intro h i hi; have := h i hi; rwa [prt_nth _ _ _ _ hi, Nat.zero_add] at this
  · intro h i hi; rw [prt_nth _ _ _ _ hi, Nat.zero_add]; exact h i hi
theorem conAll_any (v : Value) (l : List Int) (lo hi : Int) (w : World) (h : Ints w v l) (hl : l.length ≤ 1000000000000000000) :
    Calls Try.prog 27 #[v, .int .i64 lo, .int .i64 hi] w (Ans w (.bool (betB lo hi l))) := by
  obtain ⟨ad, c, rfl, hc, hcell⟩ := h
  have Y := hide (fun (hh : ∀ i, i < l.length → lo ≤ nth l i ∧ nth l i ≤ hi) => (show Ans w (.bool (betB lo hi l)) (.returned (.bool true)) w from ⟨by rw [(betB_iff lo hi l).2 hh], rfl⟩))
  have N := hide (fun i (hi' : i < l.length) (hh : ¬ (lo ≤ nth l i ∧ nth l i ≤ hi)) => (show Ans w (.bool (betB lo hi l)) (.returned (.bool false)) w from ⟨by
    rcases hb : betB lo hi l with _ | _
    · rfl
    · exact absurd ((betB_iff lo hi l).1 hb i hi') hh, rfl⟩))
  generalize Ans w (.bool (betB lo hi l)) = T at *
  go_enter Try.func27, Try.ntmps27
  go_wp2_with fail
  go_loop [11] (fun i => ∃ k : Nat, i = .int .i64 k ∧ k ≤ l.length ∧ Hid (∀ i, i < k → lo ≤ nth l i ∧ nth l i ≤ hi)) (fun i => l.length - (intOf i).toNat)
  case atStart => exact ⟨0, rfl, Nat.zero_le _, fun i hi => by omega⟩
  case round =>
    obtain ⟨k, rfl, hk, hG⟩ := hrel
    by_cases hkl : k < l.length
    · obtain ⟨a, rfl, hv⟩ := hcell (by omega)
      have hck := hv k hkl
      have NK := hide (N.out k hkl)
      have GK := hide (fun (hh : lo ≤ nth l k ∧ nth l k ≤ hi) => (show ∀ i, i < k + 1 → lo ≤ nth l i ∧ nth l i ≤ hi from fun i hi => by
        rcases Nat.lt_or_ge i k with g | g
        · exact hG.out i g
        · obtain rfl : i = k := by omega
          exact hh))
      clear hcell hv Y N hG
      generalize nth l k = z at *
      have kl1 : (k : Int) < l.length := by omega
      have ST := hide (conWithin_any z lo hi w)
      by_cases hz : lo ≤ z ∧ z ≤ hi
      · have F := hide (GK.out hz)
        rw [decide_eq_true hz] at ST
        clear NK GK hz
        go_wp2_with fail
        refine ST.out.mono ?_
        rintro e w1 ⟨rfl, rfl⟩
        clear ST
        go_wp2_with fail
        go_round
        case rel => exact ⟨k + 1, by go_num, by omega, F.out⟩
        case measure => simp [intOf]; omega
      · have F := hide (NK.out hz)
        rw [decide_eq_false hz] at ST
        clear NK GK hz
        go_wp2_with fail
        refine ST.out.mono ?_
        rintro e w1 ⟨rfl, rfl⟩
        clear ST
        go_wp2_with fail
        exact F.out
    · obtain rfl : k = l.length := by omega
      have F := hide (Y.out hG.out)
      clear hcell Y N hG
      go_wp2_with fail
      exact F.out
set_option maxRecDepth 100000 in
theorem conGood_any (l : List Int) (s : Bool) (hl : l.length = 101) (w : World) : Calls Try.prog 9 #[memV l s] w (AnsC w (.bool (goodM l))) := by
  have B0 := hide (BlkM.new w l s)
  have G0 := hide (grown_alloc w (.cells (memC l s).toArray 25) none)
  have HL := hide hl
  have PT := hide (goodM_parts l)
  obtain ⟨T, hT⟩ : ∃ T : Ending → World → Prop, AnsC w (.bool (goodM l)) = T := ⟨_, rfl⟩
  rw [hT]
  have FN := hide (fun (h : ¬ goodM l = true) w' (g : w.grownBy w' none) => (show T (.returned (.bool false)) w' from by rw [← hT]; exact ⟨by rw [show goodM l = false by simpa using h], g⟩))
  have FY := hide (fun (h : goodM l = true) w' (g : w.grownBy w' none) => (show T (.returned (.bool true)) w' from by rw [← hT]; exact ⟨by rw [h], g⟩))
  clear hT hl
  unfold memV
  generalize memC l s = cs at *
  go_enter Try.func9, Try.ntmps9
  go_upto_region 1 with fail
  generalize w.alloc (.cells cs.toArray 25) = W0 at *
  have c96 := B0.out.cell 96 (by rw [HL.out]; omega)
  have c97 := B0.out.cell 97 (by rw [HL.out]; omega)
  have c98 := B0.out.cell 98 (by rw [HL.out]; omega)
  have c99 := B0.out.cell 99 (by rw [HL.out]; omega)
  have c100 := B0.out.cell 100 (by rw [HL.out]; omega)
  have IR := hide (B0.out.ints 0 8 8 (by rw [HL.out]; omega) (by omega))
  have IP := hide (B0.out.ints 8 8 8 (by rw [HL.out]; omega) (by omega))
  have IE := hide (B0.out.ints 16 80 80 (by rw [HL.out]; omega) (by omega))
  clear B0
  go_wp2_with fail
  refine (conAll_any _ (prt l 0 8) (-31000) 31000 _ IR.out (by rw [prt_len]; omega)).mono ?_
  rintro e w0 ⟨rfl, rfl⟩
  rcases hb0 : betB (-31000) 31000 (prt l 0 8) with _ | _
  · have F := hide (FN.out (fun q => by have : betB (-31000) 31000 (prt l 0 8) = true := (betB_refl l).2 ((PT.out.1 q).1); rw [hb0] at this; cases this) _ G0.out)
    clear FN FY
    go_wp2_with fail
    exact F.out
  go_wp2_with fail
  refine (conAll_any _ (prt l 8 8) (-32768) 32767 _ IP.out (by rw [prt_len]; omega)).mono ?_
  rintro e w1 ⟨rfl, rfl⟩
  rcases hb1 : betB (-32768) 32767 (prt l 8 8) with _ | _
  · have F := hide (FN.out (fun q => by have : betB (-32768) 32767 (prt l 8 8) = true := (PT.out.1 q).2.1; rw [hb1] at this; cases this) _ G0.out)
    clear FN FY
    go_wp2_with fail
    exact F.out
  go_wp2_with fail
  refine (conAll_any _ (prt l 16 80) (-32768) 32767 _ IE.out (by rw [prt_len]; omega)).mono ?_
  rintro e w2 ⟨rfl, rfl⟩
  rcases hb2 : betB (-32768) 32767 (prt l 16 80) with _ | _
  · have F := hide (FN.out (fun q => by have : betB (-32768) 32767 (prt l 16 80) = true := (PT.out.1 q).2.2.1; rw [hb2] at this; cases this) _ G0.out)
    clear FN FY
    go_wp2_with fail
    exact F.out
  go_wp2_with fail
  have WI3 := hide (fun u => conWithin_any (nth l 96) 0 32767 u)
  by_cases hb3 : 0 ≤ nth l 96 ∧ nth l 96 ≤ 32767
  rotate_left
  · rw [decide_eq_false hb3] at WI3
    refine (WI3.out _).mono ?_
    rintro e w3 ⟨rfl, rfl⟩
    have F := hide (FN.out (fun q => hb3 (PT.out.1 q).2.2.2.1) _ G0.out)
    clear FN FY hb3 WI3
    go_wp2_with fail
    exact F.out
  rw [decide_eq_true hb3] at WI3
  refine (WI3.out _).mono ?_
  rintro e w3 ⟨rfl, rfl⟩
  have HB3 := hide hb3
  clear hb3 WI3
  go_wp2_with fail
  have WI4 := hide (fun u => conWithin_any (nth l 97) 0 18022 u)
  by_cases hb4 : 0 ≤ nth l 97 ∧ nth l 97 ≤ 18022
  rotate_left
  · rw [decide_eq_false hb4] at WI4
    refine (WI4.out _).mono ?_
    rintro e w4 ⟨rfl, rfl⟩
    have F := hide (FN.out (fun q => hb4 (PT.out.1 q).2.2.2.2.1) _ G0.out)
    clear FN FY hb4 WI4
    go_wp2_with fail
    exact F.out
  rw [decide_eq_true hb4] at WI4
  refine (WI4.out _).mono ?_
  rintro e w4 ⟨rfl, rfl⟩
  have HB4 := hide hb4
  clear hb4 WI4
  go_wp2_with fail
  have WI5 := hide (fun u => conWithin_any (nth l 98) 20 79 u)
  by_cases hb5 : 20 ≤ nth l 98 ∧ nth l 98 ≤ 79
  rotate_left
  · rw [decide_eq_false hb5] at WI5
    refine (WI5.out _).mono ?_
    rintro e w5 ⟨rfl, rfl⟩
    have F := hide (FN.out (fun q => hb5 (PT.out.1 q).2.2.2.2.2.1) _ G0.out)
    clear FN FY hb5 WI5
    go_wp2_with fail
    exact F.out
  rw [decide_eq_true hb5] at WI5
  refine (WI5.out _).mono ?_
  rintro e w5 ⟨rfl, rfl⟩
  have HB5 := hide hb5
  clear hb5 WI5
  go_wp2_with fail
  have WI6 := hide (fun u => conWithin_any (nth l 99) 0 6 u)
  by_cases hb6 : 0 ≤ nth l 99 ∧ nth l 99 ≤ 6
  rotate_left
  · rw [decide_eq_false hb6] at WI6
    refine (WI6.out _).mono ?_
    rintro e w6 ⟨rfl, rfl⟩
    have F := hide (FN.out (fun q => hb6 (PT.out.1 q).2.2.2.2.2.2.1) _ G0.out)
    clear FN FY hb6 WI6
    go_wp2_with fail
    exact F.out
  rw [decide_eq_true hb6] at WI6
  refine (WI6.out _).mono ?_
  rintro e w6 ⟨rfl, rfl⟩
  have HB6 := hide hb6
  clear hb6 WI6
  go_wp2_with fail
  have WI7 := hide (fun u => conWithin_any (nth l 100) 0 65535 u)
  by_cases hb7 : 0 ≤ nth l 100 ∧ nth l 100 ≤ 65535
  rotate_left
  · rw [decide_eq_false hb7] at WI7
    refine (WI7.out _).mono ?_
    rintro e w7 ⟨rfl, rfl⟩
    have F := hide (FN.out (fun q => hb7 (PT.out.1 q).2.2.2.2.2.2.2) _ G0.out)
    clear FN FY hb7 WI7
    go_wp2_with fail
    exact F.out
  rw [decide_eq_true hb7] at WI7
  refine (WI7.out _).mono ?_
  rintro e w7 ⟨rfl, rfl⟩
  have HB7 := hide hb7
  clear hb7 WI7
  have F := hide (FY.out (PT.out.2 ⟨(betB_refl l).1 hb0, hb1, hb2, HB3.out, HB4.out, HB5.out, HB6.out, HB7.out⟩) _ G0.out)
  clear FN FY
  go_wp2_with fail
  exact F.out
theorem run_build_freshP (w : World) : Sem.run Try.prog (Instr.build 25 #[(5, .int .i64 20), (7, .int .i64 21845)]) w = .ok (memV freL false) w := by kernel_rfl
theorem wpList_build_freshP {ops : Array Oper} {rest : List Oper} {op : Oper} {a : Act} {w : World} {Q : Exit → Act → World → Prop} (hgd : op.guard = none) (x y : Operand) (ho : op.op = .build 25 #[(5, x), (7, y)]) (hx : a.eval x = .int .i64 20) (hy : a.eval y = .int .i64 21845)
    (k : wpList Try.prog ops Q rest (a.put op.dst (memV freL false)) w) : wpList Try.prog ops Q (op :: rest) a w := by
  refine wpList_plain hgd fun _ hK => ?_
  unfold Oper.wp execOp
  have e : (#[(5, x), (7, y)] : Array (Nat × Operand)).map (fun (i, x) => (i, a.eval x)) = #[(5, .int .i64 20), (7, .int .i64 21845)] := by simp [hx, hy]
  simp only [ho, e, Sem.run_bind, run_build_freshP, Result.andThen_ok, Sem.run_pure]
  exact hK _ _ k
theorem conFresh_any (w : World) : Calls Try.prog 11 #[] w (AnsC w (memV freL false)) := by
  have B0 := hide (BlkM.new w (zeros 101) false)
  have PU := B0.out.putAll (m := freL) (t := false) (zeros_len 101) freL_len
  have PB := hide PU.1
  have PG := hide (grown_own (grown_alloc w (.cells (memC (zeros 101) false).toArray 25) none) PU.2 (Nat.le_refl _))
  have S1 := hide (show (memC freL false).length = 102 from memC_len freL_len false)
  have S0 := hide (show (memC (zeros 101) false).length = 102 from memC_len (zeros_len 101) false)
  have O1 := hide (memC_one freL false)
  have hz := zero_mem
  have F := hide (show AnsC w (memV freL false) (.returned (memV freL false)) (putV (w.alloc (.cells (memC (zeros 101) false).toArray 25)) w.heap.size 0 (memC freL false)) from ⟨rfl, PG.out⟩)
  clear PU PG
  generalize AnsC w (memV freL false) = T at *
  have BF := hide (fun ops rest op a w Q => @wpList_build_freshP ops rest op a w Q)
  unfold memV at hz F BF
  unfold BlkM at B0 PB
  generalize memC (zeros 101) false = Z at *
  generalize memC freL false = M at *
  go_enter Try.func11, Try.ntmps11
  go_wp2_with (first | refine BF.out _ _ _ _ _ _ rfl _ _ rfl rfl rfl ?_ | refine wpList_store_v rfl 25 _ _ rfl w.heap.size 0 25 Z M rfl rfl B0.out (by rw [S0.out, S1.out]; omega) (by rw [S1.out]; exact size102) O1.out ?_)
  have hlv := loadVar_v PB.out _ Try.underlying25 rfl (by rw [S1.out]; exact size102)
  refine bodyPost_ret (v := .agg M.toArray) ?_ rfl F.out
  simp [results, Try.results11, asAddr, Act.put, hlv]
end Go.Proofs.Ytekdgohomaeeeaa

/- PitA -/
namespace Go.Proofs.Ytekdgohomaeeeaa
open Go.RowKit
set_option linter.unusedVariables false
set_option linter.unusedSimpArgs false
set_option maxHeartbeats 1000000
theorem pitWithin_any (x a b : Int) (w : World) : Calls Try.prog 44 #[.int .i64 x, .int .i64 a, .int .i64 b] w (Ans w (.bool (decide (a ≤ x ∧ x ≤ b)))) := by
  by_cases h1 : a ≤ x
  · by_cases h2 : x ≤ b
    · rw [decide_eq_true (show a ≤ x ∧ x ≤ b from ⟨h1, h2⟩)]
      go_enter Try.func44, Try.ntmps44
      go_wp2_with fail
      go_ret
      exact ⟨rfl, rfl⟩
    · rw [decide_eq_false (show ¬ (a ≤ x ∧ x ≤ b) from fun h => h2 h.2)]
      go_enter Try.func44, Try.ntmps44
      go_wp2_with fail
      go_ret
      exact ⟨rfl, rfl⟩
  · rw [decide_eq_false (show ¬ (a ≤ x ∧ x ≤ b) from fun h => h1 h.1)]
    go_enter Try.func44, Try.ntmps44
    go_wp2_with fail
    go_ret
    exact ⟨rfl, rfl⟩
theorem ownP_any {w : World} {b base : Nat} {rs : List Int} (h : Blk w b 3 rs) (hb : base ≤ b) (hl : rs.length ≤ 35184372088832) : Own base w (.slice (some ⟨b, 0, none⟩) rs.length rs.length) rs :=
  ⟨by simp, .inr ⟨b, rs.length, arrI rs, rfl, hb, h, Nat.le_refl _, by unfold maxLen; omega, by simp [arrI], by simp [arrI, List.take_of_length_le]⟩⟩
theorem slice80 (b J : Nat) (hJ : J ≤ 79) (u : World) : Sem.run Try.prog (Instr.sliceAt 23 (.pointer (some ⟨b, 0, none⟩)) (some (.int .i64 (J : Int))) none none) u = .ok (.slice (some ⟨b, J, none⟩) (80 - J) (80 - J)) u := by
  have e : Try.prog.arrayLen 23 = 80 := by kernel_rfl
  obtain ⟨i0, hi, hz0, hz1, hz2⟩ := info_parts infoI64
  rw [run_sliceAt_array_l (P := Try.prog) u 23 _ (by kernel_rfl) .i64 J (by omega) (by omega), e]
  simp [go_sem, slicedAt]
  omega
theorem Mem2.set2 {w wr : World} {T1 T2 : TypeId} {a b : List Int} (h : Mem2 w wr T1 T2 a b) (k : Nat) (z : Int) : Mem2 w (wr.setCell ⟨w.heap.size + 1, k, none⟩ (.int .i64 z)) T1 T2 a (b.set k z) :=
  ⟨h.1.keepBut (grown_setCell wr ⟨w.heap.size + 1, k, none⟩ (.int .i64 z)) (by simp), h.2.1.set k z, grown_own h.2.2 (grown_setCell wr ⟨w.heap.size + 1, k, none⟩ (.int .i64 z)) (by simp)⟩
theorem tmod_nat (m L : Nat) : (m : Int).tmod (L : Int) = ((m % L : Nat) : Int) := by
  rw [Int.tmod_eq_emod_of_nonneg (by omega)]; exact (Int.natCast_emod m L).symm
set_option maxRecDepth 100000 in
theorem pitPast_any (h : List Int) (hh : h.length = 80) (lag : Int) (w : World) :
    Calls Try.prog 31 #[.agg (arrI h), .int .i64 lag] w (ListE w (pasL h lag) (pasE lag)) := by
  have WI := hide (fun w' => pitWithin_any lag 20 79 w')
  have G0 := hide (grown_alloc w (.cells (arrI h) 23) none)
  by_cases hlag : 20 ≤ lag ∧ lag ≤ 79
  · rw [decide_eq_true hlag] at WI
    obtain ⟨L, rfl⟩ : ∃ L : Nat, lag = (L : Int) := ⟨lag.toNat, by omega⟩
    obtain ⟨e1, e2⟩ := pasL_yes h L (by omega) (by omega)
    rw [e1, e2]
    obtain ⟨l1, l2⟩ := hlag
    have M0 := hide (show Mem2 w ((w.alloc (.cells (arrI h) 23)).alloc (.cells (arrI (zeros 40)) 3)) 23 3 h (zeros 40) from laid2 w 23 3 h (zeros 40))
    have hsl := slice80 w.heap.size (80 - L) (by omega)
    have hJ : (80 : Int) - (L : Int) = ((80 - L : Nat) : Int) := by omega
    have hJ2 : 80 - (80 - L) = L := by omega
    rw [hJ2] at hsl
    have hmk := make_zeros 40 (by omega)
    rw [show ((40 : Nat) : Int) = 40 from rfl] at hmk
    have BJ := hide (show ∀ i, 80 - L + i = (80 - L) + i from fun _ => rfl)
    clear e1 e2 G0
    generalize hj : 80 - L = J at *
    have HJ := hide hj
    have jb : J + L = 80 := by omega
    clear hj hJ2
    go_enter Try.func31, Try.ntmps31
    go_wp2_with fail
    refine (WI.out _).mono ?_
    rintro e w1 ⟨rfl, rfl⟩
    clear WI
    go_wp2_with fail
    clear hmk hsl
    generalize (w.alloc (.cells (arrI h) 23)).alloc _ = W0 at *
    go_loopw [18] (fun i wr => ∃ (m : Nat) (rs : List Int), i = .int .i64 m ∧ m ≤ 40 ∧ Hid (FillN 40 (pasN h L) m rs) ∧ Hid (Mem2 w wr 23 3 h rs)) (fun i _ => 40 - (intOf i).toNat)
    case atStart => exact ⟨0, zeros 40, rfl, Nat.zero_le _, fillN_start 40 _, M0.out⟩
    case round =>
      obtain ⟨m, rs, rfl, hm, hF, hM⟩ := hrel
      clear M0
      by_cases hm40 : m < 40
      · have hlen : rs.length = 40 := hF.out.1
        have hq : m % L < L := Nat.mod_lt m (by omega)
        have cx := hM.out.1.cell (J + m % L) (by omega)
        rw [show nth h (J + m % L) = pasN h L m by unfold pasN; rw [HJ.out]] at cx
        have cd := hM.out.2.1.cell m (by omega)
        have fd := hM.out.2.1.free m
        have NF := hide (fillN_step hF.out hm40)
        have NM := hide (hM.out.set2 m (pasN h L m))
        have tm := tmod_nat m L
        have i1 : (m : Int) < 40 := by omega
        have i2 : ¬ (L : Int) = 0 := by omega
        have i3 : ((m % L : Nat) : Int) < L := by omega
        clear hF hM hlen HJ BJ
        generalize pasN h L m = z at *
        generalize nth rs m = q at *
        generalize m % L = M at *
        go_wp2_with fail
        go_roundw
        case rel => exact ⟨m + 1, _, by go_num, by omega, NF.out, NM.out⟩
        case measure => simp [intOf]; omega
      · obtain rfl : m = 40 := by omega
        have EL := hide (show rs = pasV h L from fillN_all hF.out)
        have hlen : rs.length = 40 := hF.out.1
        have OF := ownP_any (base := w.heap.size) hM.out.2.1 (by omega) (by omega)
        rw [hlen] at OF
        have GF := hide hM.out.2.2
        have OO := hide OF
        clear hF hM OF HJ BJ
        go_wp2_with fail
        go_ret2
        rw [EL.out] at OO
        exact ⟨_, rfl, OO.out, GF.out⟩
  · rw [show pasL h lag = [] from if_neg hlag, show pasE lag = 2 from if_neg hlag]
    rw [decide_eq_false hlag] at WI
    clear hlag
    go_enter Try.func31, Try.ntmps31
    go_wp2_with fail
    refine (WI.out _).mono ?_
    rintro e w1 ⟨rfl, rfl⟩
    clear WI
    go_wp2_with fail
    go_ret2
    exact ⟨_, rfl, Own_nil _ _, G0.out⟩
end Go.Proofs.Ytekdgohomaeeeaa

/- AppL -/
namespace Go.Proofs.Ytekdgohomaeeeaa
open Go.RowKit
set_option linter.unusedVariables false
set_option linter.unusedSimpArgs false
set_option maxHeartbeats 1000000
def Fam (base : Nat) (w : World) (vs : List (Value × List Int)) : Prop :=
  (∀ (i : Nat) (v : Value) (A : List Int), vs[i]? = some (v, A) → Own base w v A) ∧ ∀ (i j : Nat) (v : Value) (A : List Int) (u : Value) (B : List Int), vs[i]? = some (v, A) → vs[j]? = some (u, B) → i ≠ j → ∀ g, v.ownBlock = some g → u.ownBlock ≠ some g
theorem Fam.get {base : Nat} {w : World} {vs : List (Value × List Int)} (h : Fam base w vs) (i : Nat) {v : Value} {A : List Int} (hi : vs[i]? = some (v, A)) : Own base w v A := h.1 i v A hi
theorem Fam.keep {base : Nat} {w w' : World} {vs : List (Value × List Int)} (h : Fam base w vs) (g : w.grownBy w' none) : Fam base w' vs := ⟨fun i v A hi => (h.1 i v A hi).keep g, h.2⟩
theorem Fam.upd {base : Nat} {w w' : World} {vs : List (Value × List Int)} (h : Fam base w vs) (i : Nat) (v v' : Value) (A A' : List Int) (hi : vs[i]? = some (v, A)) (g : w.grownBy w' v.ownBlock) (o : Own base w' v' A') (n : ∀ g', v'.ownBlock = some g' → v.ownBlock = some g' ∨ w.heap.size ≤ g') : Fam base w' (vs.set i (v', A')) := by
  have hlen : i < vs.length := by
    rcases Nat.lt_or_ge i vs.length with h | h
    · exact h
    · rw [List.getElem?_eq_none h] at hi; cases hi
  have get : ∀ (j : Nat) (u : Value) (B : List Int), (vs.set i (v', A'))[j]? = some (u, B) → (j = i ∧ u = v' ∧ B = A') ∨ (j ≠ i ∧ vs[j]? = some (u, B)) := fun j u B hj => by
    by_cases e : j = i
    · subst e
      rw [List.getElem?_set_self hlen] at hj
      cases hj
      exact .inl ⟨rfl, rfl, rfl⟩
    · rw [List.getElem?_set_ne (Ne.symm e)] at hj
      exact .inr ⟨e, hj⟩
  have old : ∀ (j : Nat) (u : Value) (B : List Int), j ≠ i → vs[j]? = some (u, B) → Own base w' u B := fun j u B hj hu => by
    refine (h.1 j u B hu).kept g ?_
    rcases e : u.ownBlock with _ | b
    · exact .inl rfl
    · right
      intro e'
      exact h.2 j i u B v A hu hi hj b e e'.symm
  have new : ∀ (j : Nat) (u : Value) (B : List Int), j ≠ i → vs[j]? = some (u, B) → ∀ g, u.ownBlock = some g → v'.ownBlock ≠ some g := fun j u B hj hu k hk e => by
    rcases n k e with q | q
    · exact h.2 j i u B v A hu hi hj k hk q
    · have := ((h.1 j u B hu).lt k hk).2
      omega
  refine ⟨fun j u B hj => ?_, fun j k u B u2 B2 hj hk hjk g hg => ?_⟩
  · rcases get j u B hj with ⟨_, rfl, rfl⟩ | ⟨e, hu⟩
    · exact o
    · exact old j u B e hu
  · rcases get j u B hj with ⟨rfl, rfl, rfl⟩ | ⟨e, hu⟩ <;> rcases get k u2 B2 hk with ⟨rfl, rfl, rfl⟩ | ⟨e2, hu2⟩
    · exact absurd rfl hjk
    · intro q
      exact new k u2 B2 e2 hu2 g q hg
    · exact new j u B e hu g hg
    · exact h.2 j k u B u2 B2 hu hu2 hjk g hg
theorem Fam.put {base : Nat} {w w' : World} {vs : List (Value × List Int)} (h : Fam base w vs) (i : Nat) (v' : Value) (A' : List Int) (hi : vs[i]? = some (.slice none 0 0, [])) (g : w.grownBy w' none) (o : Own base w' v' A') (n : ∀ g', v'.ownBlock = some g' → w.heap.size ≤ g') : Fam base w' (vs.set i (v', A')) :=
  h.upd i _ v' [] A' hi g o (fun g' hg' => .inr (n g' hg'))
theorem Fam.nil {base : Nat} {w : World} {n : Nat} : Fam base w (List.replicate n (.slice none 0 0, [])) :=
  ⟨fun i v A hi => by
    have := (List.mem_replicate.1 (List.mem_of_getElem? hi)).2
    cases this
    exact Own_nil _ _, fun i j v A u B hi _ _ g hg => by
    have := (List.mem_replicate.1 (List.mem_of_getElem? hi)).2
    cases this
    cases hg⟩
end Go.Proofs.Ytekdgohomaeeeaa

/- PartL -/
namespace Go.Proofs.Ytekdgohomaeeeaa
open Go.RowKit
set_option linter.unusedVariables false
set_option linter.unusedSimpArgs false
set_option maxHeartbeats 1000000
def splI (L : List Int) (off : Nat) (M : List Int) : List Int := L.take off ++ M ++ L.drop (off + M.length)
theorem splI_len (L : List Int) (off : Nat) (M : List Int) (h : off + M.length ≤ L.length) : (splI L off M).length = L.length := by simp [splI]; omega
theorem splI_nth (L : List Int) (off : Nat) (M : List Int) (h : off + M.length ≤ L.length) (k : Nat) : nth (splI L off M) k = if k < off then nth L k else if k < off + M.length then nth M (k - off) else nth L k := by
  unfold splI nth
  have e : min off L.length = off := by omega
  by_cases h1 : k < off
  · rw [if_pos h1]
    simp [List.getD, List.getElem?_append, h1, e, show k < L.length by omega, show k < off + M.length by omega]
  · rw [if_neg h1]
    by_cases h2 : k < off + M.length
    · rw [if_pos h2]
      simp [List.getD, List.getElem?_append, e, h1, h2]
      rw [if_pos (by omega)]
    · rw [if_neg h2]
      simp [List.getD, List.getElem?_append, e, h1, h2]
      rw [if_neg (by omega), show off + M.length + (k - off - M.length) = k by omega]
theorem grown_setRowI (w : World) (g : Nat) (cs : Array Value) : w.grownBy (w.setRow g cs) (some g) :=
  ⟨rfl, rfl, rfl, by simp, fun k _ h => setRow_other w g k cs (fun e => h (by rw [e]))⟩
end Go.Proofs.Ytekdgohomaeeeaa

/- CnpB -/
namespace Go.Proofs.Ytekdgohomaeeeaa
open Go.RowKit
set_option linter.unusedVariables false
set_option linter.unusedSimpArgs false
set_option maxHeartbeats 2000000
set_option maxRecDepth 100000 in
theorem conMix_size (h : List Int) (lag g : Int) (v : Value) (b : List Int) (w : World) (hv : Ints w v b) (hl : b.length ≠ 40) (hl2 : b.length ≤ 1000000000000000000) :
    Calls Try.prog 13 #[.agg (arrI h), .int .i64 lag, .int .i64 g, v] w (ListE w (mxL h lag g b) (mxE lag g b)) := by
  obtain ⟨ad, c, rfl, hc, _⟩ := hv
  have hne : ((b.length : Int) == 40) = false := beq_eq_false_iff_ne.2 (by omega)
  have F := hide (show ∀ w', w.grownBy w' none → ListE w (mxL h lag g b) (mxE lag g b) (.returned (.tuple #[.slice none 0 0, .int .i64 1])) w' from fun w' q => ⟨_, by rw [(mxL_size (h := h) hl).2], by rw [(mxL_size (h := h) hl).1]; exact Own_nil _ _, q⟩)
  have G0 := hide (grown_alloc w (.cells (arrI h) 23) none)
  clear hl
  generalize ListE w (mxL h lag g b) (mxE lag g b) = T at *
  go_enter Try.func13, Try.ntmps13
  go_upto_region 1 with fail
  generalize w.alloc (.cells (arrI h) 23) = W0 at *
  go_wp2_with fail
  exact F.out _ G0.out
set_option maxRecDepth 100000 in
theorem conMix_gain (h : List Int) (lag g : Int) (v : Value) (b : List Int) (w : World) (hv : Ints w v b) (hl : b.length = 40) (hr : ¬ (0 ≤ g ∧ g ≤ 32767)) :
    Calls Try.prog 13 #[.agg (arrI h), .int .i64 lag, .int .i64 g, v] w (ListE w (mxL h lag g b) (mxE lag g b)) := by
  obtain ⟨ad, c, rfl, hc, _⟩ := hv
  have q : ¬ mxO lag g b := by unfold mxO; omega
  have F := hide (show ∀ w', w.grownBy w' none → ListE w (mxL h lag g b) (mxE lag g b) (.returned (.tuple #[.slice none 0 0, .int .i64 2])) w' from fun w' k => ⟨_, by rw [(mxL_range (h := h) hl q).2], by rw [(mxL_range (h := h) hl q).1]; exact Own_nil _ _, k⟩)
  have G0 := hide (grown_alloc w (.cells (arrI h) 23) none)
  have WI := hide (fun u => conWithin_any g 0 32767 u)
  rw [decide_eq_false hr] at WI
  rw [hl] at hc ⊢
  clear hl q hr
  generalize ListE w (mxL h lag g b) (mxE lag g b) = T at *
  go_enter Try.func13, Try.ntmps13
  go_upto_region 1 with fail
  generalize w.alloc (.cells (arrI h) 23) = W0 at *
  go_wp2_with fail
  refine (WI.out _).mono ?_
  rintro e w1 ⟨rfl, rfl⟩
  go_wp2_with fail
  exact F.out _ G0.out
set_option maxRecDepth 100000 in
theorem conMix_lag (h : List Int) (lag g : Int) (v : Value) (b : List Int) (w : World) (hh : h.length = 80) (hv : Ints w v b) (hl : b.length = 40) (hg : 0 ≤ g ∧ g ≤ 32767) (hr : ¬ (20 ≤ lag ∧ lag ≤ 79)) :
    Calls Try.prog 13 #[.agg (arrI h), .int .i64 lag, .int .i64 g, v] w (ListE w (mxL h lag g b) (mxE lag g b)) := by
  obtain ⟨ad, c, rfl, hc, _⟩ := hv
  have q : ¬ mxO lag g b := by unfold mxO; omega
  have F := hide (show ∀ w', w.grownBy w' none → ListE w (mxL h lag g b) (mxE lag g b) (.returned (.tuple #[.slice none 0 0, .int .i64 2])) w' from fun w' k => ⟨_, by rw [(mxL_range (h := h) hl q).2], by rw [(mxL_range (h := h) hl q).1]; exact Own_nil _ _, k⟩)
  have B0 := hide (Blk.new w 23 h)
  have G0 := hide (grown_alloc w (.cells (arrI h) 23) none)
  have WI := hide (fun u => conWithin_any g 0 32767 u)
  rw [decide_eq_true hg] at WI
  have PS := hide (fun u => pitPast_any h hh lag u)
  rw [show pasL h lag = [] from if_neg hr, show pasE lag = 2 from if_neg hr] at PS
  have S80 := hide (show (Try.prog.info? 23).map (·.size) = some h.length by rw [hh]; exact size80c)
  rw [hl] at hc ⊢
  clear hl q hr hg hh
  generalize ListE w (mxL h lag g b) (mxE lag g b) = T at *
  go_enter Try.func13, Try.ntmps13
  go_upto_region 1 with fail
  generalize w.alloc (.cells (arrI h) 23) = W0 at *
  go_wp2_with fail
  refine (WI.out _).mono ?_
  rintro e w1 ⟨rfl, rfl⟩
  clear WI
  go_wp2_with (refine wpList_load_arr rfl 23 _ rfl w.heap.size rfl h B0.out _ Try.underlying23 rfl S80.out ?_)
  refine (PS.out _).mono ?_
  rintro e w2 ⟨v2, rfl, o2, g2⟩
  have FF := hide (F.out _ (grown_none G0.out g2))
  clear PS o2 g2 F
  go_wp2_with fail
  exact FF.out
set_option maxRecDepth 100000 in
theorem conMix_yes (h : List Int) (lag g : Int) (v : Value) (b : List Int) (w : World) (hh : h.length = 80) (hv : Ints w v b) (hk : mxO lag g b) :
    Calls Try.prog 13 #[.agg (arrI h), .int .i64 lag, .int .i64 g, v] w (ListE w (mxL h lag g b) (mxE lag g b)) := by
  have IV := hide (fun wr (g : w.grownBy wr none) => Ints_keep hv g)
  obtain ⟨ad, c, rfl, hc, _⟩ := hv
  have hl := hk.1
  rw [hl] at hc IV ⊢
  obtain ⟨_, ⟨l0, l9⟩, g0, g9⟩ := id hk
  have PS := hide (fun u => pitPast_any h hh lag u)
  have pl : (pasL h lag).length = 40 := by
    obtain ⟨L, rfl⟩ : ∃ L : Nat, lag = (L : Int) := ⟨lag.toNat, by omega⟩
    rw [(pasL_yes h L (by omega) (by omega)).1]; exact pasV_len _ _
  have pe : pasE lag = 0 := if_pos ⟨l0, l9⟩
  rw [pe] at PS
  have F := hide (show ∀ v' w', Own w.heap.size w' v' (mxA (pasL h lag) g b) → w.grownBy w' none → ListE w (mxL h lag g b) (mxE lag g b) (.returned (.tuple #[v', .int .i64 0])) w' from fun v' w' o q => ⟨v', by rw [(mxL_yes (h := h) hk).2], by rw [(mxL_yes (h := h) hk).1]; exact o, q⟩)
  have WI := hide (fun u => conWithin_any g 0 32767 u)
  rw [decide_eq_true (show 0 ≤ g ∧ g ≤ 32767 from ⟨g0, g9⟩)] at WI
  have B0 := hide (Blk.new w 23 h)
  have G0 := hide (grown_alloc w (.cells (arrI h) 23) none)
  have BL := hide hl
  have VL := hide pl
  have S80 := hide (show (Try.prog.info? 23).map (·.size) = some h.length by rw [hh]; exact size80c)
  have hmk := make_zeros 40 (by omega)
  rw [show ((40 : Nat) : Int) = 40 from rfl] at hmk
  clear hl hk hh pe pl
  generalize ListE w (mxL h lag g b) (mxE lag g b) = T at *
  generalize pasL h lag = V at *
  go_enter Try.func13, Try.ntmps13
  go_upto_region 1 with fail
  generalize w.alloc (.cells (arrI h) 23) = W0 at *
  go_wp2_with fail
  refine (WI.out _).mono ?_
  rintro e w1 ⟨rfl, rfl⟩
  clear WI
  go_wp2_with (refine wpList_load_arr rfl 23 _ rfl w.heap.size rfl h B0.out _ Try.underlying23 rfl S80.out ?_)
  refine (PS.out _).mono ?_
  rintro e W2 ⟨v2, rfl, o2, g2⟩
  obtain ⟨gv, cv', rfl, _, _, _⟩ := o2.form (by rw [VL.out]; omega)
  have G2 := hide (grown_none G0.out g2)
  have OV := hide o2
  clear o2 g2 PS B0 G0 S80
  rw [VL.out] at OV ⊢
  have M0 := hide (show Blk (W2.alloc (.cells (arrI (zeros 40)) 3)) W2.heap.size 3 (zeros 40) ∧ W2.grownBy (W2.alloc (.cells (arrI (zeros 40)) 3)) none from ⟨Blk.new W2 3 (zeros 40), grown_alloc _ _ none⟩)
  go_upto_region 9 with fail
  clear hmk
  generalize W2.alloc (.cells (arrI (zeros 40)) 3) = W3 at *
  go_wp2_with fail
  go_loopw [33] (fun i wr => ∃ (m : Nat) (rs : List Int), i = .int .i64 (m : Int) ∧ m ≤ 40 ∧ Hid (FillN 40 (mxN V g b) m rs) ∧ Hid (Blk wr W2.heap.size 3 rs ∧ W2.grownBy wr none)) (fun i _ => 40 - (intOf i).toNat)
  case atStart => exact ⟨0, zeros 40, rfl, Nat.zero_le _, fillN_start 40 _, M0.out⟩
  case round =>
    obtain ⟨m, rs, rfl, hm, hF, hM⟩ := hrel
    clear M0
    by_cases hm40 : m < 40
    · have i1 : (m : Int) < 40 := by omega
      have cv := (OV.out.keep hM.out.2).cell VL.out.symm m (by rw [VL.out]; exact hm40)
      obtain ⟨a, rfl, cb⟩ := Ints_cell (IV.out _ (grown_none G2.out hM.out.2)) m (by rw [BL.out]; exact hm40)
      have cd := hM.out.1.cell m (by rw [hF.out.1]; exact hm40)
      have fd := hM.out.1.free m
      have NF := hide (fillN_step hF.out hm40)
      have NM := hide (show Blk (wr.drew.setCell ⟨W2.heap.size, m, none⟩ (.int .i64 (mxN V g b m))) W2.heap.size 3 (rs.set m (mxN V g b m)) ∧ W2.grownBy (wr.drew.setCell ⟨W2.heap.size, m, none⟩ (.int .i64 (mxN V g b m))) none from ⟨(hM.out.1.keep (grown_drew (grown_refl wr none))).set m _, grown_own (grown_none hM.out.2 (grown_drew (grown_refl wr none))) (grown_setCell _ ⟨W2.heap.size, m, none⟩ _) (Nat.le_refl _)⟩)
      have EN := hide (show c16 ((c16 (nth V m) * g + 8192) / 16384 + c16 (nth b m)) = mxN V g b m from rfl)
      have bx := c16_bd (nth V m)
      have by' := c16_bd (nth b m)
      have bg : -1073709056 ≤ c16 (nth V m) * g ∧ c16 (nth V m) * g ≤ 1073741824 := mul16_bd _ _ bx.1 bx.2 (by omega) g9
      clear IV hF hM OV
      generalize mxN V g b m = R at *
      generalize nth V m = x at *
      generalize nth b m = y at *
      generalize nth rs m = q at *
      have W3 := wrapI ((c16 x * g + 8192) / 16384 + c16 y) (by omega) (by omega)
      go_upto_region 12 with fail
      refine wp_region_G 14 (fun w' => w' = wr.drew) 15 (by rfl) #[false, false, false, false, false, false, false, false, false, false, false, false, false, false, false] (by rfl) (by kernel_rfl) (fun hcl => ?_)
      refine wpAnyG_take (i := 0) (v := ?vmx0) rfl (by kernel_rfl) hcl (fun _ _ _ h => h) (Or.inl ⟨by rfl, ?ymx0⟩) rfl (fun hcl => ?rmx0)
      case ymx0 => (intro w' hSw; subst hSw; go_simp; try with_reducible rfl)
      (try simp only [Act.put, sL])
      refine wpAnyG_take (i := 1) (v := ?vmx1) rfl (by kernel_rfl) hcl (fun _ _ _ h => h) (Or.inl ⟨by rfl, ?ymx1⟩) rfl (fun hcl => ?rmx1)
      case ymx1 => (intro w' hSw; subst hSw; go_simp; try with_reducible rfl)
      (try simp only [Act.put, sL])
      refine wpAnyG_take (i := 2) (v := ?vmx2) rfl (by kernel_rfl) hcl (fun _ _ _ h => h) (Or.inl ⟨by rfl, ?ymx2⟩) rfl (fun hcl => ?rmx2)
      case ymx2 => (intro w' hSw; subst hSw; go_simp; try with_reducible rfl)
      (try simp only [Act.put, sL])
      refine wpAnyG_take (i := 4) (v := ?vmx4) rfl (by kernel_rfl) hcl (fun _ _ _ h => h) (Or.inl ⟨by rfl, ?ymx4⟩) rfl (fun hcl => ?rmx4)
      case ymx4 => (intro w' hSw; subst hSw; go_simp; try with_reducible rfl)
      (try simp only [Act.put, sL])
      refine wpAnyG_take (i := 6) (v := ?vmx6) rfl (by kernel_rfl) hcl (fun _ _ _ h => h) (Or.inl ⟨by rfl, ?ymx6⟩) rfl (fun hcl => ?rmx6)
      case ymx6 => (intro w' hSw; subst hSw; go_simp; try with_reducible rfl)
      (try simp only [Act.put, sL])
      refine wpAnyG_take (i := 7) (v := ?vmx7) rfl (by kernel_rfl) hcl (fun _ _ _ h => h) (Or.inl ⟨by rfl, ?ymx7⟩) rfl (fun hcl => ?rmx7)
      case ymx7 => (intro w' hSw; subst hSw; go_simp; try with_reducible rfl)
      (try simp only [Act.put, sL])
      refine wpAnyG_take (i := 8) (v := ?vmx8) rfl (by kernel_rfl) hcl (fun _ _ _ h => h) (Or.inl ⟨by rfl, ?ymx8⟩) rfl (fun hcl => ?rmx8)
      case ymx8 => (intro w' hSw; subst hSw; go_simp; try with_reducible rfl)
      (try simp only [Act.put, sL])
      refine wpAnyG_take (i := 9) (v := .int .i64 y) rfl (by kernel_rfl) hcl (fun _ _ _ h => h) (Or.inl ⟨by rfl, ?ymx9⟩) rfl (fun hcl => ?rmx9)
      case ymx9 => (intro w' hSw; subst hSw; go_simp; try with_reducible rfl)
      (try simp only [Act.put, sL])
      refine wpAnyG_exec (i := 3) rfl (by kernel_rfl) hcl (fun K hK => ?_)
      (try simp only [Act.put, sL])
      go_simp
      refine (conStopped_any x _).mono ?_
      rintro e w1 ⟨rfl, rfl⟩
      go_wp2_with fail
      refine hK.out _ _ (fun _ => rfl) (fun hcl => ?_)
      clear hK
      (try simp only [Act.put, sL])
      refine wpAnyG_exec (i := 5) rfl (by kernel_rfl) hcl (fun K hK => ?_)
      (try simp only [Act.put, sL])
      go_simp
      refine (conScaled_any (c16 x) g (by omega) (by omega) _).mono ?_
      rintro e w1 ⟨rfl, rfl⟩
      go_wp2_with fail
      refine hK.out _ _ (fun _ => rfl) (fun hcl => ?_)
      clear hK
      (try simp only [Act.put, sL])
      refine wpAnyG_exec (i := 10) rfl (by kernel_rfl) hcl (fun K hK => ?_)
      (try simp only [Act.put, sL])
      go_simp
      refine (conStopped_any y _).mono ?_
      rintro e w1 ⟨rfl, rfl⟩
      go_wp2_with fail
      refine hK.out _ _ (fun _ => rfl) (fun hcl => ?_)
      clear hK
      (try simp only [Act.put, sL])
      refine wpAnyG_take (i := 11) (v := .int .i64 ((c16 x * g + 8192) / 16384 + c16 y)) rfl (by kernel_rfl) hcl (fun _ _ _ h => h) (Or.inl ⟨by rfl, ?ymx11⟩) rfl (fun hcl => ?rmx11)
      case ymx11 => (intro w' hSw; subst hSw; go_simp; (try simp only [W3]))
      (try simp only [Act.put, sL])
      refine wpAnyG_exec (i := 12) rfl (by kernel_rfl) hcl (fun K hK => ?_)
      (try simp only [Act.put, sL])
      go_simp
      refine (conStopped_any ((c16 x * g + 8192) / 16384 + c16 y) _).mono ?_
      rintro e w1 ⟨rfl, rfl⟩
      rw [EN.out]
      go_wp2_with fail
      refine hK.out _ _ (fun _ => rfl) (fun hcl => ?_)
      clear hK
      (try simp only [Act.put, sL])
      refine wpAnyG_take (i := 13) (v := ?vmx13) rfl (by kernel_rfl) hcl (fun _ _ _ h => h) (Or.inl ⟨by rfl, ?ymx13⟩) rfl (fun hcl => ?rmx13)
      case ymx13 => (intro w' hSw; subst hSw; go_simp; try with_reducible rfl)
      (try simp only [Act.put, sL])
      refine wpAnyG_exec (i := 14) rfl (by kernel_rfl) hcl (fun K hK => ?_)
      (try simp only [Act.put, sL])
      go_simp
      go_wp2_with fail
      refine hK.out _ _ (fun h => by cases h) (fun hcl => ?_)
      clear hK
      (try simp only [Act.put, sL])
      refine wpAnyG_of_any _ _ _ _ (by rfl) ?_
      refine wpAny_done (by kernel_rfl) ?_ _
      go_wp2_with fail
      go_roundw
      case rel => exact ⟨m + 1, _, by go_num, by omega, NF.out, NM.out⟩
      case measure => first | (simp [intOf]; done) | (simp [intOf]; omega)
    · obtain rfl : m = 40 := by omega
      have EL := hide (show rs = mxA V g b from fillN_all hF.out)
      have hlen : rs.length = 40 := hF.out.1
      have OF := ownP_any (base := w.heap.size) hM.out.1 G2.out.size (by omega)
      rw [hlen] at OF
      have FF := hide (F.out _ _ (by rw [← EL.out]; exact OF) (grown_none G2.out hM.out.2))
      clear hF hM F IV OF OV
      rw [show ((40 : Nat) : Int) = 40 from rfl]
      go_wp2_with fail
      exact FF.out
theorem conMix_any (h : List Int) (lag g : Int) (v : Value) (b : List Int) (w : World) (hh : h.length = 80) (hv : Ints w v b) (hl2 : b.length ≤ 1000000000000000000) :
    Calls Try.prog 13 #[.agg (arrI h), .int .i64 lag, .int .i64 g, v] w (ListE w (mxL h lag g b) (mxE lag g b)) := by
  by_cases hl : b.length = 40
  · by_cases hg : 0 ≤ g ∧ g ≤ 32767
    · by_cases hr : 20 ≤ lag ∧ lag ≤ 79
      · exact conMix_yes h lag g v b w hh hv ⟨hl, hr, hg⟩
      · exact conMix_lag h lag g v b w hh hv hl hg hr
    · exact conMix_gain h lag g v b w hv hl hg
  · exact conMix_size h lag g v b w hv hl hl2
theorem step_copyK {y : Nat → Option Bool} {o : Oper} {a : Act} {w : World} {K : Act → World → Prop} {Q : Exit → Act → World → Prop} {E : Prop} (hg : o.guard = none) (d s : Operand)
    (hop : o.op = Op.call { callee := Callee.builtin Builtin.copy, args := #[d, s], argTypes := #[28, 28] }) (b off dn n dc sc : Nat) (T : TypeId) (p L : List Int) (ad : Addr) (hb : Blk w b T p)
    (hd : a.eval d = .slice (some ⟨b, off, none⟩) dn dc) (hs : a.eval s = .slice (some ad) n sc) (hL : L.length = n) (hdn : n ≤ dn) (hsrc : ∀ j, j < n → w.cell? (ad.add j) = some (.int .i64 (nth L j))) (hfit : off + n ≤ p.length)
    (hK : ∀ w', Blk w' b T (splI p off L) → w.grownBy w' (some b) → K (a.put o.dst (goInt n)) w') : if Region.wanted o y = true then Oper.wp Try.prog o a w K Q else E := by
  have hw : Region.wanted o y = true := by simp [Region.wanted, hg]
  rw [if_pos hw]
  have hsz : (Try.prog.info? 3).map (·.size) = some 1 := by kernel_rfl
  have hrun := run_copy_row (P := Try.prog) w 28 28 o.type 3 b off dn dc ad n sc (arrI p) T (L.map (Value.int .i64)) Try.underlying28 hsz hb (by rw [List.length_map, hL]; exact (Nat.min_eq_left hdn).symm)
    (fun j v hv => by
      have hj : j < L.length := by
        by_cases hj : j < L.length
        · exact hj
        · rw [List.getElem?_eq_none (by simp; omega)] at hv; cases hv
      rw [hsrc j (by omega)]
      simpa [nth, List.getD, hj] using hv)
    (by simp [arrI, hL]; omega) (fun v hv => by
      obtain ⟨x, _, rfl⟩ := List.mem_map.1 hv
      rfl)
  have e : ((arrI p).toList.take off ++ L.map (Value.int .i64) ++ (arrI p).toList.drop (off + (L.map (Value.int .i64)).length)).toArray = arrI (splI p off L) := by
    simp [arrI, splI, List.map_take, List.map_drop]
  rw [e, List.length_map, hL] at hrun
  unfold Oper.wp
  simp [execOp, hop, resolve, invoke, builtin, hd, hs, hrun, Result.andThen]
  exact hK _ (setRow_heap _ _ _ _ _ _ hb) (grown_setRowI _ _ _)
theorem Mem2.put2 {w wr : World} {T1 T2 : TypeId} {a b b' : List Int} (h : Mem2 w wr T1 T2 a b) (hl : b'.length = b.length) : Blk (putArr wr (w.heap.size + 1) b') (w.heap.size + 1) T2 b' ∧ w.grownBy (putArr wr (w.heap.size + 1) b') none := by
  have := put_arr (rs' := b') h.2.1 hl
  exact ⟨this.1, grown_own h.2.2 this.2 (by omega)⟩
theorem Mem2.set1 {w wr : World} {T1 T2 : TypeId} {a b : List Int} (h : Mem2 w wr T1 T2 a b) (k : Nat) (z : Int) : Mem2 w (wr.setCell ⟨w.heap.size, k, none⟩ (.int .i64 z)) T1 T2 (a.set k z) b :=
  ⟨h.1.set k z, h.2.1.keepBut (grown_setCell wr ⟨w.heap.size, k, none⟩ (.int .i64 z)) (by simp), grown_own h.2.2 (grown_setCell wr ⟨w.heap.size, k, none⟩ (.int .i64 z)) (Nat.le_refl _)⟩
set_option maxRecDepth 100000 in
theorem conKeep_no (h : List Int) (v : Value) (b : List Int) (w : World) (hh : h.length = 80) (hv : Ints w v b) (hl : b.length ≠ 40) (hl2 : b.length ≤ 1000000000000000000) :
    Calls Try.prog 16 #[.agg (arrI h), v] w (KepE w (kpL h b) (kpE b)) := by
  obtain ⟨ad, c, rfl, hc, _⟩ := hv
  have M0 := hide (show Mem2 w _ 23 23 h (zeros 80) from laid2 w 23 23 h (zeros 80))
  have PU := M0.out.put2 (b' := zeros 80) rfl
  have PB := hide PU.1
  have ZL := hide (zeros_len 80)
  have hz := zero_arr z80
  have hne : ((b.length : Int) == 40) = false := beq_eq_false_iff_ne.2 (by omega)
  have F := hide (show KepE w (kpL h b) (kpE b) (.returned (.tuple #[.agg (arrI (zeros 80)), .int .i64 1])) _ from ⟨by rw [(kpL_no (h := h) hl).1, (kpL_no (h := h) hl).2], PU.2⟩)
  clear PU hl hh
  generalize KepE w (kpL h b) (kpE b) = T at *
  generalize zeros 80 = Z at *
  go_enter Try.func16, Try.ntmps16
  go_upto_region 1 with fail
  generalize (w.alloc (.cells (arrI h) 23)).alloc (.cells (arrI Z) 23) = W0 at *
  go_wp2_with (first | refine wpList_store_arr rfl 23 _ _ rfl _ Z Z rfl rfl M0.out.2.1 rfl (by rw [ZL.out]; exact size80c) ?_)
  have hlv := loadVar_arr PB.out _ Try.underlying23 rfl (by rw [ZL.out]; exact size80c)
  refine bodyPost_ret (v := .tuple #[.agg (arrI Z), .int .i64 1]) ?_ rfl F.out
  simp [results, Try.results16, asAddr, Act.put, hlv]
theorem kpFill_start (h b : List Int) (hh : h.length = 80) : FillN 80 (kpN h b) (40 + 0) (splI h 0 (prt h 40 40)) := by
  refine ⟨by rw [splI_len _ _ _ (by rw [prt_len]; omega)]; exact hh, fun j hj => ?_⟩
  rw [splI_nth _ _ _ (by rw [prt_len]; omega), if_neg (by omega), prt_len, if_pos (by omega), prt_nth _ _ _ _ (by omega)]
  unfold kpN
  rw [if_pos (by omega), show 40 + (j - 0) = j + 40 by omega]
set_option maxRecDepth 100000 in
theorem conKeep_yes (h : List Int) (v : Value) (b : List Int) (w : World) (hh : h.length = 80) (hv : Ints w v b) (hl : b.length = 40) :
    Calls Try.prog 16 #[.agg (arrI h), v] w (KepE w (kpL h b) (kpE b)) := by
  have IV := hide (fun wr (g : w.grownBy wr none) => Ints_keep hv g)
  obtain ⟨ad, c, rfl, hc, _⟩ := hv
  rw [hl] at IV hc ⊢
  have M0 := hide (show Mem2 w _ 23 23 h (zeros 80) from laid2 w 23 23 h (zeros 80))
  have ZL := hide (zeros_len 80)
  have HH := hide hh
  have HL := hide hl
  have F_ := hide (kpFill_start h b hh)
  have hz := zero_arr z80
  have F := hide (show ∀ w', w.grownBy w' none → KepE w (kpL h b) (kpE b) (.returned (.tuple #[.agg (arrI (kpA h b)), .int .i64 0])) w' from fun w' g => ⟨by rw [(kpL_yes (h := h) hl).1, (kpL_yes (h := h) hl).2], g⟩)
  clear hl hh
  generalize KepE w (kpL h b) (kpE b) = T at *
  generalize zeros 80 = Z at *
  go_enter Try.func16, Try.ntmps16
  go_upto_region 3 with fail
  generalize (w.alloc (.cells (arrI h) 23)).alloc (.cells (arrI Z) 23) = W0 at *
  clear hz
  refine wp_region_held_drew (S := GrownW w) (by kernel_rfl) (grown_drew M0.out.2.2) (fun hHeld => ?_)
  refine wpAnyH_take (i := 0) (v := .slice (some ⟨w.heap.size, 0, none⟩) 80 80) rfl (by kernel_rfl) (by kernel_rfl) (by kernel_rfl) (fun _ _ _ h => h) (Or.inl ⟨by rfl, ?ykp0⟩) hHeld ?rkp0
  case ykp0 => (intro w' hSw; go_simp; (try with_reducible rfl))
  (try simp only [Act.put, sL])
  refine wpAnyH_take (i := 1) (v := .slice (some ⟨w.heap.size, 40, none⟩) 40 40) rfl (by kernel_rfl) (by kernel_rfl) (by kernel_rfl) (fun _ _ _ h => h) (Or.inl ⟨by rfl, ?ykp1⟩) hHeld ?rkp1
  case ykp1 => (intro w' hSw; go_simp; (try with_reducible rfl))
  (try simp only [Act.put, sL])
  refine wpAnyH_ready (rs := [2]) (by kernel_rfl) (by simp) (AllReadyH.cons rfl (fun K hK => ?_) AllReadyH.nil)
  (try simp only [Act.put, sL])
  refine step_copyK rfl _ _ rfl w.heap.size 0 80 40 80 40 23 h (prt h 40 40) ⟨w.heap.size, 40, none⟩ (M0.out.1.keep (gw_start W0)) rfl rfl (prt_len _ _ _) (by omega) (fun j hj => by rw [Addr.add_mid, prt_nth _ _ _ _ hj]; exact (M0.out.1.keep (gw_start W0)).cell (40 + j) (by rw [HH.out]; omega)) (by rw [HH.out]; omega) ?_
  intro w1 b1 g1
  have B1 := hide b1
  have BB := hide ((M0.out.2.1.keep (gw_start W0)).keepBut g1 (by omega))
  have GM := hide (grown_own hHeld g1 (Nat.le_refl _))
  clear b1 g1 M0 hHeld
  refine hK.out _ _ GM.out (fun hHeld => ?_)
  clear hK
  (try simp only [Act.put, sL])
  refine wpAnyH_take (i := 3) (v := ?vkp3) rfl (by kernel_rfl) (by kernel_rfl) (by kernel_rfl) (fun _ _ _ h => h) (Or.inl ⟨by rfl, ?ykp3⟩) hHeld ?rkp3
  case ykp3 => (intro w' hSw; go_simp; (try with_reducible rfl))
  (try simp only [Act.put, sL])
  refine wpAnyH_done (by kernel_rfl) ?_ _
  have M1 := hide (show Mem2 w w1 23 23 (splI h 0 (prt h 40 40)) Z from ⟨B1.out, BB.out, GM.out⟩)
  clear B1 BB GM hHeld
  generalize splI h 0 (prt h 40 40) = H0 at *
  rw [show goInt ((40 : Nat) : Int) = .int .i64 40 from rfl]
  go_wp2_with fail
  go_loopw [18] (fun i wr => ∃ (m : Nat) (rs : List Int), i = .int .i64 (m : Int) ∧ m ≤ 40 ∧ Hid (FillN 80 (kpN h b) (40 + m) rs) ∧ Hid (Mem2 w wr 23 23 rs Z)) (fun i _ => 40 - (intOf i).toNat)
  case atStart => exact ⟨0, H0, rfl, Nat.zero_le _, F_.out, M1.out⟩
  case round =>
    obtain ⟨m, rs, rfl, hm, hF, hM⟩ := hrel
    clear M1 F_
    by_cases hm40 : m < 40
    · have i1 : (m : Int) < 40 := by omega
      have rl := hF.out.1
      obtain ⟨a, rfl, cx⟩ := Ints_cell (IV.out wr hM.out.2.2) m (by rw [HL.out]; omega)
      have cd := hM.out.1.cell (40 + m) (by omega)
      have fd := hM.out.1.free (40 + m)
      have NF := hide (fillN_step hF.out (show 40 + m < 80 by omega))
      have EK : kpN h b (40 + m) = c16 (nth b m) := by unfold kpN; rw [if_neg (by omega), show 40 + m - 40 = m by omega]
      rw [EK] at NF
      have NM := hide (hM.out.set1 (40 + m) (c16 (nth b m)))
      have RS := hide (conStopped_any (nth b m) wr)
      clear hF hM IV EK rl
      generalize hk : 40 + m = k at *
      have i3 : (40 : Int) + (m : Int) = (k : Int) := by omega
      have i4 : (k : Int) < 80 := by omega
      have HK := hide hk
      clear hk
      generalize nth b m = x at *
      generalize c16 x = z at *
      generalize nth rs k = y at *
      go_wp2_with fail
      refine RS.out.mono ?_
      rintro e w1 ⟨rfl, rfl⟩
      clear RS
      go_wp2_with fail
      go_roundw
      case rel => exact ⟨m + 1, _, by go_num, by omega, by rw [show 40 + (m + 1) = k + 1 by have := HK.out; omega]; exact NF.out, NM.out⟩
      case measure => first | (simp [intOf]; done) | (simp [intOf]; omega)
    · obtain rfl : m = 40 := by omega
      rw [show ((40 : Nat) : Int) = 40 from rfl]
      have ers : rs = kpA h b := fillN_all hF.out
      subst ers
      have PU := hM.out.put2 (b' := kpA h b) (by rw [kpA_len, ZL.out])
      have PB := hide PU.1
      have FF := hide (F.out _ PU.2)
      have KL := hide (kpA_len h b)
      have HM := hide hM.out
      clear hF hM PU IV F
      generalize kpA h b = R at *
      go_wp2_with (first | refine wpList_load_arr rfl 23 _ rfl _ rfl _ HM.out.1 _ Try.underlying23 rfl (by rw [KL.out]; exact size80c) ?_ | refine wpList_store_arr rfl 23 _ _ rfl _ Z R rfl rfl HM.out.2.1 (by rw [KL.out, ZL.out]) (by rw [ZL.out]; exact size80c) ?_)
      have hlv := loadVar_arr PB.out _ Try.underlying23 rfl (by rw [KL.out]; exact size80c)
      refine bodyPost_ret (v := .tuple #[.agg (arrI R), .int .i64 0]) ?_ rfl FF.out
      simp [results, Try.results16, asAddr, Act.put, hlv]
theorem conKeep_any (h : List Int) (v : Value) (b : List Int) (w : World) (hh : h.length = 80) (hv : Ints w v b) (hl2 : b.length ≤ 1000000000000000000) :
    Calls Try.prog 16 #[.agg (arrI h), v] w (KepE w (kpL h b) (kpE b)) := by
  by_cases hl : b.length = 40
  · exact conKeep_yes h v b w hh hv hl
  · exact conKeep_no h v b w hh hv hl hl2
end Go.Proofs.Ytekdgohomaeeeaa

/- GaiF -/
namespace Go.Proofs.Ytekdgohomaeeeaa
open Go.RowKit
set_option linter.unusedVariables false
set_option linter.unusedSimpArgs false
set_option maxHeartbeats 1000000
theorem gaiFade_any (g k : Int) (w : World) : Calls Try.prog 39 #[.int .i64 g, .int .i64 k] w fun x w' => x = .returned (.int .i64 (fdV g k)) ∧ w' = w := by
  by_cases hg : g < 0
  · rw [show fdV g k = 0 from if_pos (.inl hg)]
    go_enter Try.func39, Try.ntmps39
    go_wp2_with fail
    go_ret
    exact ⟨rfl, rfl⟩
  · by_cases hk : 6 ≤ k
    · rw [show fdV g k = 0 from if_pos (.inr hk)]
      go_enter Try.func39, Try.ntmps39
      go_wp2_with fail
      go_ret
      exact ⟨rfl, rfl⟩
    · rw [show fdV g k = fdN g k.toNat from if_neg (by omega)]
      have hk' : k < 6 := by omega
      have hg' : 0 ≤ g := by omega
      have e1 : min g 32767 = fdN g 0 := by show min g 32767 = (if 32767 < g then 32767 else g); split <;> omega
      have e2 : (if 32767 < g then 32767 else g) = fdN g 0 := rfl
      have B := hide (fdN_bd g hg')
      have ES := hide (show ∀ n, fdN g (n + 1) = fdN g n * 26214 / 32768 from fun n => rfl)
      clear hg hk
      go_enter Try.func39, Try.ntmps39
      go_upto_region 4 with fail
      have HM : ∃ z : Int, z = fdN g 0 := ⟨_, rfl⟩
      clear e1 e2
      go_wp2_with fail
      go_loop [0, 14] (fun s i => ∃ m : Nat, i = .int .i64 (m : Int) ∧ s = .int .i64 (fdN g m) ∧ ((m : Int) ≤ k ∨ m = 0)) (fun _ i => 6 - (intOf i).toNat)
      case atStart => exact ⟨0, rfl, rfl, .inr rfl⟩
      case round =>
        obtain ⟨m, rfl, rfl, hm⟩ := hrel
        obtain ⟨b1, b2⟩ := B.out m
        by_cases hmk : (m : Int) < k
        · have E1 := hide (ES.out m)
          clear B ES hm HM
          generalize fdN g m = s at *
          go_wp2_with fail
          go_round
          case rel => exact ⟨m + 1, by go_num, by rw [E1.out], .inl (by omega)⟩
          case measure => simp [intOf]; omega
        · have HK := hide (show k.toNat = m by omega)
          clear B ES HM
          generalize hS : fdN g m = s at *
          have HS := hide hS
          clear hS
          go_wp2_with fail
          go_ret
          exact ⟨by rw [HK.out, HS.out]; rfl, rfl⟩
theorem gaiNoise_any (s x : Int) (w : World) : Calls Try.prog 49 #[.int .i64 s, .int .i64 x] w fun e w' => e = .returned (.tuple #[.int .i64 (noS s), .int .i64 (noX s x)]) ∧ w' = w := by
  have e2 : bits .and .i64 (wrap64 (wrap64 (s * 31821) + 13849)) 65535 = noS s := wrap_and16 _ _ (by simp only [wrap64]; omega)
  obtain ⟨a1, a2⟩ := noS_bd s
  obtain ⟨p1, p2⟩ := noP_bd s x
  rw [show noX s x = (noS s - 32768) * noZ x / 32768 from rfl]
  generalize noS s = t at *
  by_cases h1 : x < 0
  · rw [show noZ x = 0 from if_pos h1, Int.mul_zero, show (0 : Int) / 32768 = 0 from rfl]
    clear p1 p2
    have m1 : max x 0 = 0 := by omega
    have m2 : min (0 : Int) 32767 = 0 := by omega
    go_enter Try.func49, Try.ntmps49
    go_wp2_with fail
    go_ret2
    exact ⟨rfl, rfl⟩
  · by_cases h2 : 32767 < x
    · rw [show noZ x = 32767 from by unfold noZ; rw [if_neg h1, if_pos h2]] at *
      have m1 : max x 0 = x := by omega
      have m2 : min x 32767 = 32767 := by omega
      go_enter Try.func49, Try.ntmps49
      go_wp2_with fail
      go_ret2
      exact ⟨rfl, rfl⟩
    · rw [show noZ x = x from by unfold noZ; rw [if_neg h1, if_neg h2]] at *
      have m1 : max x 0 = x := by omega
      have m2 : min x 32767 = x := by omega
      have w1 : wrap64 ((t - 32768) * x) = (t - 32768) * x := by simp only [wrap64]; omega
      go_enter Try.func49, Try.ntmps49
      go_wp2_with fail
      go_ret2
      exact ⟨rfl, rfl⟩
end Go.Proofs.Ytekdgohomaeeeaa

/- CnpC -/
namespace Go.Proofs.Ytekdgohomaeeeaa
open Go.RowKit
set_option linter.unusedVariables false
set_option linter.unusedSimpArgs false
set_option maxHeartbeats 2000000
theorem MmS.keepBut {w : World} {l : List Int} {s : Bool} {wr wr' : World} {r : Nat} (h : MmS w l s wr) (g : wr.grownBy wr' (some r)) (hr : w.heap.size + 1 < r) : MmS w l s wr' := ⟨h.1.keepBut g (by omega), h.2.1.keepBut g (by omega), grown_own h.2.2 g (by omega)⟩
theorem MmS.all {w : World} {l : List Int} {s : Bool} {wr : World} (h : MmS w l s wr) (m : List Int) (t : Bool) (hl : l.length = 101) (hm : m.length = 101) : MmS w m t (putV wr w.heap.size 0 (memC m t)) ∧ wr.grownBy (putV wr w.heap.size 0 (memC m t)) (some w.heap.size) := by
  have := h.1.putAll (m := m) (t := t) hl hm
  exact ⟨⟨this.1, h.2.1.keepBut this.2 (by omega), grown_own h.2.2 this.2 (Nat.le_refl _)⟩, this.2⟩
def NsS (w : World) (l : List Int) (s : Bool) (rs : List Int) (wr : World) : Prop := MmS w l s wr ∧ Blk wr (w.heap.size + 2) 3 rs
theorem NsS.new (w : World) (l : List Int) (s : Bool) : NsS w l s (zeros 40) (((w.alloc (.cells (memC l s).toArray 25)).alloc (.cells (memC (zeros 101) false).toArray 25)).alloc (.cells (arrI (zeros 40)) 3)) := by
  refine ⟨(MmS.new w l s).keep (grown_alloc _ _ none), ?_⟩
  have := Blk.new ((w.alloc (.cells (memC l s).toArray 25)).alloc (.cells (memC (zeros 101) false).toArray 25)) 3 (zeros 40)
  simpa using this
theorem NsS.setM {w : World} {l : List Int} {s : Bool} {rs : List Int} {wr : World} (h : NsS w l s rs wr) (k : Nat) (z : Int) (hk : k < l.length) : NsS w (l.set k z) s rs (wr.setCell ⟨w.heap.size, k, none⟩ (.int .i64 z)) := ⟨h.1.set k z hk, h.2.keepBut (grown_setCell wr ⟨w.heap.size, k, none⟩ (.int .i64 z)) (by simp)⟩
theorem NsS.setL {w : World} {l : List Int} {s : Bool} {rs : List Int} {wr : World} (h : NsS w l s rs wr) (k : Nat) (z : Int) : NsS w l s (rs.set k z) (wr.setCell ⟨w.heap.size + 2, k, none⟩ (.int .i64 z)) := ⟨h.1.keepBut (grown_setCell wr ⟨w.heap.size + 2, k, none⟩ (.int .i64 z)) (by simp), h.2.set k z⟩
def NsE (w : World) (m : List Int) (s : Bool) (L : List Int) (e : Ending) (w' : World) : Prop := ∃ v', e = .returned (.tuple #[memV m s, v']) ∧ Own w.heap.size w' v' L ∧ w.grownBy w' none
set_option maxRecDepth 100000 in
theorem conNoise_any (l : List Int) (s : Bool) (x : Int) (hl : l.length = 101) (w : World) : Calls Try.prog 38 #[memV l s, .int .i64 x] w (NsE w (l.set 100 (sdN (nth l 100) 40)) s (nzL (nth l 100) x 40)) := by
  have M0 := hide (NsS.new w l s)
  have NZ := hide (fun sd wr => gaiNoise_any sd x wr)
  have F := hide (show ∀ v' w', Own w.heap.size w' v' (nzL (nth l 100) x 40) → w.grownBy w' none → NsE w (l.set 100 (sdN (nth l 100) 40)) s (nzL (nth l 100) x 40) (.returned (.tuple #[memV (l.set 100 (sdN (nth l 100) 40)) s, v'])) w' from fun v' w' o q => ⟨v', rfl, o, q⟩)
  have HL := hide hl
  have ZL := hide (memC_len (zeros_len 101) false)
  have hz := zero_mem
  have hmk := make_zeros 40 (by omega)
  rw [show ((40 : Nat) : Int) = 40 from rfl] at hmk
  have S0 := hide (show l.set 100 (sdN (nth l 100) 0) = l from set_self l 100 (by omega))
  clear hl
  generalize NsE w (l.set 100 (sdN (nth l 100) 40)) s (nzL (nth l 100) x 40) = T at *
  generalize nth l 100 = sd at *
  unfold memV at hz F ⊢
  go_enter Try.func38, Try.ntmps38
  go_upto_region 2 with fail
  generalize ((w.alloc (.cells (memC l s).toArray 25)).alloc (.cells (memC (zeros 101) false).toArray 25)).alloc (.cells (arrI (zeros 40)) 3) = W0 at *
  clear hz hmk
  go_wp2_with fail
  go_loopw [11] (fun i wr => ∃ (m : Nat) (rs : List Int), i = .int .i64 (m : Int) ∧ m ≤ 40 ∧ Hid (FillN 40 (nzN sd x) m rs) ∧ Hid (NsS w (l.set 100 (sdN sd m)) s rs wr)) (fun i _ => 40 - (intOf i).toNat)
  case atStart => exact ⟨0, zeros 40, rfl, Nat.zero_le _, fillN_start 40 _, by rw [S0.out]; exact M0.out⟩
  case round =>
    obtain ⟨m, rs, rfl, hm, hF, hM⟩ := hrel
    clear M0 S0
    by_cases hm40 : m < 40
    · have i1 : (m : Int) < 40 := by omega
      have c100 := hM.out.1.1.cell 100 (by rw [List.length_set, HL.out]; omega)
      rw [setN _ _ _ (by rw [HL.out]; omega), if_pos rfl] at c100
      have f100 := hM.out.1.1.free 100
      have cd := hM.out.2.cell m (by rw [hF.out.1]; exact hm40)
      have fd := hM.out.2.free m
      have NF := hide (fillN_step hF.out hm40)
      have N1 := hide (hM.out.setM 100 (sdN sd (m + 1)) (by rw [List.length_set, HL.out]; omega))
      rw [List.set_set] at N1
      have NM := hide (N1.out.setL m (nzN sd x m))
      have cd1 := N1.out.2.cell m (by rw [hF.out.1]; exact hm40)
      have fd1 := N1.out.2.free m
      have E1 : noS (sdN sd m) = sdN sd (m + 1) := rfl
      have E2 : noX (sdN sd m) x = nzN sd x m := rfl
      have NN := hide (NZ.out (sdN sd m))
      rw [E1, E2] at NN
      clear hF hM N1 NZ E1 E2
      generalize hs1 : sdN sd (m + 1) = s1 at *
      have HS1 := hide hs1
      clear hs1
      generalize sdN sd m = s0 at *
      generalize nzN sd x m = z at *
      generalize nth rs m = q at *
      go_wp2_with fail
      refine (NN.out _).mono ?_
      rintro e w1 ⟨rfl, rfl⟩
      clear NN
      go_wp2_with fail
      go_roundw
      case rel => exact ⟨m + 1, _, by go_num, by omega, NF.out, by rw [HS1.out]; exact NM.out⟩
      case measure => first | (simp [intOf]; done) | (simp [intOf]; omega)
    · obtain rfl : m = 40 := by omega
      rw [show ((40 : Nat) : Int) = 40 from rfl]
      have EL := hide (show rs = nzL sd x 40 from fillN_all hF.out)
      have hlen : rs.length = 40 := hF.out.1
      have L5 := hide (show (l.set 100 (sdN sd 40)).length = 101 by rw [List.length_set]; exact HL.out)
      have M5 := hide hM.out.1
      have OF := ownP_any (base := w.heap.size + 2) hM.out.2 (Nat.le_refl _) (by omega)
      rw [hlen] at OF
      generalize l.set 100 (sdN sd 40) = m at *
      have A5 := hide (BlkM.all s L5.out)
      have C5 := hide (memC_len L5.out s)
      have ON := hide (memC_one m s)
      have PB := hide (M5.out.fin m s L5.out)
      have O6 := hide (OF.keepLt (M5.out.2.1.putAll (m := m) (t := s) (zeros_len 101) L5.out).2 (by omega))
      have FF := hide (F.out _ _ (by rw [← EL.out]; exact O6.out.base (by omega)) PB.out.2)
      clear F O6 OF hF hM EL hlen NZ
      go_wp2_with (first | refine wpList_load_v rfl 25 _ rfl w.heap.size 0 102 rfl 25 (memC m s) M5.out.1 _ Try.underlying25 rfl size102 (by rw [C5.out]; omega) _ A5.out ?_ | refine wpList_store_v rfl 25 _ _ rfl (w.heap.size + 1) 0 25 (memC (zeros 101) false) (memC m s) rfl rfl M5.out.2.1 (by rw [ZL.out, C5.out]; omega) (by rw [C5.out]; exact size102) ON.out ?_)
      have hlv := loadVar_v PB.out.1 _ Try.underlying25 rfl (by rw [C5.out]; exact size102)
      refine bodyPost_ret (v := .tuple #[.agg (memC m s).toArray, _]) ?_ rfl FF.out
      simp [results, Try.results38, asAddr, Act.put, hlv]
end Go.Proofs.Ytekdgohomaeeeaa
