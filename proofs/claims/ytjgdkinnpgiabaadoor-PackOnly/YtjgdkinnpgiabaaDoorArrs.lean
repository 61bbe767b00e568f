/- Arrays of ints as they lie in memory: a whole block. -/
import Derived.Test.YtjgdkinnpgiabaaDoorInts
import Derived.Deep.MidRow
namespace Go.Proofs.YtjgdkinnpgiabaaDoor
open Go.RowKit
set_option linter.unusedVariables false
set_option linter.unusedSimpArgs false

def Blk (w : World) (b : Nat) (T : TypeId) (rs : List Int) : Prop := w.heap[b]? = some (.cells (arrI rs) T (0, 0))
theorem Blk.cell {w : World} {b : Nat} {T : TypeId} {rs : List Int} (h : Blk w b T rs) (i : Nat) (hi : i < rs.length) : w.cell? ⟨b, i, none⟩ = some (.int .i64 (nth rs i)) := (cell_of_heap h i).trans (arrI_get rs i hi)
theorem Blk.free {w : World} {b : Nat} {T : TypeId} {rs : List Int} (h : Blk w b T rs) (i : Nat) : w.frozen? ⟨b, i, none⟩ = false := frozen_of_heap h i
theorem Blk.lt {w : World} {b : Nat} {T : TypeId} {rs : List Int} (h : Blk w b T rs) : b < w.heap.size := lt_of_some h
theorem Blk.keep {w w' : World} {b : Nat} {T : TypeId} {rs : List Int} (h : Blk w b T rs) (g : w.grownBy w' none) : Blk w' b T rs := (g.block _ (lt_of_some h) (by simp)).trans h
theorem Blk.keepBut {w w' : World} {b : Nat} {T : TypeId} {rs : List Int} {r : Nat} (h : Blk w b T rs) (g : w.grownBy w' (some r)) (hr : b ≠ r) : Blk w' b T rs := (g.block _ (lt_of_some h) (by simpa using hr)).trans h
theorem Blk.new (w : World) (T : TypeId) (rs : List Int) : Blk (w.alloc (.cells (arrI rs) T)) w.heap.size T rs := heap_new w _
theorem Blk.new1 (w : World) (o : Obj) (T : TypeId) (rs : List Int) : Blk ((w.alloc o).alloc (.cells (arrI rs) T)) (w.heap.size + 1) T rs := by simpa using Blk.new (w.alloc o) T rs
theorem Blk.set {w : World} {b : Nat} {T : TypeId} {rs : List Int} (h : Blk w b T rs) (k : Nat) (z : Int) : Blk (w.setCell ⟨b, k, none⟩ (.int .i64 z)) b T (rs.set k z) := by
  unfold Blk
  rw [heap_setCell h, arrI_set]
theorem Blk.range {w : World} {b : Nat} {T : TypeId} {rs : List Int} (h : Blk w b T rs) : w.rangeAt b 0 (rs.map (Value.int .i64)) := fun j v hv => by
  rw [Nat.zero_add, cell_of_heap h]
  simpa [arrI] using hv
theorem Blk.there {w : World} {b : Nat} {T : TypeId} {rs : List Int} (h : Blk w b T rs) : w.there b 0 rs.length := fun j hj => by
  rw [Nat.zero_add]
  exact ⟨by rw [h.cell j hj]; rfl, h.free j⟩
theorem load_arr {w : World} {b : Nat} {T : TypeId} {rs : List Int} (h : Blk w b T rs) (d : TypeDesc) (hu : Tryd.prog.underlying T = some d) (hd : d.isRow = true) (hi : (Tryd.prog.info? T).map (·.size) = some rs.length) :
    Sem.run Tryd.prog (Instr.loadAt T (.pointer (some ⟨b, 0, none⟩))) w = .ok (.agg (arrI rs)) w :=
  run_loadAt_mid w b 0 T (rs.map (Value.int .i64)) d h.range hu hd (by simpa using hi)
theorem loadVar_arr {w : World} {b : Nat} {T : TypeId} {rs : List Int} (h : Blk w b T rs) (d : TypeDesc) (hu : Tryd.prog.underlying T = some d) (hd : d.isRow = true) (hi : (Tryd.prog.info? T).map (·.size) = some rs.length) :
    Sem.run Tryd.prog (loadVar T ⟨b, 0, none⟩) w = .ok (.agg (arrI rs)) w :=
  run_loadVar_mid w b 0 T (rs.map (Value.int .i64)) d h.range hu hd (by simpa using hi)
def putArr (w : World) (b : Nat) (rs : List Int) : World := w.setCells b 0 (rs.map (Value.int .i64))
theorem ones_arrI (rs : List Int) : (arrI rs).all (·.oneCell') = true := by
  apply all_oneCell_toArray
  intro v hv
  obtain ⟨x, _, rfl⟩ := List.mem_map.1 hv
  rfl
theorem store_arr {w : World} {b : Nat} {T : TypeId} {rs rs' : List Int} (h : Blk w b T rs) (hl : rs'.length = rs.length) (hi : (Tryd.prog.info? T).map (·.size) = some rs.length) :
    Sem.run Tryd.prog (Instr.storeAt T (.pointer (some ⟨b, 0, none⟩)) (.agg (arrI rs'))) w = .ok () (putArr w b rs') := by
  have := run_storeAt_mid (P := Tryd.prog) w b 0 T (arrI rs') (by rw [show (arrI rs').size = rs.length by simp [arrI, hl]]; exact h.there) (by simpa [arrI, hl] using hi) (ones_arrI rs')
  simpa [putArr, arrI] using this
theorem heap_setCells (b : Nat) (T : TypeId) : ∀ (vs : List Value) (o : Nat) (w : World) (cs : Array Value), w.heap[b]? = some (.cells cs T (0, 0)) → o + vs.length ≤ cs.size →
    ∃ cs', (w.setCells b o vs).heap[b]? = some (.cells cs' T (0, 0)) ∧ cs'.size = cs.size ∧ (∀ i, i < o → cs'[i]? = cs[i]?) ∧ (∀ i, i < vs.length → cs'[o + i]? = vs[i]?) ∧ w.grownBy (w.setCells b o vs) (some b)
  | [], o, w, cs, h, _ => ⟨cs, h, rfl, fun _ _ => rfl, fun i hi => by simp at hi, grown_refl w _⟩
  | v :: vs, o, w, cs, h, hl => by
    simp only [List.length_cons] at hl
    have h1 := heap_setCell (k := o) h v
    obtain ⟨cs', c1, c2, c3, c4, c5⟩ := heap_setCells b T vs (o + 1) (w.setCell ⟨b, o, none⟩ v) (cs.setIfInBounds o v) h1 (by simp; omega)
    refine ⟨cs', c1, by simpa using c2, fun i hi => ?_, fun i hi => ?_, grown_trans (grown_setCell w ⟨b, o, none⟩ v) c5 (some b) (fun i e _ => e) (fun i e _ => e)⟩
    · rw [c3 i (by omega)]
      simp [Array.getElem?_setIfInBounds, show ¬ o = i by omega]
    · match i, hi with
      | 0, _ =>
        rw [Nat.add_zero, c3 o (by omega)]
        simp [Array.getElem?_setIfInBounds, show o < cs.size by omega]
      | i + 1, hi =>
        have := c4 i (by simp at hi; omega)
        rw [show o + (i + 1) = o + 1 + i by omega, this]
        simp
theorem put_arr {w : World} {b : Nat} {T : TypeId} {rs rs' : List Int} (h : Blk w b T rs) (hl : rs'.length = rs.length) : Blk (putArr w b rs') b T rs' ∧ w.grownBy (putArr w b rs') (some b) := by
  obtain ⟨cs', c1, c2, _, c4, c5⟩ := heap_setCells b T (rs'.map (Value.int .i64)) 0 w (arrI rs) h (by simp [arrI, hl])
  refine ⟨?_, c5⟩
  unfold Blk putArr
  rw [c1]
  have : cs' = arrI rs' := by
    apply Array.ext_getElem?
    intro i
    by_cases hi : i < rs'.length
    · have := c4 i (by simpa using hi)
      rw [Nat.zero_add] at this
      rw [this]; simp [arrI]
    · rw [Array.getElem?_eq_none (by rw [c2]; simp [arrI]; omega), Array.getElem?_eq_none (by simp [arrI]; omega)]
  rw [this]
theorem wpList_load_arr {ops : Array Oper} {rest : List Oper} {op : Oper} {a : Act} {w : World} {Q : Exit → Act → World → Prop} (hgd : op.guard = none) (T : TypeId) (x : Operand) (ho : op.op = .load T x)
    (b : Nat) (hx : a.eval x = .pointer (some ⟨b, 0, none⟩)) (rs : List Int) (h : Blk w b T rs) (d : TypeDesc) (hu : Tryd.prog.underlying T = some d) (hd : d.isRow = true) (hi : (Tryd.prog.info? T).map (·.size) = some rs.length)
    (k : wpList Tryd.prog ops Q rest (a.put op.dst (.agg (arrI rs))) w) : wpList Tryd.prog ops Q (op :: rest) a w :=
  wpList_load_mid hgd T x ho b 0 hx (rs.map (Value.int .i64)) d h.range hu hd (by simpa using hi) k
theorem wpList_store_arr {ops : Array Oper} {rest : List Oper} {op : Oper} {a : Act} {w : World} {Q : Exit → Act → World → Prop} (hgd : op.guard = none) (T : TypeId) (x y : Operand) (ho : op.op = .store T x y)
    (b : Nat) (rs rs' : List Int) (hx : a.eval x = .pointer (some ⟨b, 0, none⟩)) (hy : a.eval y = .agg (arrI rs')) (h : Blk w b T rs) (hl : rs'.length = rs.length) (hi : (Tryd.prog.info? T).map (·.size) = some rs.length)
    (k : wpList Tryd.prog ops Q rest (a.put op.dst undef) (putArr w b rs')) : wpList Tryd.prog ops Q (op :: rest) a w :=
  wpList_store_mid hgd T x y ho b 0 (arrI rs') hx hy (by rw [show (arrI rs').size = rs.length by simp [arrI, hl]]; exact h.there) (by simpa [arrI, hl] using hi) (ones_arrI rs') (by simpa [putArr, arrI] using k)
def zeros (n : Nat) : List Int := List.replicate n 0
theorem zeros_len (n : Nat) : (zeros n).length = n := by simp [zeros]
theorem zeros_nth (n i : Nat) : nth (zeros n) i = 0 := by simp [zeros, nth, List.getD, List.getElem?_replicate]; split <;> rfl
theorem zero_arr {T : TypeId} {n : Nat} (hz : (Tryd.prog.info? T).bind (·.zero) = some (.agg (arrI (zeros n)))) (w : World) : Sem.run Tryd.prog (zeroValue T) w = .ok (.agg (arrI (zeros n))) w := by
  cases hq : Tryd.prog.info? T with
  | none => simp [hq] at hz
  | some i =>
    have hi : i.zero = some (.agg (arrI (zeros n))) := by simpa [hq] using hz
    simp [zeroValue, typeInfo, hq, hi]
theorem index_arr {T : TypeId} {n : Nat} (rs : List Int) (hu : Tryd.prog.underlying T = some (.array n 3)) (k : Nat) (hk : k < rs.length) (hn : rs.length = n) (w : World) : Sem.run Tryd.prog (Instr.index T (.agg (arrI rs)) (.int .i64 k)) w = .ok (.int .i64 (nth rs k)) w := by
  have hg := arrI_get rs k hk
  have hb : (0 : Int) ≤ k ∧ (k : Int) < n := by omega
  obtain ⟨i0, hi, hz0, hz1, hz2⟩ := info_parts infoI64
  simp [Instr.index, run_underlying hu, asIntOf, hb, go_sem, sizeOf, typeInfo, hi, hz1, part, isAgg, run_underlying Tryd.underlying3, hg]
  intro h; omega
theorem part_int (rs : List Int) (k : Nat) (hk : k < rs.length) (w : World) : Sem.run Tryd.prog (part 3 (arrI rs) k) w = .ok (.int .i64 (nth rs k)) w := by
  have hg := arrI_get rs k hk
  simp [part, isAgg, run_underlying Tryd.underlying3, hg]
/-- An array of ints is itself. -/
theorem eq_arr {T : TypeId} {n : Nat} (rs : List Int) (hu : Tryd.prog.underlying T = some (.array n 3)) (hn : rs.length = n) (d : Nat) (w : World) : Sem.run Tryd.prog (Op.equalIn (d + 1 + 1) T (.agg (arrI rs)) (.agg (arrI rs))) w = .ok true w := by
  obtain ⟨i0, hi, hz0, hz1, hz2⟩ := info_parts infoI64
  have hE : ∀ a u, Sem.run Tryd.prog (Op.equalIn (d + 1) 3 (.int .i64 a) (.int .i64 a)) u = .ok true u := fun a u => by
    rw [run_equalIn_int u d 3 .i64 .i64 a a Tryd.underlying3]; simp
  have hL : ∀ L : List Nat, (∀ i ∈ L, i < n) → ∀ u, Sem.run Tryd.prog (forIn (m := Sem) L ((none : Option Bool), PUnit.unit) fun i _ => do
      if (!(← Op.equalIn (d + 1) 3 (← part 3 (arrI rs) (i * 1)) (← part 3 (arrI rs) (i * 1)))) = true then pure (ForInStep.done (some false, PUnit.unit)) else pure (ForInStep.yield (none, PUnit.unit))) u = .ok (none, PUnit.unit) u := by
    intro L
    induction L with
    | nil => intro _ u; simp
    | cons i L ih =>
      intro h u
      have hp := part_int rs i (by have := h i (List.mem_cons_self ..); omega)
      simp only [List.forIn_cons, Sem.run_bind, Nat.mul_one, hp, Result.andThen_ok, hE, Bool.not_true, Bool.false_eq_true, if_false, Sem.run_pure]
      exact (by simpa using ih (fun j hj => h j (List.mem_cons_of_mem _ hj)) u)
  rw [Op.equalIn]
  simp only [Sem.run_bind, run_underlying hu, Result.andThen_ok, sizeOf, typeInfo, run_program, hi, Sem.run_pure, hz1]
  rw [Std.Legacy.Range.forIn_eq_forIn_range']
  have := hL (List.range' [:n].start [:n].size [:n].step) (fun i hi => by simp [Std.Legacy.Range.size] at hi; omega) w
  rw [this]
  rfl
theorem make_zeros (n : Nat) (h1 : n ≤ 35184372088832) (u : World) :
    (Instr.makeSlice 48 (.int .i64 n) (.int .i64 n)).run Tryd.prog u = .ok (.slice (some ⟨u.heap.size, 0, none⟩) n n) (u.alloc (.cells (arrI (zeros n)) 3)) := by
  have := make_int n (by omega) (by omega) u
  simpa [zeros] using this
theorem Ints_zeros (w : World) (n : Nat) : Ints (w.alloc (.cells (arrI (zeros n)) 3)) (.slice (some ⟨w.heap.size, 0, none⟩) n n) (zeros n) := by
  refine ⟨some ⟨w.heap.size, 0, none⟩, n, by rw [zeros_len], by rw [zeros_len]; exact Nat.le_refl _, fun _ => ⟨_, rfl, fun i hi => ?_⟩⟩
  rw [Addr.add_mid, Nat.zero_add]
  exact (Blk.new w 3 (zeros n)).cell i hi
/-- An array variable that a call's answer is stored into. -/
theorem fresh_arr (w : World) (T : TypeId) (n : Nat) (L : List Int) (hL : L.length = n) : Blk (w.alloc (.cells (arrI (zeros n)) T)) w.heap.size T (zeros n) ∧ Blk (putArr (w.alloc (.cells (arrI (zeros n)) T)) w.heap.size L) w.heap.size T L ∧ w.grownBy (putArr (w.alloc (.cells (arrI (zeros n)) T)) w.heap.size L) none := by
  have hB := Blk.new w T (zeros n)
  have PU := put_arr (rs' := L) hB (by rw [hL, zeros_len])
  exact ⟨hB, PU.1, grown_own (grown_alloc _ _ none) PU.2 (Nat.le_refl _)⟩
/-- The same under a guard that says yes. -/
theorem wpList_load_arrG {ops : Array Oper} {rest : List Oper} {op : Oper} {a : Act} {w : World} {Q : Exit → Act → World → Prop} (hgd : Region.wanted op (yielded ops a.tmps) = true) (T : TypeId) (x : Operand) (ho : op.op = .load T x)
    (b : Nat) (hx : a.eval x = .pointer (some ⟨b, 0, none⟩)) (rs : List Int) (h : Blk w b T rs) (d : TypeDesc) (hu : Tryd.prog.underlying T = some d) (hd : d.isRow = true) (hi : (Tryd.prog.info? T).map (·.size) = some rs.length)
    (k : wpList Tryd.prog ops Q rest (a.put op.dst (.agg (arrI rs))) w) : wpList Tryd.prog ops Q (op :: rest) a w := by
  refine wpList_step fun K hK => ?_
  rw [if_pos hgd]
  exact wp_load_mid T x ho b 0 hx (rs.map (Value.int .i64)) d h.range hu hd (by simpa using hi) (hK _ _ k)
end Go.Proofs.YtjgdkinnpgiabaaDoor
