/- A packet is itself; a list of bytes as a string. -/
import Derived.Test.YtjgdkinnpgiabaaDoorBytL
import Derived.Laws.StructEq
import Derived.Laws.BytesArg
namespace Go.Proofs.YtjgdkinnpgiabaaDoor
open Go.RowKit
set_option linter.unusedVariables false
set_option linter.unusedSimpArgs false
set_option maxHeartbeats 4000000

theorem arrI_ext (R : List Int) (a b : Nat) : (arrI R).extract a b = arrI ((R.take b).drop a) := by
  unfold arrI
  rw [List.extract_toArray]
  congr 1
  simp [List.extract_eq_take_drop, List.map_drop, List.map_take]
  try (rw [List.drop_take])
theorem part_arr {T : TypeId} {d : TypeDesc} {s : Nat} (hu : Tryd.prog.underlying T = some d) (hd : (match d with | .struct _ | .array _ _ => true | _ => false) = true) (hs : (Tryd.prog.info? T).map (·.size) = some s) (R : List Int) (k : Nat) (w : World) :
    Sem.run Tryd.prog (part T (arrI R) k) w = .ok (.agg (arrI ((R.take (k + s)).drop k))) w := by
  obtain ⟨i0, hi, hz1⟩ : ∃ i0, Tryd.prog.info? T = some i0 ∧ i0.size = s := by
    cases hq : Tryd.prog.info? T with
    | none => rw [hq] at hs; cases hs
    | some i => exact ⟨i, rfl, by rw [hq] at hs; simpa using hs⟩
  rw [← arrI_ext]
  cases d <;> simp_all [part, isAgg, run_underlying hu, sizeOf, typeInfo, go_sem]
/-- An array is itself where its elements are. -/
theorem eq_arrOf {T E : TypeId} {n s : Nat} (R : List Int) (hu : Tryd.prog.underlying T = some (.array n E)) (hs : (Tryd.prog.info? E).map (·.size) = some s) (d : Nat) (v : Nat → Value)
    (hp : ∀ i, i < n → ∀ w, Sem.run Tryd.prog (part E (arrI R) (i * s)) w = .ok (v i) w) (he : ∀ i, i < n → ∀ w, Sem.run Tryd.prog (Op.equalIn (d + 1) E (v i) (v i)) w = .ok true w) (w : World) :
    Sem.run Tryd.prog (Op.equalIn (d + 1 + 1) T (.agg (arrI R)) (.agg (arrI R))) w = .ok true w := by
  obtain ⟨i0, hi, hz1⟩ : ∃ i0, Tryd.prog.info? E = some i0 ∧ i0.size = s := by
    cases hq : Tryd.prog.info? E with
    | none => rw [hq] at hs; cases hs
    | some i => exact ⟨i, rfl, by rw [hq] at hs; simpa using hs⟩
  have hL : ∀ L : List Nat, (∀ i ∈ L, i < n) → ∀ u, Sem.run Tryd.prog (forIn (m := Sem) L ((none : Option Bool), PUnit.unit) fun i _ => do
      if (!(← Op.equalIn (d + 1) E (← part E (arrI R) (i * s)) (← part E (arrI R) (i * s)))) = true then pure (ForInStep.done (some false, PUnit.unit)) else pure (ForInStep.yield (none, PUnit.unit))) u = .ok (none, PUnit.unit) u := by
    intro L
    induction L with
    | nil => intro _ u; simp
    | cons i L ih =>
      intro h u
      have h1 := hp i (h i (List.mem_cons_self ..))
      have h2 := he i (h i (List.mem_cons_self ..))
      simp only [List.forIn_cons, Sem.run_bind, h1, Result.andThen_ok, h2, Bool.not_true, Bool.false_eq_true, if_false, Sem.run_pure]
      exact ih (fun j hj => h j (List.mem_cons_of_mem _ hj)) u
  rw [Op.equalIn]
  simp only [Sem.run_bind, run_underlying hu, Result.andThen_ok, sizeOf, typeInfo, run_program, hi, Sem.run_pure, hz1]
  rw [Std.Legacy.Range.forIn_eq_forIn_range']
  have := hL (List.range' [:n].start [:n].size [:n].step) (fun i hi => by simp [Std.Legacy.Range.size] at hi; omega) w
  rw [this]
  rfl
theorem eq_int (d : Nat) (a : Int) (w : World) : Sem.run Tryd.prog (Op.equalIn (d + 1) 3 (.int .i64 a) (.int .i64 a)) w = .ok true w := by
  rw [run_equalIn_int w d 3 .i64 .i64 a a Tryd.underlying3]; simp
theorem p8 : (Tryd.prog.info? 25).map (·.size) = some 8 := by kernel_rfl
theorem p4 : (Tryd.prog.info? 23).map (·.size) = some 4 := by kernel_rfl
theorem p8r : (Tryd.prog.info? 22).map (·.size) = some 8 := by kernel_rfl
theorem p16 : (Tryd.prog.info? 26).map (·.size) = some 16 := by kernel_rfl
theorem eq_sub (d : Nat) (m : List Int) (hm : m.length = 8) (w : World) : Sem.run Tryd.prog (Op.equalIn (d + 1 + 1 + 1) 25 (.agg (arrI m)) (.agg (arrI m))) w = .ok true w := by
  have q0 := part_int m 0 (by omega) w
  have q1 := part_int m 1 (by omega) w
  have q2 := part_arr Tryd.underlying23 rfl p4 m 2 w
  have q6 := part_int m 6 (by omega) w
  have q7 := part_int m 7 (by omega) w
  have e2 := eq_arr ((m.take (2 + 4)).drop 2) Tryd.underlying23 (by simp; omega) d w
  have ei := fun a => eq_int (d + 1) a w
  rw [run_equalIn_struct w (d + 1 + 1) 25 _ _ (by kernel_rfl) (by kernel_rfl)]
  simp [Program.fieldsOf, Tryd.underlying25, Op.eqFields, q0, q1, q2, q6, q7, e2, ei]
theorem eq_subs (d : Nat) (m : List Int) (hm : m.length = 16) (w : World) : Sem.run Tryd.prog (Op.equalIn (d + 1 + 1 + 1 + 1) 26 (.agg (arrI m)) (.agg (arrI m))) w = .ok true w :=
  eq_arrOf m Tryd.underlying26 p8 (d + 1 + 1) (fun i => .agg (arrI ((m.take (i * 8 + 8)).drop (i * 8)))) (fun i _ w => part_arr Tryd.underlying25 rfl p8 m (i * 8) w) (fun i hi w => eq_sub d _ (by simp; omega) w) w
/-- A packet is itself. -/
theorem eq_pkt (l : List Int) (hl : l.length = 25) (w : World) : Sem.run Tryd.prog (Op.equalIn 10000 28 (.agg (arrI l)) (.agg (arrI l))) w = .ok true w := by
  have q0 := part_int l 0 (by omega) w
  have q1 := part_arr Tryd.underlying22 rfl p8r l 1 w
  have q9 := part_arr Tryd.underlying26 rfl p16 l 9 w
  have e1 := eq_arr ((l.take (1 + 8)).drop 1) Tryd.underlying22 (by simp; omega) 9997 w
  have e9 := eq_subs 9995 ((l.take (9 + 16)).drop 9) (by simp; omega) w
  have ei := fun a => eq_int 9998 a w
  generalize (l.take (1 + 8)).drop 1 = R1 at *
  generalize (l.take (9 + 16)).drop 9 = R9 at *
  rw [show (10000 : Nat) = 9999 + 1 from rfl, run_equalIn_struct w 9999 28 _ _ (by kernel_rfl) (by kernel_rfl)]
  simp [Program.fieldsOf, Tryd.underlying28, Op.eqFields, q0, q1, q9, e1, e9, ei]
theorem guard_pkt (x y : Operand) (l m : List Int) (w : World) : Sem.run Tryd.prog (eqGuard .eql 28 x y (.agg (arrI l)) (.agg (arrI m))) w = .ok () w := by
  exact run_eqGuard_agg w .eql 28 x y _ _ (by kernel_rfl)
theorem bin_pkt (l : List Int) (hl : l.length = 25) (w : World) : Sem.run Tryd.prog (binOp .eql 28 (.agg (arrI l)) (.agg (arrI l))) w = .ok (.bool true) w := by
  have h := eq_pkt l hl w
  rw [run_eql_struct, h]
  rfl
theorem wpList_eq_pkt {ops : Array Oper} {rest : List Oper} {o : Oper} {a : Act} {w : World} {Q : Exit → Act → World → Prop} (hgd : Region.wanted o (yielded ops a.tmps) = true) (x y : Operand) (ho : o.op = .binOp .eql 28 x y 28)
    (l : List Int) (hl : l.length = 25) (hx : a.eval x = .agg (arrI l)) (hy : a.eval y = .agg (arrI l)) (k : wpList Tryd.prog ops Q rest (a.put o.dst (.bool true)) w) : wpList Tryd.prog ops Q (o :: rest) a w := by
  refine wpList_step fun K hK => ?_
  rw [if_pos hgd]
  have h1 := guard_pkt x y l l w
  have h2 := bin_pkt l hl w
  unfold Oper.wp
  simp only [execOp, ho, hx, hy, Sem.run_bind, h1, Result.andThen_ok, h2]
  exact hK _ _ k
/-- Bytes as a string. -/
theorem conv_byts {w : World} {v : Value} {b : List Int} (h : Byts w v b) (hv : v = .slice none 0 0 ∨ ∃ a n c, v = .slice (some a) n c) : Sem.run Tryd.prog (convert 31 9 v) w = .ok (.string (strOfNums b)) w := by
  obtain ⟨ad, c, rfl, hc, hcell⟩ := h
  rcases hv with e | ⟨a, n, c', e⟩
  · simp only [Value.slice.injEq] at e
    obtain ⟨rfl, e2, rfl⟩ := e
    rw [run_convert_bytes_nil w 31 5 Tryd.underlying31 Tryd.underlying5 _ _ 9 Tryd.underlying9, List.length_eq_zero_iff.1 e2]
    rfl
  · simp only [Value.slice.injEq] at e
    obtain ⟨rfl, rfl, rfl⟩ := e
    have hl : (loadCells a b.length).run Tryd.prog w = .ok (b.map (Value.int .u8)).toArray w := by
      have := run_loadCells_list (P := Tryd.prog) w a (b.map (Value.int .u8)) (fun j v hj => by
        have hjl : j < b.length := by
          rcases Nat.lt_or_ge j b.length with h | h
          · exact h
          · simp [List.getElem?_eq_none (show (b.map (Value.int .u8)).length ≤ j by simpa using h)] at hj
        obtain ⟨a', ea, h3⟩ := hcell (by omega)
        cases ea
        rw [h3 j hjl]
        simpa [nth, List.getD, hjl] using hj)
      simpa using this
    rw [run_convert_bytes_string w 31 9 5 _ b.length c Tryd.underlying31 Tryd.underlying5 Tryd.underlying9, run_bytesToString w _ b.length c b hl, foldl_push_bytes]
    simp [strOfNums, ByteArray.empty, ByteArray.emptyWithCapacity]
    rfl
end Go.Proofs.YtjgdkinnpgiabaaDoor
