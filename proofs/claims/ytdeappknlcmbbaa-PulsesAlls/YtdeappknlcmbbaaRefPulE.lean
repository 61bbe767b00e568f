/- Lists of arrays of four that the call made; contracts of the reference's All and Few. -/
import Derived.Test.YtdeappknlcmbbaaRefPulD
import Derived.Laws.OwnMore
import Derived.BigQuiet
import Derived.Deep.QuietTactic
namespace Go.Proofs.Ytdeappknlcmbbaa
open Go.RowKit
set_option linter.unusedVariables false
set_option linter.unusedSimpArgs false
set_option maxHeartbeats 1000000

def flat4 (ix : Nat → List Int) : Nat → List Value
  | 0 => []
  | n + 1 => flat4 ix n ++ (ix n).map (Value.int .i64)
theorem flat4_len (ix : Nat → List Int) : ∀ n, (∀ i, i < n → (ix i).length = 4) → (flat4 ix n).length = n * 4
  | 0, _ => rfl
  | n + 1, h => by
    show (flat4 ix n ++ (ix n).map (Value.int .i64)).length = _
    rw [List.length_append, flat4_len ix n (fun i hi => h i (by omega)), List.length_map, h n (by omega)]
    omega
theorem flat4_get (ix : Nat → List Int) : ∀ n, (∀ i, i < n → (ix i).length = 4) → ∀ i j, i < n → j < 4 → (flat4 ix n)[i * 4 + j]? = some (.int .i64 (nth (ix i) j))
  | 0, _, i, j, hi, _ => by omega
  | n + 1, h, i, j, hi, hj => by
    show (flat4 ix n ++ (ix n).map (Value.int .i64))[i * 4 + j]? = _
    have hl := flat4_len ix n (fun i hi => h i (by omega))
    by_cases e : i = n
    · subst e
      rw [List.getElem?_append_right (by omega), hl, show i * 4 + j - i * 4 = j by omega]
      have := h i (by omega)
      simp [nth, List.getD, this, hj]
    · rw [List.getElem?_append_left (by omega)]
      exact flat4_get ix n (fun i hi => h i (by omega)) i j (by omega) hj
theorem flat4_congr (ix jx : Nat → List Int) : ∀ n, (∀ i, i < n → ix i = jx i) → flat4 ix n = flat4 jx n
  | 0, _ => rfl
  | n + 1, h => by
    show flat4 ix n ++ _ = flat4 jx n ++ _
    rw [flat4_congr ix jx n (fun i hi => h i (by omega)), h n (by omega)]
/-- A list of arrays of four that the call made. -/
def Own4 (base : Nat) (w : World) (v : Value) (n : Nat) (ix : Nat → List Int) : Prop := w.ownsRow base 22 4 v n (flat4 ix n)
theorem Own4_nil (base : Nat) (w : World) (ix : Nat → List Int) : Own4 base w (.slice none 0 0) 0 ix := World.ownsRow_nil _ _ _ _
theorem Own4.keep {base : Nat} {w w' : World} {v : Value} {n : Nat} {ix : Nat → List Int} (h : Own4 base w v n ix) (g : w.grownBy w' none) : Own4 base w' v n ix := World.ownsRow.kept h g (by rcases v.ownBlock with _ | b <;> simp)
theorem Own4.keepLt {base : Nat} {w w' : World} {v : Value} {n : Nat} {ix : Nat → List Int} {b : Nat} (h : Own4 base w v n ix) (g : w.grownBy w' (some b)) (hb : b < base) : Own4 base w' v n ix := by
  refine World.ownsRow.kept h g ?_
  rcases e : v.ownBlock with _ | c
  · exact .inl rfl
  · right
    intro e'
    have := (World.ownsRow.lt h c e).1
    cases e'
    omega
theorem Own4.arr {base : Nat} {w : World} {v : Value} {n : Nat} {ix : Nat → List Int} (h : Own4 base w v n ix) (hn : 0 < n) (hix : ∀ i, i < n → (ix i).length = 4) : Arr4 w v n ix := by
  obtain ⟨k1, k2⟩ := id h
  rcases k2 with ⟨_, h0⟩ | ⟨g, cap, cur, hv, hb, hg, _⟩
  · omega
  · subst hv
    refine ⟨g, cap, rfl, fun i hi j u hu => ?_⟩
    have hj : j < 4 := by
      by_cases hj : j < 4
      · exact hj
      · rw [List.getElem?_eq_none (by rw [List.length_map, hix i hi]; omega)] at hu; cases hu
    rw [World.ownsRow.cellAt h (i * 4 + j) (by omega), flat4_get ix n hix i j hi hj, ← hu]
    simp [nth, List.getD, hix i hi, hj]
theorem info4 : (Try.prog.info? 22).map (fun i => (i.zero, i.size, i.bytes)) = some (some (.agg (arrI (zeros 4))), 4, 32) := by kernel_rfl
theorem list4r (x : List Int) (hx : x.length = 4) : ∃ a b c d, x = [a, b, c, d] := by
  match x, hx with
  | [a, b, c, d], _ => exact ⟨a, b, c, d, rfl⟩
theorem built4 (x : List Int) (hx : x.length = 4) (u : World) : Sem.run Try.prog (Instr.buildSlice 62 1 #[(0, .agg (arrI x))]) u = .ok (.slice (some ⟨u.heap.size, 0, none⟩) 1 1) (u.alloc (.cells (arrI x) 22)) := by
  obtain ⟨a, b, c, d, rfl⟩ := list4r x hx
  kernel_rfl
theorem wpList_lit4 {ops : Array Oper} {rest : List Oper} {op : Oper} {a : Act} {w : World} {Q : Exit → Act → World → Prop} (hgd : op.guard = none) (y : Operand) (ho : op.op = .buildSlice 62 1 #[(0, y)]) (x : List Int) (hx : x.length = 4) (hy : a.eval y = .agg (arrI x))
    (k : wpList Try.prog ops Q rest (a.put op.dst (.slice (some ⟨w.heap.size, 0, none⟩) 1 1)) (w.alloc (.cells (arrI x) 22))) : wpList Try.prog ops Q (op :: rest) a w := by
  refine wpList_plain hgd fun _ hK => ?_
  unfold Oper.wp execOp
  have e : (#[(0, y)] : Array (Nat × Operand)).map (fun (i, x) => (i, a.eval x)) = #[(0, .agg (arrI x))] := by simp [hy]
  simp only [ho, e, Sem.run_bind, built4 x hx, Result.andThen_ok, Sem.run_pure]
  exact hK _ _ k
/-- 'append(a, x)', a of the call's own. -/
theorem wpList_app4 {ops : Array Oper} {rest : List Oper} {o : Oper} {a : Act} {w : World} {Q : Exit → Act → World → Prop} (hgd : o.guard = none) (s y : Operand)
    (hop : o.op = Op.call { callee := Callee.builtin Builtin.append, args := #[s, y], argTypes := #[62, 62] }) (base n b : Nat) (va : Value) (ix : Nat → List Int) (x : List Int) (hs : a.eval s = va) (hy : a.eval y = .slice (some ⟨b, 0, none⟩) 1 1) (ha : Own4 base w va n ix) (hb : Blk w b 22 x) (hx : x.length = 4) (he : ix n = x)
    (hn : n ≤ 100000) (hbase : base ≤ w.heap.size)
    (h : ∀ v' w', Own4 base w' v' (n + 1) ix → w.grownBy w' va.ownBlock → wpList Try.prog ops Q rest (a.put o.dst v') w') : wpList Try.prog ops Q (o :: rest) a w := by
  obtain ⟨i0, hi, hz0, hz1, hz2⟩ := info_parts info4
  refine wpList_append_own (P := Try.prog) (w := w) hgd s y 62 hop base 22 i0 (.agg (arrI (zeros 4))) 4 32 (by kernel_rfl) hi hz0 hz1 hz2 rfl (by decide) va n (flat4 ix n) hs ha ⟨b, 0, none⟩ 1 1 (x.map (Value.int .i64)) hy (by simp [hx]) (fun j u hu => ?_) (fun u hu => ?_) (by unfold maxLen; omega) (by omega) hbase (fun v' w' h2 h3 _ => h v' w' ?_ h3)
  · have hj : j < x.length := by
      by_cases hj : j < x.length
      · exact hj
      · rw [List.getElem?_eq_none (by simp; omega)] at hu; cases hu
    rw [Addr.add_mid, Nat.zero_add, hb.cell j hj]
    simpa [nth, List.getD, hj] using hu
  · obtain ⟨z, _, rfl⟩ := List.mem_map.1 hu
    rfl
  · unfold Own4
    show w'.ownsRow base 22 4 v' (n + 1) (flat4 ix n ++ (ix n).map (Value.int .i64))
    rw [he]
    exact h2
end Go.Proofs.Ytdeappknlcmbbaa
