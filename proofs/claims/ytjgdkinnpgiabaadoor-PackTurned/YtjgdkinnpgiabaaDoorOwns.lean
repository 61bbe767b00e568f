/- Lists of the call's own; slices of lists; append. -/
import Derived.Test.YtjgdkinnpgiabaaDoorArrs
import Derived.Laws.AppendOwnNone
import Derived.Laws.OwnMore
namespace Go.Proofs.YtjgdkinnpgiabaaDoor
open Go.RowKit
set_option linter.unusedVariables false
set_option linter.unusedSimpArgs false
set_option maxHeartbeats 1000000

/-- A list that the call made lies in no block below base. -/
def Own (base : Nat) (w : World) (v : Value) (l : List Int) : Prop := w.ownsRow base 3 1 v l.length (l.map (Value.int .i64))
theorem Own.ints {base : Nat} {w : World} {v : Value} {l : List Int} (h : Own base w v l) : Ints w v l := Ints_of_owns h
theorem Own.keep {base : Nat} {w w' : World} {v : Value} {l : List Int} (h : Own base w v l) (g : w.grownBy w' none) : Own base w' v l :=
  h.kept g (by rcases v.ownBlock with _ | b <;> simp)
/-- Another type's block is another block. -/
theorem Own.keepBut {base : Nat} {w w' : World} {v : Value} {l : List Int} {b : Nat} {cs : Array Value} {t : TypeId} {f : Nat × Nat} (h : Own base w v l) (g : w.grownBy w' (some b)) (hb : w.heap[b]? = some (.cells cs t f)) (ht : t ≠ 3) : Own base w' v l := by
  refine h.kept g ?_
  rcases h.2 with ⟨rfl, _⟩ | ⟨g', cap, cur, rfl, _, hg, _⟩
  · exact .inl rfl
  · right
    intro e
    simp [Value.ownBlock] at e
    subst e
    rw [hg] at hb
    simp at hb
    exact ht hb.2.1.symm
theorem Own.base {b b' : Nat} {w : World} {v : Value} {l : List Int} (h : Own b w v l) (hb : b' ≤ b) : Own b' w v l := by
  refine ⟨h.1, ?_⟩
  rcases h.2 with h | ⟨g, cap, cur, e, h1, h2⟩
  · exact .inl h
  · exact .inr ⟨g, cap, cur, e, by omega, h2⟩
theorem Own_nil (b : Nat) (w : World) : Own b w (.slice none 0 0) [] := World.ownsRow_nil _ _ _ _
def Shp (v : Value) (l : List Int) : Prop := v = .slice none 0 0 ∨ ∃ a c, v = .slice (some a) l.length c
theorem ints_some {W : World} {a : Addr} {n c : Nat} {l : List Int} (h : Ints W (.slice (some a) n c) l) : n = l.length ∧ n ≤ c ∧ ∀ i, i < l.length → W.cell? (a.add i) = some (.int .i64 (nth l i)) := by
  obtain ⟨ad, c', e, h1, h2⟩ := h
  simp only [Value.slice.injEq] at e
  obtain ⟨rfl, rfl, rfl⟩ := e
  refine ⟨rfl, h1, fun i hi => ?_⟩
  obtain ⟨a', e', h3⟩ := h2 (by omega)
  cases e'
  exact h3 i hi
theorem ints_none {W : World} {l : List Int} (h : Ints W (.slice none 0 0) l) : l = [] := by
  obtain ⟨ad, c, e, _, _⟩ := h
  simp only [Value.slice.injEq] at e
  exact List.length_eq_zero_iff.1 e.2.1.symm
theorem Ints_nil (W : World) : Ints W (.slice none 0 0) [] := ⟨none, 0, rfl, Nat.le_refl _, fun h => by simp at h⟩
theorem slice_h {W : World} {v : Value} {l : List Int} (h : Ints W v l) (hsh : Shp v l) (k : Nat) (hk : k ≤ l.length) :
    ∃ vA, (∀ u, Sem.run Tryd.prog (Instr.slice 48 v none (some (.int .i64 k)) none) u = .ok vA u) ∧ Ints W vA (l.take k) ∧ Shp vA (l.take k) := by
  obtain ⟨i0, hi, hz0, hz1, hz2⟩ := info_parts infoI64
  rcases hsh with rfl | ⟨a, c, rfl⟩
  · obtain rfl := ints_none h
    obtain rfl : k = 0 := by simpa using hk
    exact ⟨.slice none 0 0, fun u => by simp [go_sem, sliced], Ints_nil W, .inl rfl⟩
  · obtain ⟨_, hc, hcell⟩ := ints_some h
    have e : (l.take k).length = k := by simp; omega
    refine ⟨.slice (some a) k c, fun u => ?_, ⟨some a, c, by rw [e], by rw [e]; omega, fun _ => ⟨a, rfl, fun i hi' => ?_⟩⟩, .inr ⟨a, c, by rw [e]⟩⟩
    · rw [run_slice_h (P := Tryd.prog) u 48 (some a) l.length c (by kernel_rfl) .i64 k (by omega) (by omega)]
      simp [go_sem, sliced]
    · rw [e] at hi'
      rw [hcell i (by omega)]
      simp [nth, List.getD, List.getElem?_take, hi']
theorem slice_l {W : World} {v : Value} {l : List Int} (h : Ints W v l) (hsh : Shp v l) (k : Nat) (hk : k ≤ l.length) :
    ∃ vB, (∀ u, Sem.run Tryd.prog (Instr.slice 48 v (some (.int .i64 k)) none none) u = .ok vB u) ∧ Ints W vB (l.drop k) ∧ Shp vB (l.drop k) := by
  rcases hsh with rfl | ⟨a, c, rfl⟩
  · obtain rfl := ints_none h
    obtain rfl : k = 0 := by simpa using hk
    exact ⟨.slice none 0 0, fun u => by simp [go_sem, sliced], Ints_nil W, .inl rfl⟩
  · obtain ⟨_, hc, hcell⟩ := ints_some h
    have e : (l.drop k).length = l.length - k := by simp
    refine ⟨.slice (some (if c = k then a else a.add k)) (l.length - k) (c - k), fun u => ?_, ⟨_, c - k, by rw [e], by rw [e]; omega, fun hp => ⟨_, rfl, fun i hi' => ?_⟩⟩, .inr ⟨_, c - k, by rw [e]⟩⟩
    · rw [run_slice_l (P := Tryd.prog) u 48 (some a) l.length c (by kernel_rfl) .i64 k (by omega) (by omega)]
      simp [go_sem, sliced]
      split <;> rfl
    · rw [e] at hi' hp
      rw [if_neg (by omega), Addr.add_add, hcell (k + i) (by omega)]
      simp [nth, List.getD]
/-- 'append([]int(nil), l...)' as a step of a region that draws. -/
theorem step_ints {y : Nat → Option Bool} {o : Oper} {a : Act} {w : World} {K : Act → World → Prop} {Q : Exit → Act → World → Prop} {E : Prop} (hg : o.guard = none) (s x : Operand)
    (hop : o.op = Op.call { callee := Callee.builtin Builtin.append, args := #[s, x], argTypes := #[48, 48] }) (hs : a.eval s = .slice none 0 0) (v : Value) (l : List Int) (hx : a.eval x = v) (h : Ints w v l) (hsh : Shp v l) (hl : l.length * 8 ≤ 140737488355328)
    (hK : ∀ v' w', Own w.heap.size w' v' l → w.grownBy w' none → K (a.put o.dst v') w') : if Region.wanted o y = true then Oper.wp Tryd.prog o a w K Q else E := by
  obtain ⟨i0, hi, hz0, hz1, hz2⟩ := info_parts infoI64
  have hw : Region.wanted o y = true := by simp [Region.wanted, hg]
  rw [if_pos hw]
  rcases hsh with rfl | ⟨ad, c, rfl⟩
  · obtain rfl := ints_none h
    have hrun := run_append_owned_none (P := Tryd.prog) (w := w) w.heap.size 48 o.type 3 i0 1 Tryd.underlying48 hi (.slice none 0 0) 0 [] (World.ownsRow_nil _ _ _ _)
    unfold Oper.wp
    simp [execOp, hop, resolve, invoke, builtin, hs, hx, hrun, Result.andThen]
    exact hK _ _ (Own_nil _ _) (grown_refl _ _)
  · obtain ⟨_, hc, hcell⟩ := ints_some h
    refine wp_append_own w s x 48 hop w.heap.size 3 i0 (.int .i64 0) 1 8 Tryd.underlying48 hi hz0 hz1 hz2 rfl (by decide) _ 0 [] hs (World.ownsRow_nil _ _ _ _) ad l.length c (l.map (Value.int .i64)) hx (by simp) (fun j u hu => ?_) (fun u hu => ?_) (by unfold maxLen; omega) (by omega) (Nat.le_refl _) (fun v' w' h2 h3 _ => hK v' w' ?_ h3)
    · have hj : j < l.length := by
        by_cases hj : j < l.length
        · exact hj
        · rw [List.getElem?_eq_none (by simp; omega)] at hu; cases hu
      rw [hcell j hj]
      simpa [nth, List.getD, hj] using hu
    · obtain ⟨x, _, rfl⟩ := List.mem_map.1 hu
      rfl
    · unfold Own; simpa using h2
/-- 'append(a, b...)', a of the call's own. -/
theorem wpList_append_both {ops : Array Oper} {rest : List Oper} {o : Oper} {a : Act} {w : World} {Q : Exit → Act → World → Prop} (hgd : Region.wanted o (yielded ops a.tmps) = true) (s x : Operand)
    (hop : o.op = Op.call { callee := Callee.builtin Builtin.append, args := #[s, x], argTypes := #[48, 48] }) (base : Nat) (va vb : Value) (A B : List Int) (hs : a.eval s = va) (hx : a.eval x = vb) (ha : Own base w va A) (hb : Ints w vb B) (hsh : Shp vb B)
    (hl : (A.length + B.length) * 8 ≤ 140737488355328) (hbase : base ≤ w.heap.size)
    (h : ∀ v' w', Own base w' v' (A ++ B) → w.grownBy w' va.ownBlock → wpList Tryd.prog ops Q rest (a.put o.dst v') w') : wpList Tryd.prog ops Q (o :: rest) a w := by
  obtain ⟨i0, hi, hz0, hz1, hz2⟩ := info_parts infoI64
  have key : ∀ K : Act → World → Prop, (∀ v' w', Own base w' v' (A ++ B) → w.grownBy w' va.ownBlock → K (a.put o.dst v') w') → Oper.wp Tryd.prog o a w K Q := by
    intro K hK
    rcases hsh with rfl | ⟨ad, c, rfl⟩
    · obtain rfl := ints_none hb
      have hrun := run_append_owned_none (P := Tryd.prog) (w := w) base 48 o.type 3 i0 1 Tryd.underlying48 hi va _ _ ha
      unfold Oper.wp
      simp [execOp, hop, resolve, invoke, builtin, hs, hx, hrun, Result.andThen]
      exact hK _ _ (by rw [List.append_nil]; exact ha) (grown_refl _ _)
    · obtain ⟨_, hc, hcell⟩ := ints_some hb
      refine wp_append_own w s x 48 hop base 3 i0 (.int .i64 0) 1 8 Tryd.underlying48 hi hz0 hz1 hz2 rfl (by decide) va A.length _ hs ha ad B.length c (B.map (Value.int .i64)) hx (by simp) (fun j u hu => ?_) (fun u hu => ?_) (by unfold maxLen; omega) (by omega) hbase (fun v' w' h2 h3 _ => hK v' w' ?_ h3)
      · have hj : j < B.length := by
          by_cases hj : j < B.length
          · exact hj
          · rw [List.getElem?_eq_none (by simp; omega)] at hu; cases hu
        rw [hcell j hj]
        simpa [nth, List.getD, hj] using hu
      · obtain ⟨x, _, rfl⟩ := List.mem_map.1 hu
        rfl
      · unfold Own; simpa using h2
  refine wpList_step fun K hK => ?_
  rw [if_pos hgd]
  exact key K fun v' w' h1 h2 => hK _ _ (h v' w' h1 h2)
theorem Own.lt {base : Nat} {w : World} {v : Value} {l : List Int} (h : Own base w v l) (g : Nat) (hg : v.ownBlock = some g) : base ≤ g ∧ g < w.heap.size := by
  rcases h.2 with ⟨rfl, _⟩ | ⟨g', cap, cur, rfl, h1, h2, _⟩
  · cases hg
  · simp [Value.ownBlock] at hg
    subst hg
    exact ⟨h1, lt_of_some h2⟩
theorem Own.apart {N : Nat} {w : World} {va vb : Value} {B : List Int} (hlt : ∀ g, va.ownBlock = some g → g < N) (hb : Own N w vb B) : va.ownBlock = none ∨ va.ownBlock ≠ vb.ownBlock := by
  rcases ea : va.ownBlock with _ | g
  · exact .inl rfl
  · right
    intro e
    have := (hb.lt g e.symm).1
    have := hlt g ea
    omega
theorem Own.shp {base : Nat} {w : World} {v : Value} {l : List Int} (h : Own base w v l) : Shp v l := by
  rcases h.2 with ⟨rfl, _⟩ | ⟨g', cap, cur, rfl, _⟩
  · exact .inl rfl
  · exact .inr ⟨_, cap, rfl⟩
theorem ints_lit (u : World) (z : Int) : Ints (u.alloc (.cells #[.int .i64 z] 3)) (.slice (some ⟨u.heap.size, 0, none⟩) 1 1) [z] := by
  refine ⟨some ⟨u.heap.size, 0, none⟩, 1, rfl, Nat.le_refl _, fun _ => ⟨_, rfl, fun i hi => ?_⟩⟩
  rw [Addr.add_mid, Nat.zero_add, cell_of_heap (heap_new u _)]
  match i, hi with
  | 0, _ => rfl
theorem own_lit (u : World) (base : Nat) (hb : base ≤ u.heap.size) (z : Int) : Own base (u.alloc (.cells #[.int .i64 z] 3)) (.slice (some ⟨u.heap.size, 0, none⟩) 1 1) [z] :=
  ⟨rfl, .inr ⟨u.heap.size, 1, #[.int .i64 z], rfl, hb, heap_new u _, Nat.le_refl _, by unfold maxLen; omega, rfl, rfl⟩⟩
theorem grown_own' {w u u' : World} {r : Option Nat} (h : w.grownBy u none) (g : u.grownBy u' r) (hr : ∀ b, r = some b → w.heap.size ≤ b) : w.grownBy u' none :=
  grown_trans h g none (fun i e _ => by cases e) (fun i e hi => by have := hr i e; omega)
/-- A list that is not empty: its block. -/
theorem Own.form {base : Nat} {w : World} {v : Value} {l : List Int} (h : Own base w v l) (hl : 0 < l.length) : ∃ g cap, v = .slice (some ⟨g, 0, none⟩) l.length cap ∧ base ≤ g ∧ g < w.heap.size ∧ l.length ≤ cap := by
  rcases h.2 with ⟨_, h0⟩ | ⟨g, cap, cur, hv, hb, hg, hn, _⟩
  · omega
  · exact ⟨g, cap, hv, hb, lt_of_some hg, hn⟩
theorem Own.cell {base : Nat} {w : World} {g cap n : Nat} {l : List Int} (h : Own base w (.slice (some ⟨g, 0, none⟩) n cap) l) (hn : n = l.length) (j : Nat) (hj : j < l.length) : w.cell? ⟨g, j, none⟩ = some (.int .i64 (nth l j)) := by
  subst hn
  have := World.ownsRow.cellAt h j (by omega)
  rw [this]
  simp [nth, List.getD, hj]
theorem Own.free {base : Nat} {w : World} {g cap n : Nat} {l : List Int} (h : Own base w (.slice (some ⟨g, 0, none⟩) n cap) l) (hn : n = l.length) (j : Nat) : w.frozen? ⟨g, j, none⟩ = false := by
  subst hn
  exact World.ownsRow.frozenAt h j
theorem Own.set {base : Nat} {w : World} {g cap n : Nat} {l : List Int} (h : Own base w (.slice (some ⟨g, 0, none⟩) n cap) l) (hn : n = l.length) (j : Nat) (z : Int) : Own base (w.setCell ⟨g, j, none⟩ (.int .i64 z)) (.slice (some ⟨g, 0, none⟩) n cap) (l.set j z) ∧ w.grownBy (w.setCell ⟨g, j, none⟩ (.int .i64 z)) (some g) := by
  subst hn
  have := World.ownsRow.stored h j (.int .i64 z)
  refine ⟨?_, this.2⟩
  unfold Own
  rw [List.length_set, List.map_set]
  exact this.1
/-- What is written below base. -/
theorem Own.keepLt {base : Nat} {w w' : World} {v : Value} {l : List Int} {b : Nat} (h : Own base w v l) (g : w.grownBy w' (some b)) (hb : b < base) : Own base w' v l := by
  refine h.kept g ?_
  rcases e : v.ownBlock with _ | c
  · exact .inl rfl
  · right
    intro e'
    have := (h.lt c e).1
    cases e'
    omega
theorem Own.keepNe {base : Nat} {w w' : World} {g n cap : Nat} {l : List Int} {b : Nat} (h : Own base w (.slice (some ⟨g, 0, none⟩) n cap) l) (gr : w.grownBy w' (some b)) (hb : g ≠ b) : Own base w' (.slice (some ⟨g, 0, none⟩) n cap) l :=
  h.kept gr (.inr (by simpa [Value.ownBlock] using hb))
theorem nth_snoc0 (l : List Int) (j : Nat) : nth (l ++ [0]) j = nth l j := by
  rcases Nat.lt_trichotomy j l.length with h | h | h
  · simp [nth, List.getD, List.getElem?_append, h]
  · subst h; rw [getD_out l _ (Nat.le_refl _)]; simp [nth, List.getD]
  · rw [getD_out l _ (by omega), getD_out _ _ (by simp; omega)]
end Go.Proofs.YtjgdkinnpgiabaaDoor
