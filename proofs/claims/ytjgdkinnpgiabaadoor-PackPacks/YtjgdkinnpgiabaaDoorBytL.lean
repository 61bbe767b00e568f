/- Lists of bytes as they lie in memory, and those of the call's own (by mkByt.py out of Ints and Owns). -/
import Derived.Test.YtjgdkinnpgiabaaDoorOwns
namespace Go.Proofs.YtjgdkinnpgiabaaDoor
open Go.RowKit
set_option linter.unusedVariables false
set_option linter.unusedSimpArgs false
set_option maxHeartbeats 1000000

def Byts (w : World) (v : Value) (l : List Int) : Prop :=
  ∃ (ad : Option Addr) (c : Nat), v = .slice ad l.length c ∧ l.length ≤ c ∧ (0 < l.length → ∃ a, ad = some a ∧ ∀ i, i < l.length → w.cell? (a.add i) = some (.int .u8 (nth l i)))
def arrB (l : List Int) : Array Value := (l.map (Value.int .u8)).toArray
theorem arrB_get (l : List Int) (i : Nat) (h : i < l.length) : (arrB l)[i]? = some (.int .u8 (nth l i)) := by
  simp [arrB, nth, List.getD, h]
theorem arrB_set (l : List Int) (k : Nat) (v : Int) : (arrB l).setIfInBounds k (.int .u8 v) = arrB (l.set k v) := by
  simp [arrB, List.map_set]
theorem infoU8 : (Tryd.prog.info? 5).map (fun i => (i.zero, i.size, i.bytes)) = some (some (.int .u8 0), 1, 1) := by kernel_rfl
theorem made_arrB (n : Nat) : madeCells #[.int .u8 0] n = arrB (List.replicate n 0) := by
  unfold arrB madeCells
  apply Array.ext
  · simp
  · intro i h1 h2
    simp [Nat.mod_one]
theorem make_byt (z : Int) (h0 : 0 ≤ z) (h1 : z ≤ 35184372088832) (u : World) :
    (Instr.makeSlice 31 (.int .i64 z) (.int .i64 z)).run Tryd.prog u = .ok (.slice (some ⟨u.heap.size, 0, none⟩) z.toNat z.toNat) (u.alloc (.cells (arrB (List.replicate z.toNat 0)) 5)) := by
  obtain ⟨i0, hi, hz0, hz1, hz2⟩ := info_parts infoU8
  have h := run_make (P := Tryd.prog) u 31 5 i0 (.int .u8 0) Tryd.underlying31 hi hz0 .i64 .i64 z z h0 (Int.le_refl _) (by rw [hz2]; omega) (by omega)
  rw [← made_arrB]
  simpa [hz1, Value.cells] using h
theorem Byts_keep {w w' : World} {v : Value} {l : List Int} (h : Byts w v l) (g : w.grownBy w' none) : Byts w' v l := by
  obtain ⟨ad, c, rfl, hc, hcell⟩ := h
  refine ⟨ad, c, rfl, hc, fun h => ?_⟩
  obtain ⟨a, rfl, hv⟩ := hcell h
  exact ⟨a, rfl, fun i hi => grown_keep g (hv i hi)⟩
theorem Byts_of_owns {w : World} {base : Nat} {v : Value} {l : List Int} (h : w.ownsRow base 5 1 v l.length (l.map (Value.int .u8))) : Byts w v l := by
  obtain ⟨h1, h2⟩ := h
  rcases h2 with ⟨h2, h3⟩ | ⟨g, cap, cur, h2, _, h4, h5, _, h7, h8⟩
  · exact ⟨none, 0, by rw [h2, h3], by omega, fun h => by omega⟩
  · refine ⟨some ⟨g, 0, none⟩, cap, h2, h5, fun _ => ⟨_, rfl, fun i hi => ?_⟩⟩
    have e : (cur.toList.take (l.length * 1))[i]? = (l.map (Value.int .u8))[i]? := by rw [h8]
    rw [List.getElem?_take, if_pos (by omega), Array.getElem?_toList] at e
    have ea : (⟨g, 0, none⟩ : Addr).add i = ⟨g, i, none⟩ := by unfold Addr.add; split <;> simp_all
    rw [ea, cell_of_heap h4, e]
    simp [nth, List.getD, hi]
def OwnB (base : Nat) (w : World) (v : Value) (l : List Int) : Prop := w.ownsRow base 5 1 v l.length (l.map (Value.int .u8))
theorem OwnB.byts {base : Nat} {w : World} {v : Value} {l : List Int} (h : OwnB base w v l) : Byts w v l := Byts_of_owns h
theorem OwnB.keep {base : Nat} {w w' : World} {v : Value} {l : List Int} (h : OwnB base w v l) (g : w.grownBy w' none) : OwnB base w' v l :=
  h.kept g (by rcases v.ownBlock with _ | b <;> simp)
theorem OwnB.keepBut {base : Nat} {w w' : World} {v : Value} {l : List Int} {b : Nat} {cs : Array Value} {t : TypeId} {f : Nat × Nat} (h : OwnB base w v l) (g : w.grownBy w' (some b)) (hb : w.heap[b]? = some (.cells cs t f)) (ht : t ≠ 5) : OwnB base w' v l := by
  refine h.kept g ?_
  rcases h.2 with ⟨rfl, _⟩ | ⟨g', cap, cur, rfl, _, hg, _⟩
  · exact .inl rfl
  · right
    intro e
    simp [Value.ownBlock] at e
    subst e
    rw [hg] at hb
    simp at hb
    exact ht hb.2.1.symm
theorem OwnB.base {b b' : Nat} {w : World} {v : Value} {l : List Int} (h : OwnB b w v l) (hb : b' ≤ b) : OwnB b' w v l := by
  refine ⟨h.1, ?_⟩
  rcases h.2 with h | ⟨g, cap, cur, e, h1, h2⟩
  · exact .inl h
  · exact .inr ⟨g, cap, cur, e, by omega, h2⟩
theorem OwnB_nil (b : Nat) (w : World) : OwnB b w (.slice none 0 0) [] := World.ownsRow_nil _ _ _ _
theorem byts_some {W : World} {a : Addr} {n c : Nat} {l : List Int} (h : Byts W (.slice (some a) n c) l) : n = l.length ∧ n ≤ c ∧ ∀ i, i < l.length → W.cell? (a.add i) = some (.int .u8 (nth l i)) := by
  obtain ⟨ad, c', e, h1, h2⟩ := h
  simp only [Value.slice.injEq] at e
  obtain ⟨rfl, rfl, rfl⟩ := e
  refine ⟨rfl, h1, fun i hi => ?_⟩
  obtain ⟨a', e', h3⟩ := h2 (by omega)
  cases e'
  exact h3 i hi
theorem byts_none {W : World} {l : List Int} (h : Byts W (.slice none 0 0) l) : l = [] := by
  obtain ⟨ad, c, e, _, _⟩ := h
  simp only [Value.slice.injEq] at e
  exact List.length_eq_zero_iff.1 e.2.1.symm
theorem Byts_nil (W : World) : Byts W (.slice none 0 0) [] := ⟨none, 0, rfl, Nat.le_refl _, fun h => by simp at h⟩
theorem slice_hB {W : World} {v : Value} {l : List Int} (h : Byts W v l) (hsh : Shp v l) (k : Nat) (hk : k ≤ l.length) :
    ∃ vA, (∀ u, Sem.run Tryd.prog (Instr.slice 31 v none (some (.int .i64 k)) none) u = .ok vA u) ∧ Byts W vA (l.take k) ∧ Shp vA (l.take k) := by
  obtain ⟨i0, hi, hz0, hz1, hz2⟩ := info_parts infoU8
  rcases hsh with rfl | ⟨a, c, rfl⟩
  · obtain rfl := byts_none h
    obtain rfl : k = 0 := by simpa using hk
    exact ⟨.slice none 0 0, fun u => by simp [go_sem, sliced], Byts_nil W, .inl rfl⟩
  · obtain ⟨_, hc, hcell⟩ := byts_some h
    have e : (l.take k).length = k := by simp; omega
    refine ⟨.slice (some a) k c, fun u => ?_, ⟨some a, c, by rw [e], by rw [e]; omega, fun _ => ⟨a, rfl, fun i hi' => ?_⟩⟩, .inr ⟨a, c, by rw [e]⟩⟩
    · rw [run_slice_h (P := Tryd.prog) u 31 (some a) l.length c (by kernel_rfl) .i64 k (by omega) (by omega)]
      simp [go_sem, sliced]
    · rw [e] at hi'
      rw [hcell i (by omega)]
      simp [nth, List.getD, List.getElem?_take, hi']
theorem step_byts {y : Nat → Option Bool} {o : Oper} {a : Act} {w : World} {K : Act → World → Prop} {Q : Exit → Act → World → Prop} {E : Prop} (hg : o.guard = none) (s x : Operand)
    (hop : o.op = Op.call { callee := Callee.builtin Builtin.append, args := #[s, x], argTypes := #[31, 31] }) (hs : a.eval s = .slice none 0 0) (v : Value) (l : List Int) (hx : a.eval x = v) (h : Byts w v l) (hsh : Shp v l) (hl : l.length * 1 ≤ 140737488355328)
    (hK : ∀ v' w', OwnB w.heap.size w' v' l → w.grownBy w' none → K (a.put o.dst v') w') : if Region.wanted o y = true then Oper.wp Tryd.prog o a w K Q else E := by
  obtain ⟨i0, hi, hz0, hz1, hz2⟩ := info_parts infoU8
  have hw : Region.wanted o y = true := by simp [Region.wanted, hg]
  rw [if_pos hw]
  rcases hsh with rfl | ⟨ad, c, rfl⟩
  · obtain rfl := byts_none h
    have hrun := run_append_owned_none (P := Tryd.prog) (w := w) w.heap.size 31 o.type 5 i0 1 Tryd.underlying31 hi (.slice none 0 0) 0 [] (World.ownsRow_nil _ _ _ _)
    unfold Oper.wp
    simp [execOp, hop, resolve, invoke, builtin, hs, hx, hrun, Result.andThen]
    exact hK _ _ (OwnB_nil _ _) (grown_refl _ _)
  · obtain ⟨_, hc, hcell⟩ := byts_some h
    refine wp_append_own w s x 31 hop w.heap.size 5 i0 (.int .u8 0) 1 1 Tryd.underlying31 hi hz0 hz1 hz2 rfl (by decide) _ 0 [] hs (World.ownsRow_nil _ _ _ _) ad l.length c (l.map (Value.int .u8)) hx (by simp) (fun j u hu => ?_) (fun u hu => ?_) (by unfold maxLen; omega) (by omega) (Nat.le_refl _) (fun v' w' h2 h3 _ => hK v' w' ?_ h3)
    · have hj : j < l.length := by
        by_cases hj : j < l.length
        · exact hj
        · rw [List.getElem?_eq_none (by simp; omega)] at hu; cases hu
      rw [hcell j hj]
      simpa [nth, List.getD, hj] using hu
    · obtain ⟨x, _, rfl⟩ := List.mem_map.1 hu
      rfl
    · unfold OwnB; simpa using h2
theorem wpList_append_bothB {ops : Array Oper} {rest : List Oper} {o : Oper} {a : Act} {w : World} {Q : Exit → Act → World → Prop} (hgd : Region.wanted o (yielded ops a.tmps) = true) (s x : Operand)
    (hop : o.op = Op.call { callee := Callee.builtin Builtin.append, args := #[s, x], argTypes := #[31, 31] }) (base : Nat) (va vb : Value) (A B : List Int) (hs : a.eval s = va) (hx : a.eval x = vb) (ha : OwnB base w va A) (hb : Byts w vb B) (hsh : Shp vb B)
    (hl : (A.length + B.length) * 1 ≤ 140737488355328) (hbase : base ≤ w.heap.size)
    (h : ∀ v' w', OwnB base w' v' (A ++ B) → w.grownBy w' va.ownBlock → wpList Tryd.prog ops Q rest (a.put o.dst v') w') : wpList Tryd.prog ops Q (o :: rest) a w := by
  obtain ⟨i0, hi, hz0, hz1, hz2⟩ := info_parts infoU8
  have key : ∀ K : Act → World → Prop, (∀ v' w', OwnB base w' v' (A ++ B) → w.grownBy w' va.ownBlock → K (a.put o.dst v') w') → Oper.wp Tryd.prog o a w K Q := by
    intro K hK
    rcases hsh with rfl | ⟨ad, c, rfl⟩
    · obtain rfl := byts_none hb
      have hrun := run_append_owned_none (P := Tryd.prog) (w := w) base 31 o.type 5 i0 1 Tryd.underlying31 hi va _ _ ha
      unfold Oper.wp
      simp [execOp, hop, resolve, invoke, builtin, hs, hx, hrun, Result.andThen]
      exact hK _ _ (by rw [List.append_nil]; exact ha) (grown_refl _ _)
    · obtain ⟨_, hc, hcell⟩ := byts_some hb
      refine wp_append_own w s x 31 hop base 5 i0 (.int .u8 0) 1 1 Tryd.underlying31 hi hz0 hz1 hz2 rfl (by decide) va A.length _ hs ha ad B.length c (B.map (Value.int .u8)) hx (by simp) (fun j u hu => ?_) (fun u hu => ?_) (by unfold maxLen; omega) (by omega) hbase (fun v' w' h2 h3 _ => hK v' w' ?_ h3)
      · have hj : j < B.length := by
          by_cases hj : j < B.length
          · exact hj
          · rw [List.getElem?_eq_none (by simp; omega)] at hu; cases hu
        rw [hcell j hj]
        simpa [nth, List.getD, hj] using hu
      · obtain ⟨x, _, rfl⟩ := List.mem_map.1 hu
        rfl
      · unfold OwnB; simpa using h2
  refine wpList_step fun K hK => ?_
  rw [if_pos hgd]
  exact key K fun v' w' h1 h2 => hK _ _ (h v' w' h1 h2)
theorem OwnB.lt {base : Nat} {w : World} {v : Value} {l : List Int} (h : OwnB base w v l) (g : Nat) (hg : v.ownBlock = some g) : base ≤ g ∧ g < w.heap.size := by
  rcases h.2 with ⟨rfl, _⟩ | ⟨g', cap, cur, rfl, h1, h2, _⟩
  · cases hg
  · simp [Value.ownBlock] at hg
    subst hg
    exact ⟨h1, lt_of_some h2⟩
theorem OwnB.shp {base : Nat} {w : World} {v : Value} {l : List Int} (h : OwnB base w v l) : Shp v l := by
  rcases h.2 with ⟨rfl, _⟩ | ⟨g', cap, cur, rfl, _⟩
  · exact .inl rfl
  · exact .inr ⟨_, cap, rfl⟩
theorem byts_lit (u : World) (z : Int) : Byts (u.alloc (.cells #[.int .u8 z] 5)) (.slice (some ⟨u.heap.size, 0, none⟩) 1 1) [z] := by
  refine ⟨some ⟨u.heap.size, 0, none⟩, 1, rfl, Nat.le_refl _, fun _ => ⟨_, rfl, fun i hi => ?_⟩⟩
  rw [Addr.add_mid, Nat.zero_add, cell_of_heap (heap_new u _)]
  match i, hi with
  | 0, _ => rfl
theorem ownB_lit (u : World) (base : Nat) (hb : base ≤ u.heap.size) (z : Int) : OwnB base (u.alloc (.cells #[.int .u8 z] 5)) (.slice (some ⟨u.heap.size, 0, none⟩) 1 1) [z] :=
  ⟨rfl, .inr ⟨u.heap.size, 1, #[.int .u8 z], rfl, hb, heap_new u _, Nat.le_refl _, by unfold maxLen; omega, rfl, rfl⟩⟩
theorem OwnB.form {base : Nat} {w : World} {v : Value} {l : List Int} (h : OwnB base w v l) (hl : 0 < l.length) : ∃ g cap, v = .slice (some ⟨g, 0, none⟩) l.length cap ∧ base ≤ g ∧ g < w.heap.size ∧ l.length ≤ cap := by
  rcases h.2 with ⟨_, h0⟩ | ⟨g, cap, cur, hv, hb, hg, hn, _⟩
  · omega
  · exact ⟨g, cap, hv, hb, lt_of_some hg, hn⟩
theorem OwnB.cell {base : Nat} {w : World} {g cap n : Nat} {l : List Int} (h : OwnB base w (.slice (some ⟨g, 0, none⟩) n cap) l) (hn : n = l.length) (j : Nat) (hj : j < l.length) : w.cell? ⟨g, j, none⟩ = some (.int .u8 (nth l j)) := by
  subst hn
  have := World.ownsRow.cellAt h j (by omega)
  rw [this]
  simp [nth, List.getD, hj]
theorem OwnB.free {base : Nat} {w : World} {g cap n : Nat} {l : List Int} (h : OwnB base w (.slice (some ⟨g, 0, none⟩) n cap) l) (hn : n = l.length) (j : Nat) : w.frozen? ⟨g, j, none⟩ = false := by
  subst hn
  exact World.ownsRow.frozenAt h j
theorem OwnB.set {base : Nat} {w : World} {g cap n : Nat} {l : List Int} (h : OwnB base w (.slice (some ⟨g, 0, none⟩) n cap) l) (hn : n = l.length) (j : Nat) (z : Int) : OwnB base (w.setCell ⟨g, j, none⟩ (.int .u8 z)) (.slice (some ⟨g, 0, none⟩) n cap) (l.set j z) ∧ w.grownBy (w.setCell ⟨g, j, none⟩ (.int .u8 z)) (some g) := by
  subst hn
  have := World.ownsRow.stored h j (.int .u8 z)
  refine ⟨?_, this.2⟩
  unfold OwnB
  rw [List.length_set, List.map_set]
  exact this.1
theorem OwnB.keepLt {base : Nat} {w w' : World} {v : Value} {l : List Int} {b : Nat} (h : OwnB base w v l) (g : w.grownBy w' (some b)) (hb : b < base) : OwnB base w' v l := by
  refine h.kept g ?_
  rcases e : v.ownBlock with _ | c
  · exact .inl rfl
  · right
    intro e'
    have := (h.lt c e).1
    cases e'
    omega
theorem OwnB.keepNe {base : Nat} {w w' : World} {g n cap : Nat} {l : List Int} {b : Nat} (h : OwnB base w (.slice (some ⟨g, 0, none⟩) n cap) l) (gr : w.grownBy w' (some b)) (hb : g ≠ b) : OwnB base w' (.slice (some ⟨g, 0, none⟩) n cap) l :=
  h.kept gr (.inr (by simpa [Value.ownBlock] using hb))
end Go.Proofs.YtjgdkinnpgiabaaDoor
