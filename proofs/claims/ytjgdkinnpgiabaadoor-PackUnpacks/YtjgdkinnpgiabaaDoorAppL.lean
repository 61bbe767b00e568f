/- append(a, b...) where a is of the call's own: where the answer lies (taken out of Memo); families of lists of the call's own, each in a block of its own. -/
import Derived.Test.YtjgdkinnpgiabaaDoorOwns
import Derived.Laws.CopyOwn
namespace Go.Proofs.YtjgdkinnpgiabaaDoor
open Go.RowKit
set_option linter.unusedVariables false
set_option linter.unusedSimpArgs false
set_option maxHeartbeats 1000000

/-- 'append(a, b...)', a of the call's own, b not empty: the answer lies in a's block or in a new one. -/
theorem run_app {w : World} {base : Nat} {v vb : Value} {A B : List Int} (ha : Own base w v A) (hb : Ints w vb B) (hB : 0 < B.length) (hl : (A.length + B.length) * 8 ≤ 140737488355328) (hbase : base ≤ w.heap.size) (ty : TypeId) :
    ∃ v' w', Sem.run Tryd.prog (Builtin.append_ #[48, 48] ty #[v, vb]) w = .ok v' w' ∧ Own base w' v' (A ++ B) ∧ w.grownBy w' v.ownBlock ∧ ∀ g', v'.ownBlock = some g' → v.ownBlock = some g' ∨ w.heap.size ≤ g' := by
  obtain ⟨i0, hi, hz0, hz1, hz2⟩ := info_parts infoI64
  obtain ⟨ad, c, rfl, hc, hv⟩ := hb
  obtain ⟨ab, rfl, hcell⟩ := hv hB
  have hnews : ∀ j u, (B.map (Value.int .i64))[j]? = some u → w.cell? (ab.add j) = some u := fun j u hu => by
    have hj : j < B.length := by
      by_cases hj : j < B.length
      · exact hj
      · rw [List.getElem?_eq_none (by simp; omega)] at hu; cases hu
    rw [hcell j hj]
    simpa [nth, List.getD, hj] using hu
  have hone : ∀ u ∈ B.map (Value.int .i64), u.oneCell' = true := fun u hu => by
    obtain ⟨x, _, rfl⟩ := List.mem_map.1 hu
    rfl
  obtain ⟨v', w', hr, h2, h3, _⟩ := run_append_own (P := Tryd.prog) w base 48 ty 3 i0 (.int .i64 0) 1 8 Tryd.underlying48 hi hz0 hz1 hz2 rfl (by decide) v A.length _ ha ab B.length c (B.map (Value.int .i64)) (by simp) hnews hone (by unfold maxLen; omega) (by omega) hbase
  refine ⟨v', w', hr, by unfold Own; simpa using h2, h3, fun g' hg' => ?_⟩
  rcases ha.2 with ⟨rfl, hA⟩ | ⟨g, cap, cur, rfl, hbg, hg, hnc, hcm, hcs, htake⟩
  · have hA0 : A = [] := List.eq_nil_of_length_eq_zero hA
    subst hA0
    obtain ⟨v2, w2, hr2, o2, _, _⟩ := run_append_own (P := Tryd.prog) w w.heap.size 48 ty 3 i0 (.int .i64 0) 1 8 Tryd.underlying48 hi hz0 hz1 hz2 rfl (by decide) (.slice none 0 0) 0 [] (World.ownsRow_nil _ _ _ _) ab B.length c (B.map (Value.int .i64)) (by simp) hnews hone (by unfold maxLen; simp at hl; omega) (by simpa using hl) (Nat.le_refl _)
    rw [hr] at hr2
    cases hr2
    exact .inr (o2.lt g' hg').1
  · by_cases hroom : A.length + B.length ≤ cap
    · have hr2 := run_append_room (P := Tryd.prog) w 48 ty 3 i0 Tryd.underlying48 hi g A.length cap cur hg ab B.length c (B.map (Value.int .i64)) (by rw [hz1]; simp) hnews hone hroom (by rw [hz1, hcs]; simp; omega)
      rw [hr] at hr2
      cases hr2
      exact .inl hg'
    · have hr2 := run_append_grow (P := Tryd.prog) w 48 ty 3 i0 (.int .i64 0) Tryd.underlying48 hi hz0 ⟨g, 0, none⟩ A.length cap (A.map (Value.int .i64)) (by rw [hz1]; simp) (World.ownsRow.cells ha (g := g) rfl) ab B.length c (B.map (Value.int .i64)) (by rw [hz1]; simp) hnews (by omega) (by omega) (by rw [hz2]; exact growslice_fits (by omega) (by omega))
      rw [hr] at hr2
      cases hr2
      simp [Value.ownBlock] at hg'
      exact .inr (by omega)
theorem wpList_app {ops : Array Oper} {rest : List Oper} {o : Oper} {a : Act} {w : World} {Q : Exit → Act → World → Prop} (hgd : Region.wanted o (yielded ops a.tmps) = true) (s x : Operand)
    (hop : o.op = Op.call { callee := Callee.builtin Builtin.append, args := #[s, x], argTypes := #[48, 48] }) (base : Nat) (va vb : Value) (A B : List Int) (hs : a.eval s = va) (hx : a.eval x = vb) (ha : Own base w va A) (hb : Ints w vb B) (hB : 0 < B.length)
    (hl : (A.length + B.length) * 8 ≤ 140737488355328) (hbase : base ≤ w.heap.size)
    (h : ∀ v' w', Own base w' v' (A ++ B) → w.grownBy w' va.ownBlock → (∀ g', v'.ownBlock = some g' → va.ownBlock = some g' ∨ w.heap.size ≤ g') → wpList Tryd.prog ops Q rest (a.put o.dst v') w') : wpList Tryd.prog ops Q (o :: rest) a w := by
  obtain ⟨v', w', hr, h1, h2, h3⟩ := run_app ha hb hB hl hbase o.type
  refine wpList_step fun K hK => ?_
  rw [if_pos hgd]
  unfold Oper.wp
  simp [execOp, hop, resolve, invoke, builtin, hs, hx, hr, Result.andThen]
  exact hK _ _ (h v' w' h1 h2 h3)
theorem grown_some {w w' : World} {r : Option Nat} (h : w.grownBy w' r) (r' : Option Nat) (hr : ∀ g, r = some g → r' = some g ∨ w.heap.size ≤ g) : w.grownBy w' r' :=
  ⟨h.1, h.2, h.3, h.4, fun k hk hne => h.5 k hk (fun e => by rcases hr k e.symm with q | q; exact hne q.symm; omega)⟩
/-- Lists of the call's own, no two in one block. -/
def Fam (base : Nat) (w : World) (vs : List (Value × List Int)) : Prop :=
  (∀ (i : Nat) (v : Value) (A : List Int), vs[i]? = some (v, A) → Own base w v A) ∧ ∀ (i j : Nat) (v : Value) (A : List Int) (u : Value) (B : List Int), vs[i]? = some (v, A) → vs[j]? = some (u, B) → i ≠ j → ∀ g, v.ownBlock = some g → u.ownBlock ≠ some g
theorem Fam.get {base : Nat} {w : World} {vs : List (Value × List Int)} (h : Fam base w vs) (i : Nat) {v : Value} {A : List Int} (hi : vs[i]? = some (v, A)) : Own base w v A := h.1 i v A hi
theorem Fam.keep {base : Nat} {w w' : World} {vs : List (Value × List Int)} (h : Fam base w vs) (g : w.grownBy w' none) : Fam base w' vs := ⟨fun i v A hi => (h.1 i v A hi).keep g, h.2⟩
/-- One list turned, in its own block or in a new one. -/
theorem Fam.upd {base : Nat} {w w' : World} {vs : List (Value × List Int)} (h : Fam base w vs) (i : Nat) (v v' : Value) (A A' : List Int) (hi : vs[i]? = some (v, A)) (g : w.grownBy w' v.ownBlock) (o : Own base w' v' A') (n : ∀ g', v'.ownBlock = some g' → v.ownBlock = some g' ∨ w.heap.size ≤ g') : Fam base w' (vs.set i (v', A')) := by
  have hlen : i < vs.length := by
    rcases Nat.lt_or_ge i vs.length with h | h
    · exact h
    · rw [List.getElem?_eq_none h] at hi; cases hi
  have get : ∀ (j : Nat) (u : Value) (B : List Int), (vs.set i (v', A'))[j]? = some (u, B) → (j = i ∧ u = v' ∧ B = A') ∨ (j ≠ i ∧ vs[j]? = some (u, B)) := fun j u B hj => by
    by_cases e : j = i
    · subst e
      rw [List.getElem?_set_self hlen] at hj
      cases hj
      exact .inl ⟨rfl, rfl, rfl⟩
    · rw [List.getElem?_set_ne (Ne.symm e)] at hj
      exact .inr ⟨e, hj⟩
  have old : ∀ (j : Nat) (u : Value) (B : List Int), j ≠ i → vs[j]? = some (u, B) → Own base w' u B := fun j u B hj hu => by
    refine (h.1 j u B hu).kept g ?_
    rcases e : u.ownBlock with _ | b
    · exact .inl rfl
    · right
      intro e'
      exact h.2 j i u B v A hu hi hj b e e'.symm
  have new : ∀ (j : Nat) (u : Value) (B : List Int), j ≠ i → vs[j]? = some (u, B) → ∀ g, u.ownBlock = some g → v'.ownBlock ≠ some g := fun j u B hj hu k hk e => by
    rcases n k e with q | q
    · exact h.2 j i u B v A hu hi hj k hk q
    · have := ((h.1 j u B hu).lt k hk).2
      omega
  refine ⟨fun j u B hj => ?_, fun j k u B u2 B2 hj hk hjk g hg => ?_⟩
  · rcases get j u B hj with ⟨_, rfl, rfl⟩ | ⟨e, hu⟩
    · exact o
    · exact old j u B e hu
  · rcases get j u B hj with ⟨rfl, rfl, rfl⟩ | ⟨e, hu⟩ <;> rcases get k u2 B2 hk with ⟨rfl, rfl, rfl⟩ | ⟨e2, hu2⟩
    · exact absurd rfl hjk
    · intro q
      exact new k u2 B2 e2 hu2 g q hg
    · exact new j u B e hu g hg
    · exact h.2 j k u B u2 B2 hu hu2 hjk g hg
/-- A member that was nothing is a list of a new block. -/
theorem Fam.put {base : Nat} {w w' : World} {vs : List (Value × List Int)} (h : Fam base w vs) (i : Nat) (v' : Value) (A' : List Int) (hi : vs[i]? = some (.slice none 0 0, [])) (g : w.grownBy w' none) (o : Own base w' v' A') (n : ∀ g', v'.ownBlock = some g' → w.heap.size ≤ g') : Fam base w' (vs.set i (v', A')) :=
  h.upd i _ v' [] A' hi g o (fun g' hg' => .inr (n g' hg'))
theorem Fam.nil {base : Nat} {w : World} {n : Nat} : Fam base w (List.replicate n (.slice none 0 0, [])) :=
  ⟨fun i v A hi => by
    have := (List.mem_replicate.1 (List.mem_of_getElem? hi)).2
    cases this
    exact Own_nil _ _, fun i j v A u B hi _ _ g hg => by
    have := (List.mem_replicate.1 (List.mem_of_getElem? hi)).2
    cases this
    cases hg⟩
theorem own_new (u : World) (base : Nat) (hb : base ≤ u.heap.size) (l : List Int) (hl : l.length ≤ 1000) : Own base (u.alloc (.cells (arrI l) 3)) (.slice (some ⟨u.heap.size, 0, none⟩) l.length l.length) l :=
  ⟨by simp, .inr ⟨u.heap.size, l.length, arrI l, rfl, hb, heap_new u _, Nat.le_refl _, by unfold maxLen; omega, by simp [arrI], by simp [arrI]; exact List.take_of_length_le (by simp)⟩⟩
/-- 'append(a, b...)' as a step of a region that draws. -/
theorem step_app {y : Nat → Option Bool} {o : Oper} {a : Act} {w : World} {K : Act → World → Prop} {Q : Exit → Act → World → Prop} {E : Prop} (hg : o.guard = none) (s x : Operand)
    (hop : o.op = Op.call { callee := Callee.builtin Builtin.append, args := #[s, x], argTypes := #[48, 48] }) (base : Nat) (va vb : Value) (A B : List Int) (hs : a.eval s = va) (hx : a.eval x = vb) (ha : Own base w va A) (hb : Ints w vb B) (hB : 0 < B.length)
    (hl : (A.length + B.length) * 8 ≤ 140737488355328) (hbase : base ≤ w.heap.size)
    (h : ∀ v' w', Own base w' v' (A ++ B) → w.grownBy w' va.ownBlock → (∀ g', v'.ownBlock = some g' → va.ownBlock = some g' ∨ w.heap.size ≤ g') → K (a.put o.dst v') w') : if Region.wanted o y = true then Oper.wp Tryd.prog o a w K Q else E := by
  have hw : Region.wanted o y = true := by simp [Region.wanted, hg]
  rw [if_pos hw]
  obtain ⟨v', w', hr, h1, h2, h3⟩ := run_app ha hb hB hl hbase o.type
  unfold Oper.wp
  simp [execOp, hop, resolve, invoke, builtin, hs, hx, hr, Result.andThen]
  exact h v' w' h1 h2 h3
/-- The own blocks of a family's lists are none of another type's. -/
theorem Own.ne_blk {base : Nat} {w : World} {v : Value} {A : List Int} {b : Nat} {T : TypeId} {rs : List Int} (h : Own base w v A) (hb : Blk w b T rs) (hT : T ≠ 3) : ∀ g, v.ownBlock = some g → b ≠ g := by
  intro g hg e
  rcases h.2 with ⟨rfl, _⟩ | ⟨g', cap, cur, rfl, _, hh, _⟩
  · cases hg
  · simp [Value.ownBlock] at hg
    subst hg
    subst e
    unfold Blk at hb
    rw [hh] at hb
    simp at hb
    exact hT hb.2.symm
theorem Blk.keepOwn {base : Nat} {w w' : World} {v : Value} {A : List Int} {b : Nat} {T : TypeId} {rs : List Int} (hb : Blk w b T rs) (h : Own base w v A) (hT : T ≠ 3) (g : w.grownBy w' v.ownBlock) : Blk w' b T rs := by
  rcases e : v.ownBlock with _ | k
  · rw [e] at g; exact hb.keep g
  · rw [e] at g; exact hb.keepBut g (h.ne_blk hb hT k e)
end Go.Proofs.YtjgdkinnpgiabaaDoor
