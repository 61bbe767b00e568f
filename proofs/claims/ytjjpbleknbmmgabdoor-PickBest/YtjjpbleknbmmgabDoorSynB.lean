/- The contract of package synth's after: a copy within one array. -/
import Derived.Test.YtjjpbleknbmmgabDoorSynA
namespace Go.Proofs.YtjjpbleknbmmgabDoor
open Go.RowKit
set_option linter.unusedVariables false
set_option linter.unusedSimpArgs false
set_option maxHeartbeats 1000000

theorem grown_setRow' (w : World) (g : Nat) (cs : Array Value) : w.grownBy (w.setRow g cs) (some g) :=
  ⟨rfl, rfl, rfl, by simp, fun k _ h => setRow_other w g k cs (fun e => h (by rw [e]))⟩
theorem copy_row (p : List Int) (hp : p.length = 8) : ((arrI p).toList.take 1 ++ (p.take 7).map (Value.int .i64) ++ (arrI p).toList.drop (1 + ((p.take 7).map (Value.int .i64)).length)).toArray = arrI (nth p 0 :: p.take 7) := by
  match p, hp with
  | [a, b, c, d, e, f, g, h], _ => rfl
/-- 'copy(p[1:], p[:])' as a step of a region that draws. -/
theorem step_copy_blk {y : Nat → Option Bool} {o : Oper} {a : Act} {w : World} {K : Act → World → Prop} {Q : Exit → Act → World → Prop} {E : Prop} (hg : o.guard = none) (d s : Operand)
    (hop : o.op = Op.call { callee := Callee.builtin Builtin.copy, args := #[d, s], argTypes := #[23, 23] }) (b : Nat) (T : TypeId) (p : List Int) (hb : Blk w b T p) (hp : p.length = 8)
    (hd : a.eval d = .slice (some ⟨b, 1, none⟩) 7 7) (hs : a.eval s = .slice (some ⟨b, 0, none⟩) 8 8)
    (hK : ∀ w', Blk w' b T (nth p 0 :: p.take 7) → w.grownBy w' (some b) → K (a.put o.dst (goInt 7)) w') : if Region.wanted o y = true then Oper.wp Tryd.prog o a w K Q else E := by
  have hw : Region.wanted o y = true := by simp [Region.wanted, hg]
  rw [if_pos hw]
  have hsz : (Tryd.prog.info? 3).map (·.size) = some 1 := by kernel_rfl
  have hrun := run_copy_row (P := Tryd.prog) w 23 23 o.type 3 b 1 7 7 ⟨b, 0, none⟩ 8 8 (arrI p) T ((p.take 7).map (Value.int .i64)) Tryd.underlying23 hsz hb (by simp [hp])
    (fun j v hv => by
      have hj : j < 7 := by
        by_cases hj : j < 7
        · exact hj
        · rw [List.getElem?_eq_none (by simp; omega)] at hv; cases hv
      rw [Addr.add_mid, Nat.zero_add, hb.cell j (by omega)]
      rw [List.getElem?_map, List.getElem?_take, if_pos hj] at hv
      simpa [nth, List.getD, show j < p.length by omega] using hv)
    (by simp [arrI, hp]) (fun v hv => by
      obtain ⟨x, _, rfl⟩ := List.mem_map.1 hv
      rfl)
  rw [copy_row p hp, show ((p.take 7).map (Value.int .i64)).length = 7 by simp [hp]] at hrun
  unfold Oper.wp
  simp [execOp, hop, resolve, invoke, builtin, hd, hs, hrun, Result.andThen]
  exact hK _ (setRow_heap _ _ _ _ _ _ hb) (grown_setRow' _ _ _)
def aftL (p : List Int) (s : Int) : List Int := s :: p.take 7
theorem aftL_len (p : List Int) (s : Int) (hp : p.length = 8) : (aftL p s).length = 8 := by simp [aftL, hp]
theorem aft_newL (p l : List Int) (s : Int) : aftL (newL p l) s = newL p (l ++ [s]) := by
  apply tab_ext (aftL_len _ _ (newL_len _ _))
  intro i hi
  rw [← newL_nth _ _ _ hi, newL_snoc _ _ _ _ hi]
  by_cases h0 : i = 0
  · subst h0; rfl
  · rw [if_neg h0]
    obtain ⟨j, rfl⟩ : ∃ j, i = j + 1 := ⟨i - 1, by omega⟩
    show nth ((newL p l).take 7) j = nth (newL p l) (j + 1 - 1)
    rw [nth_take _ _ _ (by omega), Nat.add_sub_cancel]
end Go.Proofs.YtjjpbleknbmmgabDoor
