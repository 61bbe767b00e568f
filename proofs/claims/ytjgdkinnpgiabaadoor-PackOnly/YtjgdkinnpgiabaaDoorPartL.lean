/- A part of a block of ints: a copy into it, a struct stored into it, as steps of a region that draws. -/
import Derived.Test.YtjgdkinnpgiabaaDoorRegA
import Derived.Test.YtjgdkinnpgiabaaDoorAppL
import Derived.Laws.CopyOwn
namespace Go.Proofs.YtjgdkinnpgiabaaDoor
open Go.RowKit
set_option linter.unusedVariables false
set_option linter.unusedSimpArgs false
set_option maxHeartbeats 1000000

/-- M laid over L from place off on. -/
def splI (L : List Int) (off : Nat) (M : List Int) : List Int := L.take off ++ M ++ L.drop (off + M.length)
theorem splI_len (L : List Int) (off : Nat) (M : List Int) (h : off + M.length ≤ L.length) : (splI L off M).length = L.length := by simp [splI]; omega
theorem splI_nth (L : List Int) (off : Nat) (M : List Int) (h : off + M.length ≤ L.length) (k : Nat) : nth (splI L off M) k = if k < off then nth L k else if k < off + M.length then nth M (k - off) else nth L k := by
  unfold splI nth
  have e : min off L.length = off := by omega
  by_cases h1 : k < off
  · rw [if_pos h1]
    simp [List.getD, List.getElem?_append, h1, e, show k < L.length by omega, show k < off + M.length by omega]
  · rw [if_neg h1]
    by_cases h2 : k < off + M.length
    · rw [if_pos h2]
      simp [List.getD, List.getElem?_append, e, h1, h2]
      rw [if_pos (by omega)]
    · rw [if_neg h2]
      simp [List.getD, List.getElem?_append, e, h1, h2]
      rw [if_neg (by omega), show off + M.length + (k - off - M.length) = k by omega]
theorem grown_setRowI (w : World) (g : Nat) (cs : Array Value) : w.grownBy (w.setRow g cs) (some g) :=
  ⟨rfl, rfl, rfl, by simp, fun k _ h => setRow_other w g k cs (fun e => h (by rw [e]))⟩
/-- copy(p[off:], l[..]) into a block of any type. -/
theorem step_copyI {y : Nat → Option Bool} {o : Oper} {a : Act} {w : World} {K : Act → World → Prop} {Q : Exit → Act → World → Prop} {E : Prop} (hg : o.guard = none) (d s : Operand)
    (hop : o.op = Op.call { callee := Callee.builtin Builtin.copy, args := #[d, s], argTypes := #[48, 48] }) (b off n dc sc : Nat) (T : TypeId) (p L : List Int) (ad : Addr) (hb : Blk w b T p)
    (hd : a.eval d = .slice (some ⟨b, off, none⟩) n dc) (hs : a.eval s = .slice (some ad) n sc) (hL : L.length = n) (hsrc : ∀ j, j < n → w.cell? (ad.add j) = some (.int .i64 (nth L j))) (hfit : off + n ≤ p.length)
    (hK : ∀ w', Blk w' b T (splI p off L) → w.grownBy w' (some b) → K (a.put o.dst (goInt n)) w') : if Region.wanted o y = true then Oper.wp Tryd.prog o a w K Q else E := by
  have hw : Region.wanted o y = true := by simp [Region.wanted, hg]
  rw [if_pos hw]
  have hsz : (Tryd.prog.info? 3).map (·.size) = some 1 := by kernel_rfl
  have hrun := run_copy_row (P := Tryd.prog) w 48 48 o.type 3 b off n dc ad n sc (arrI p) T (L.map (Value.int .i64)) Tryd.underlying48 hsz hb (by simp [hL])
    (fun j v hv => by
      have hj : j < L.length := by
        by_cases hj : j < L.length
        · exact hj
        · rw [List.getElem?_eq_none (by simp; omega)] at hv; cases hv
      rw [hsrc j (by omega)]
      simpa [nth, List.getD, hj] using hv)
    (by simp [arrI, hL]; omega) (fun v hv => by
      obtain ⟨x, _, rfl⟩ := List.mem_map.1 hv
      rfl)
  have e : ((arrI p).toList.take off ++ L.map (Value.int .i64) ++ (arrI p).toList.drop (off + (L.map (Value.int .i64)).length)).toArray = arrI (splI p off L) := by
    simp [arrI, splI, List.map_take, List.map_drop]
  rw [e, List.length_map, hL] at hrun
  unfold Oper.wp
  simp [execOp, hop, resolve, invoke, builtin, hd, hs, hrun, Result.andThen]
  exact hK _ (setRow_heap _ _ _ _ _ _ hb) (grown_setRowI _ _ _)
theorem heap_setPart (b : Nat) (T : TypeId) : ∀ (M : List Int) (o : Nat) (w : World) (p : List Int), Blk w b T p → o + M.length ≤ p.length → Blk (w.setCells b o (M.map (Value.int .i64))) b T (splI p o M) ∧ w.grownBy (w.setCells b o (M.map (Value.int .i64))) (some b)
  | [], o, w, p, h, _ => ⟨by show Blk w b T (splI p o []); unfold splI; simp; exact h, grown_refl w _⟩
  | z :: M, o, w, p, h, hl => by
    simp only [List.length_cons] at hl
    have h1 := h.set o z
    obtain ⟨a1, a2⟩ := heap_setPart b T M (o + 1) (w.setCell ⟨b, o, none⟩ (.int .i64 z)) (p.set o z) h1 (by rw [List.length_set]; omega)
    refine ⟨?_, grown_trans (grown_setCell w ⟨b, o, none⟩ _) a2 (some b) (fun i e _ => e) (fun i e _ => e)⟩
    have e : splI (p.set o z) (o + 1) M = splI p o (z :: M) := by
      unfold splI
      rw [List.take_succ_eq_append_getElem (by rw [List.length_set]; omega)]
      simp [show o < p.length by omega]
      rw [List.drop_set_of_lt (by omega), show o + 1 + M.length = o + (M.length + 1) by omega]
      rw [List.take_set_of_le (Nat.le_refl _)]
    rw [← e]
    exact a1
/-- A struct of ints stored into a part of a block. -/
theorem step_storeI {y : Nat → Option Bool} {o : Oper} {a : Act} {w : World} {K : Act → World → Prop} {Q : Exit → Act → World → Prop} {E : Prop} (hg : o.guard = none) (T : TypeId) (x z : Operand) (ho : o.op = .store T x z)
    (b off : Nat) (TB : TypeId) (p M : List Int) (hx : a.eval x = .pointer (some ⟨b, off, none⟩)) (hy : a.eval z = .agg (arrI M)) (h : Blk w b TB p) (hl : off + M.length ≤ p.length) (hi : (Tryd.prog.info? T).map (·.size) = some M.length)
    (k : ∀ w', Blk w' b TB (splI p off M) → w.grownBy w' (some b) → K (a.put o.dst undef) w') : if Region.wanted o y = true then Oper.wp Tryd.prog o a w K Q else E := by
  have hw : Region.wanted o y = true := by simp [Region.wanted, hg]
  rw [if_pos hw]
  obtain ⟨p1, p2⟩ := heap_setPart b TB M off w p h hl
  exact wp_store_mid T x z ho b off (arrI M) hx hy (by
    rw [show (arrI M).size = M.length by simp [arrI]]
    intro j hj
    exact ⟨by rw [h.cell (off + j) (by omega)]; rfl, h.free (off + j)⟩) (by simpa [arrI] using hi) (ones_arrI M) (k _ (by simpa [arrI] using p1) (by simpa [arrI] using p2))
end Go.Proofs.YtjgdkinnpgiabaaDoor
