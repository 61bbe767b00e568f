/- The contract of package synth's after: a copy within one array. -/
import Derived.Test.YtjjpbleknbmmgabSynA
namespace Go.Proofs.Ytjjpbleknbmmgab
open Go.RowKit
set_option linter.unusedVariables false
set_option linter.unusedSimpArgs false
set_option maxHeartbeats 1000000

theorem grown_setRow' (w : World) (g : Nat) (cs : Array Value) : w.grownBy (w.setRow g cs) (some g) :=
  ⟨rfl, rfl, rfl, by simp, fun k _ h => setRow_other w g k cs (fun e => h (by rw [e]))⟩
theorem copy_row (p : List Int) (hp : p.length = 8) : ((arrI p).toList.take 1 ++ (p.take 7).map (Value.int .i64) ++ (arrI p).toList.drop (1 + ((p.take 7).map (Value.int .i64)).length)).toArray = arrI (nth p 0 :: p.take 7) := by
  match p, hp with
  | [a, b, c, d, e, f, g, h], _ => rfl
/-- 'copy(p[1:], p[:])' as a step of a region that draws. -/
theorem step_copy_blk {y : Nat → Option Bool} {o : Oper} {a : Act} {w : World} {K : Act → World → Prop} {Q : Exit → Act → World → Prop} {E : Prop} (hg : o.guard = none) (d s : Operand)
    (hop : o.op = Op.call { callee := Callee.builtin Builtin.copy, args := #[d, s], argTypes := #[24, 24] }) (b : Nat) (T : TypeId) (p : List Int) (hb : Blk w b T p) (hp : p.length = 8)
    (hd : a.eval d = .slice (some ⟨b, 1, none⟩) 7 7) (hs : a.eval s = .slice (some ⟨b, 0, none⟩) 8 8)
    (hK : ∀ w', Blk w' b T (nth p 0 :: p.take 7) → w.grownBy w' (some b) → K (a.put o.dst (goInt 7)) w') : if Region.wanted o y = true then Oper.wp Try.prog o a w K Q else E := by
  have hw : Region.wanted o y = true := by simp [Region.wanted, hg]
  rw [if_pos hw]
  have hsz : (Try.prog.info? 3).map (·.size) = some 1 := by kernel_rfl
  have hrun := run_copy_row (P := Try.prog) w 24 24 o.type 3 b 1 7 7 ⟨b, 0, none⟩ 8 8 (arrI p) T ((p.take 7).map (Value.int .i64)) Try.underlying24 hsz hb (by simp [hp])
    (fun j v hv => by
      have hj : j < 7 := by
        by_cases hj : j < 7
        · exact hj
        · rw [List.getElem?_eq_none (by simp; omega)] at hv; cases hv
      rw [Addr.add_mid, Nat.zero_add, hb.cell j (by omega)]
      rw [List.getElem?_map, List.getElem?_take, if_pos hj] at hv
      simpa [nth, List.getD, show j < p.length by omega] using hv)
    (by simp [arrI, hp]) (fun v hv => by
      obtain ⟨x, _, rfl⟩ := List.mem_map.1 hv
      rfl)
  rw [copy_row p hp, show ((p.take 7).map (Value.int .i64)).length = 7 by simp [hp]] at hrun
  unfold Oper.wp
  simp [execOp, hop, resolve, invoke, builtin, hd, hs, hrun, Result.andThen]
  exact hK _ (setRow_heap _ _ _ _ _ _ hb) (grown_setRow' _ _ _)
def aftL (p : List Int) (s : Int) : List Int := s :: p.take 7
theorem aftL_len (p : List Int) (s : Int) (hp : p.length = 8) : (aftL p s).length = 8 := by simp [aftL, hp]
theorem aft_newL (p l : List Int) (s : Int) : aftL (newL p l) s = newL p (l ++ [s]) := by
  apply tab_ext (aftL_len _ _ (newL_len _ _))
  intro i hi
  rw [← newL_nth _ _ _ hi, newL_snoc _ _ _ _ hi]
  by_cases h0 : i = 0
  · subst h0; rfl
  · rw [if_neg h0]
    obtain ⟨j, rfl⟩ : ∃ j, i = j + 1 := ⟨i - 1, by omega⟩
    show nth ((newL p l).take 7) j = nth (newL p l) (j + 1 - 1)
    rw [nth_take _ _ _ (by omega), Nat.add_sub_cancel]
set_option maxRecDepth 100000 in
theorem after_any (p : List Int) (hp : p.length = 8) (s : Int) (w : World) :
    Calls Try.prog 23 #[.agg (arrI p), .int .i64 s] w (AnsG w (.agg (arrI (aftL p s)))) := by
  have L0 := hide (laid2 w 23 23 p (zeros 8))
  rw [z8'] at L0
  go_enter Try.func23, Try.ntmps23
  go_upto_region 1 with fail
  have M0 := hide (show Mem2 w _ 23 23 p (zeros 8) from L0.out)
  clear L0
  generalize (w.alloc (.cells (arrI p) 23)).alloc _ = W0 at *
  refine wp_region_held_drew (S := GrownW w) (by kernel_rfl) (grown_drew M0.out.2.2) (fun hHeld => ?_)
  refine wpAnyH_take (i := 0) (v := .slice (some ⟨w.heap.size, 1, none⟩) 7 7) rfl (by kernel_rfl) (by kernel_rfl) (by kernel_rfl) (fun _ _ _ h => h) (Or.inl ⟨by rfl, ?ya0⟩) hHeld ?ra0
  case ya0 => (intro w' hSw; go_simp; (try with_reducible rfl))
  (try simp only [Act.put, List.setIfInBounds_toArray, List.set_cons_zero, List.set_cons_succ, List.getElem_toArray, List.getElem_cons_zero, List.getElem_cons_succ])
  refine wpAnyH_take (i := 1) (v := .slice (some ⟨w.heap.size, 0, none⟩) 8 8) rfl (by kernel_rfl) (by kernel_rfl) (by kernel_rfl) (fun _ _ _ h => h) (Or.inl ⟨by rfl, ?ya1⟩) hHeld ?ra1
  case ya1 => (intro w' hSw; go_simp; (try with_reducible rfl))
  (try simp only [Act.put, List.setIfInBounds_toArray, List.set_cons_zero, List.set_cons_succ, List.getElem_toArray, List.getElem_cons_zero, List.getElem_cons_succ])
  refine wpAnyH_ready (rs := [2]) (by kernel_rfl) (by simp) (AllReadyH.cons rfl (fun K hK => ?_) AllReadyH.nil)
  (try simp only [Act.put, List.setIfInBounds_toArray, List.set_cons_zero, List.set_cons_succ, List.getElem_toArray, List.getElem_cons_zero, List.getElem_cons_succ])
  refine step_copy_blk rfl _ _ rfl w.heap.size 23 p (M0.out.1.keep (gw_start W0)) hp rfl rfl ?_
  intro w1 b1 g1
  have B1 := hide b1
  have G1 := hide g1
  have N0 := hide M0.out.1.lt
  have BB := hide ((M0.out.2.1.keep (gw_start W0)).keepBut G1.out (by omega))
  have GM := hide (grown_own hHeld G1.out (Nat.le_refl _))
  clear b1 g1 M0 G1 N0 hHeld
  refine hK.out _ _ GM.out (fun hHeld => ?_)
  clear hK
  (try simp only [Act.put, List.setIfInBounds_toArray, List.set_cons_zero, List.set_cons_succ, List.getElem_toArray, List.getElem_cons_zero, List.getElem_cons_succ])
  refine wpAnyH_done (by kernel_rfl) ?_ _
  have hl1 : (nth p 0 :: p.take 7).length = 8 := by simp [hp]
  have c0 := B1.out.cell 0 (by rw [hl1]; omega)
  have f0 := B1.out.free 0
  have BS := hide (B1.out.set 0 s)
  have GS := hide (grown_setCell w1 ⟨w.heap.size, 0, none⟩ (.int .i64 s))
  have hl2 := aftL_len p s hp
  rw [show (nth p 0 :: p.take 7).set 0 s = aftL p s from rfl] at BS
  clear B1
  generalize nth (nth p 0 :: p.take 7) 0 = x0 at *
  generalize aftL p s = q at *
  go_upto_region 3 with fail
  have BB2 := hide (BB.out.keepBut GS.out (by simp))
  have GM2 := hide (grown_own GM.out GS.out (by simp))
  clear BB GM GS c0 f0
  generalize w1.setCell _ _ = w2 at *
  go_wp2_with (first | refine wpList_load_arr rfl 23 _ rfl _ rfl _ BS.out _ Try.underlying23 rfl (by rw [hl2]; exact size8') ?_ | refine wpList_store_arr rfl 23 _ _ rfl _ (zeros 8) q rfl rfl BB2.out (by rw [hl2, zeros_len]) (by rw [zeros_len]; exact size8') ?_)
  have PU := put_arr (rs' := q) BB2.out (by rw [hl2, zeros_len])
  have hlv := loadVar_arr PU.1 _ Try.underlying23 rfl (by rw [hl2]; exact size8')
  have GF := hide (grown_own GM2.out PU.2 (by omega))
  refine bodyPost_ret (v := .agg (arrI q)) ?_ rfl ⟨rfl, GF.out⟩
  simp [results, Try.results23, asAddr, Act.put, hlv]
end Go.Proofs.Ytjjpbleknbmmgab
